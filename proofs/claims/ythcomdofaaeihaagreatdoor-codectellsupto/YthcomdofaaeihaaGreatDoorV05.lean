import Derived.Test.YthcomdofaaeihaaGreatDoorV04
import Derived.Lib.ValidAsc
import Derived.Lib.Endian
import Derived.Lib.EndianBits
import Derived.Deep.DeepBigQuietO
import Derived.Maps.OwnOps
import Derived.Maps.Views
import Derived.Maps.OwnSet
import Derived.Lib.LazyBuf
import Derived.Shelf.Abstract
import Derived.Laws.IdiomCopy
import Derived.Lib.SliceRun
import Derived.Shelf.Spec.SlicesInsert
import Derived.Lib.AppendZerosOnto
import Derived.Laws.NewBlocks
import Derived.Shelf.Spec.SlicesInsertGrow
import Derived.Laws.BytesArg
import Derived.Laws.StructEq
import Derived.Deep.CutRange
import Derived.Deep.DeepCutAuto
set_option maxHeartbeats 32000000
set_option maxRecDepth 100000
set_option linter.unusedVariables false
namespace Go.Proofs.YthcomdofaaeihaaGreatDoor
namespace L
open Go.RowKit
variable{α β:Type}{a1 a3 a2:Option Addr}{k c1 base c3 cap b n2 n c d c2 n1 n3 o:Nat}{f:FI}{v1 nm v0 vb vf vm ve:Value}{w' w:World}{G F:List Nat}{l:List UInt8}{x:Int}{p:α→Bool}{O:World→β→Prop}{E:EK β}
def yK {α:Type}(p : α→Bool)(l:List α):Int:=match l.findIdx? p with|some k=>(k:Int)|none=>-1
theorem jE {l:List α}{a : α}(ha:l[k]?=some a)(h:∀ b∈l.take k,p b=false)(hp:p a=true):yK p l=(k:Int):=by
 have e:l.findIdx? p=some k:=by
  rw[XG];obtain⟨hk,e⟩:=yG.1 ha;refine⟨hk,by rw[e];exact hp,?_⟩;intro j hj;rw[h _ (List.mem_take_iff_getElem.2 ⟨j,by omega,rfl⟩)];simp
 unfold yK;rw[e]
theorem SL {l:List α}(h:∀ b∈l,p b=false):yK p l = -1:=by
 have e:l.findIdx? p=none:=by rw[bQ];exact h
 unfold yK;rw[e]
theorem Qd7{P:Prop}(h:P:=by
 go_wp2;go_ret;exact⟨rfl,ac⟩):P:=h
theorem C9m {x:List UInt8}(hc:w.heap[c]?=some (.cells #[.string (S x)] 9 (0,0)))(a:List UInt8)(a1:Option Addr)(n1 c1:Nat)(a2:Option Addr)(n2 c2:Nat) :
  Calls Tryz.prog 75 #[.agg #[.string (S a),.slice a1 n1 c1,.slice a2 n2 c2],.pointer (some ⟨c,0,none⟩)] w fun e w'=>e = .returned (.bool (decide (a=x)))∧zB w w':=by
 have c0:w.cell? ⟨c,0,none⟩=some (.string (S x)):=zL hc 0 _ rfl;have ag:=(zR hc)
 have ah:=sL a;have hlx:=sL x;have ac:=(zH w.heap.size w).alloc (zG _) (.cells #[.string (S a),.slice a1 n1 c1,.slice a2 n2 c2] 35);obtain⟨q,Hq⟩:=zM (decide (a=x));have hq:(a==x)=q:=by rw[Hq.out,uR];simp
 rw[←Hq.out];go_enter Tryz.func75,Tryz.ntmps75;exact Qd7
theorem gT{P:Prop}(h:P:=by
 go_wp2_with fail
 refine ac.mono ?_;rintro e w1 ⟨rfl,hb1⟩;go_wp2_with fail
 go_roundg (n-(k+1))
 case measure=>omega
 case rel=>exact⟨k+1,by omega,by go_num,HX,hb.trans (hb1.mono hb.size)⟩):P:=h
theorem Qc3{P:Prop}(h:P:=by
 go_wp2_with fail
 refine ac.mono ?_;rintro e w1 ⟨rfl,hb1⟩;go_wp2;go_ret;exact⟨by rw[HF.out];rfl,hb.trans (hb1.mono hb.size)⟩):P:=h
theorem WA{P:Prop}(h:P:=by
 show ∀ a∈_,_;rw[vX Ha.out];intro y hy;rcases zU.1 hy with hy|hy
 ·exact HK.out y hy
 rw[zS] at hy;rw[hy];exact hq):P:=h
theorem iG{P:Prop}(h:P:=by
 have:=HK.out;rw[uP (by rw[←Hn.out];omega)] at this;exact SL this):P:=h
theorem Qd3{P:Prop}(h:P:=by
 cases hq:decide (a.name=x) with
 | true=>
  have HF:=zI (jE Ha.out HK.out hq);rw[hq] at ac;clear hq;exact Qc3
 | false=>
 have HX:Hid (∀ a∈l.take (k+1),decide (a.name=x)=false):=by
  exact WA
 rw[hq] at ac;clear hq;exact gT):P:=h
theorem Qd5{P:Prop}(h:P:=by
 go_wp2;go_ret;exact⟨by rw[HF.out];rfl,hb⟩):P:=h
theorem C5g {v:Value}{l:List MI}{x:List UInt8}(h:RdL 3 MAt w v l)(hc:w.heap[c]?=some (.cells #[.string (S x)] 9 (0,0))) :
  Calls Tryz.prog 74 #[v,.func (.func 75) #[] #[.pointer (some ⟨c,0,none⟩)]] w fun e w'=>e = .returned (.int .i64 (yK (fun m=>decide (m.name=x)) l))∧zB w w':=by
 obtain⟨ao,n,cap,rfl,Hn,ag⟩:=h.sH;go_enter Tryz.func74,Tryz.ntmps74;go_wp2_with fail
 go_loopg [8] n (fun m i wr=>∃ k:Nat,k+m=n∧i = .int .i64 k∧Hid (∀ a∈l.take k,decide (a.name=x)=false)∧zB w wr)
 case atStart=>exact⟨0,by omega,rfl,by show ∀ a∈_,_;simp,zH _ _⟩
 obtain⟨k,hk,rfl,HK,hb⟩:=hrel;have ah:=(hb.block c (zR hc)).trans hc;by_cases hlt:k<n
 ·obtain⟨a,Ha⟩:=yE (l:=l) (k:=k) (by rw[←Hn.out];exact hlt);obtain⟨b,off,rfl,hat⟩:=(h.bL MAt.sT hb).get MAt.plain Ha.out;obtain⟨vf,vb,s0,s1,s2,ak,aj⟩:=hat.at;obtain⟨af,nf,cf,rfl,_,_⟩:=ak.sH;obtain⟨ab,nb,cb,rfl,_,_⟩:=aj.sH;have au:(k:Int)<(n:Int):=by omega
  have ac:=C9m ah a.name af nf cf ab nb cb;exact Qd3
 have HF:Hid (yK (fun m=>decide (m.name=x)) l = -1):=by
  exact iG
 exact Qd5
theorem Qc9{P:Prop}(h:P:=by
 go_wp2_with fail
 refine hi.mono ?_;rintro e w1 ⟨rfl,hb1⟩;go_wp2;go_ret;exact⟨rfl,hb2.trans (hb1.mono hb2.size)⟩):P:=h
theorem fX {l:List MI}(h:RdL 3 MAt w vm l)(ag:∃ ao n cap,ve = .slice ao n cap)(x:List UInt8) :
  Calls Tryz.prog 28 #[.agg #[vm,ve],.string (S x)] w fun e w'=>e = .returned (.int .i64 (yK (fun m=>decide (m.name=x)) l))∧zB w w':=by
 obtain⟨ao,n,cap,rfl,Hn,ac⟩:=h.sH;obtain⟨ae,ne,ce,rfl⟩:=ag;have ah:=tM;have hb2:zB w ((w.alloc (.cells #[.slice ao n cap,.slice ae ne ce] 25)).alloc (.cells #[.string (S x)] 9)):=((zH _ _).alloc (zG _) _).alloc (by simp) _;have hi:=C5g (h.bL MAt.sT hb2) (pX w _ _);go_enter Tryz.func28,Tryz.ntmps28;exact Qc9
theorem C8a {x:List UInt8}(hc:w.heap[c]?=some (.cells #[.string (S x)] 9 (0,0)))(a:List UInt8)(a1:Option Addr)(n1 c1:Nat) :
  Calls Tryz.prog 223 #[.agg #[.string (S a),.slice a1 n1 c1],.pointer (some ⟨c,0,none⟩)] w fun e w'=>e = .returned (.bool (decide (a=x)))∧zB w w':=by
 have c0:w.cell? ⟨c,0,none⟩=some (.string (S x)):=zL hc 0 _ rfl;have ag:=(zR hc)
 have ah:=sL a;have hlx:=sL x;have ac:=(zH w.heap.size w).alloc (zG _) (.cells #[.string (S a),.slice a1 n1 c1] 92);obtain⟨q,Hq⟩:=zM (decide (a=x));have hq:(a==x)=q:=by rw[Hq.out,uR];simp
 rw[←Hq.out];go_enter Tryz.func223,Tryz.ntmps223;exact Qd7
theorem C4j {v:Value}{l:List EI}{x:List UInt8}(h:RdL 2 EAt w v l)(hc:w.heap[c]?=some (.cells #[.string (S x)] 9 (0,0))) :
  Calls Tryz.prog 222 #[v,.func (.func 223) #[] #[.pointer (some ⟨c,0,none⟩)]] w fun e w'=>e = .returned (.int .i64 (yK (fun m=>decide (m.name=x)) l))∧zB w w':=by
 obtain⟨ao,n,cap,rfl,Hn,ag⟩:=h.sH;go_enter Tryz.func222,Tryz.ntmps222;go_wp2_with fail
 go_loopg [8] n (fun m i wr=>∃ k:Nat,k+m=n∧i = .int .i64 k∧Hid (∀ a∈l.take k,decide (a.name=x)=false)∧zB w wr)
 case atStart=>exact⟨0,by omega,rfl,by show ∀ a∈_,_;simp,zH _ _⟩
 obtain⟨k,hk,rfl,HK,hb⟩:=hrel;have ah:=(hb.block c (zR hc)).trans hc;by_cases hlt:k<n
 ·obtain⟨a,Ha⟩:=yE (l:=l) (k:=k) (by rw[←Hn.out];exact hlt);obtain⟨b,off,rfl,hat⟩:=(h.bL EAt.sT hb).get EAt.plain Ha.out;obtain⟨vi,s0,s1,aj⟩:=hat.at;obtain⟨ai,ni,ci,rfl,_,_⟩:=aj.sH;have ak:(k:Int)<(n:Int):=by omega
  have ac:=C8a ah a.name ai ni ci;exact Qd3
 have HF:Hid (yK (fun m=>decide (m.name=x)) l = -1):=by
  exact iG
 exact Qd5
theorem D3q {l:List EI}(h:RdL 2 EAt w ve l)(ag:∃ ao n cap,vm = .slice ao n cap)(x:List UInt8) :
  Calls Tryz.prog 201 #[.agg #[vm,ve],.string (S x)] w fun e w'=>e = .returned (.int .i64 (yK (fun m=>decide (m.name=x)) l))∧zB w w':=by
 obtain⟨ao,n,cap,rfl,Hn,ac⟩:=h.sH;obtain⟨ae,ne,ce,rfl⟩:=ag;have ah:=tM;have hb2:zB w ((w.alloc (.cells #[.slice ae ne ce,.slice ao n cap] 25)).alloc (.cells #[.string (S x)] 9)):=((zH _ _).alloc (zG _) _).alloc (by simp) _;have hi:=C4j (h.bL EAt.sT hb2) (pX w _ _);go_enter Tryz.func201,Tryz.ntmps201;exact Qc9
structure RI where
 nU:Int
 how:Int
 bits:Nat
 bytes:List UInt8
deriving DecidableEq
structure VI (β:Type) where
 nU:Int
 bits:List Nat
 bytes:List (List UInt8)
 subs:List β
structure BO (β:Type) where
 vals:List (VI β)
 unk:List RI
def BI:Nat→Type
 | 0=>Empty
 | d+1=>BO (BI d)
def UAt (w:World)(x:Addr)(n:Nat):Prop:=w.cell? x=some (.int .u64 (n:Int))
def YAt (w:World)(x:Addr)(b:UInt8):Prop:=w.cell? x=some (.int .u8 (b.toNat:Int))
def ZAt (w:World)(x:Addr)(l:List UInt8):Prop:=∃ v,w.cell? x=some v∧RdL 1 YAt w v l
def RAt (w:World)(x:Addr)(r:RI):Prop:=∃ v,w.cell? x=some (.int .i64 r.nU)∧w.cell? (x.add 1)=some (.int .i64 r.how)∧w.cell? (x.add 2)=some (.int .u64 (r.bits:Int))∧w.cell? (x.add 3)=some v∧RdL 1 YAt w v r.bytes
def VAt {β:Type}(P:World→Addr→β→Prop)(w:World)(x:Addr)(v:VI β):Prop:=∃ v1 v2 v3,w.cell? x=some (.int .i64 v.nU)∧w.cell? (x.add 1)=some v1∧w.cell? (x.add 2)=some v2∧w.cell? (x.add 3)=some v3∧RdL 1 UAt w v1 v.bits∧RdL 1 ZAt w v2 v.bytes∧RdL 2 P w v3 v.subs
def BAt:(d:Nat)→World→Addr→BI d→Prop
 | 0=>fun _ _ _=>False
 | d+1=>fun w x b=>∃ v0 v1,w.cell? x=some v0∧w.cell? (x.add 1)=some v1∧RdL 4 (VAt (BAt d)) w v0 (BO.vals b)∧RdL 4 RAt w v1 (BO.unk b)
def BRd (d:Nat)(w:World)(v0 v1:Value)(b:BO (BI d)):Prop:=RdL 4 (VAt (BAt d)) w v0 b.vals∧RdL 4 RAt w v1 b.unk
theorem UAt.sT:fJ UAt:=fun _ _ _ _ hb h=>zQ hb h
theorem YAt.sT:fJ YAt:=fun _ _ _ _ hb h=>zQ hb h
theorem ZAt.sT:fJ ZAt:=fun _ _ _ _ hb ⟨v,h1,h2⟩=>⟨v,zQ hb h1,h2.bL YAt.sT hb⟩
theorem RAt.sT:fJ RAt:=fun _ _ _ _ hb ⟨v,h1,h2,h3,h4,h5⟩=>⟨v,zQ hb h1,zQ hb h2,zQ hb h3,zQ hb h4,h5.bL YAt.sT hb⟩
theorem VAt.sT {P:World→Addr→β→Prop}(hP:fJ P):fJ (VAt P):=fun _ _ _ _ hb ⟨v1,v2,v3,h1,h2,h3,h4,h5,h6,h7⟩=>⟨v1,v2,v3,zQ hb h1,zQ hb h2,zQ hb h3,zQ hb h4,h5.bL UAt.sT hb,h6.bL ZAt.sT hb,h7.bL hP hb⟩
theorem BAt.sT:∀ d,fJ (BAt d)
 | 0=>fun _ _ _ _ _ h=>h
 | d+1=>fun _ _ _ _ hb ⟨v0,v1,h1,h2,h3,h4⟩=>⟨v0,v1,zQ hb h1,zQ hb h2,h3.bL (VAt.sT (BAt.sT d)) hb,h4.bL RAt.sT hb⟩
theorem BRd.bL {b:BO (BI d)}(h:BRd d w v0 v1 b)(hb:zB w w'):BRd d w' v0 v1 b:=⟨h.1.bL (VAt.sT (BAt.sT d)) hb,h.2.bL RAt.sT hb⟩
theorem UAt.plain:qQ UAt:=fun _ _ _ _ _ h=>pV h
theorem YAt.plain:qQ YAt:=fun _ _ _ _ _ h=>pV h
theorem ZAt.plain:qQ ZAt:=fun _ _ _ _ _ ⟨_,h,_⟩=>pV h
theorem RAt.plain:qQ RAt:=fun _ _ _ _ _ ⟨_,h,_⟩=>pV h
theorem VAt.plain {P:World→Addr→β→Prop}:qQ (VAt P):=fun _ _ _ _ _ ⟨_,_,_,h,_⟩=>pV h
theorem BAt.plain:∀ d,qQ (BAt d)
 | 0=>fun _ _ _ _ _ h=>h.elim
 | _+1=>fun _ _ _ _ _ ⟨_,_,h,_⟩=>pV h
theorem ZAt.at (h:ZAt w ⟨b,o,none⟩ l):∃ v,w.cell? ⟨b,o,none⟩=some v∧RdL 1 YAt w v l:=h
theorem RAt.at {r:RI}(h:RAt w ⟨b,o,none⟩ r):∃ v,w.cell? ⟨b,o,none⟩=some (.int .i64 r.nU)∧w.cell? ⟨b,o+1,none⟩=some (.int .i64 r.how)∧w.cell? ⟨b,o+2,none⟩=some (.int .u64 (r.bits:Int))∧w.cell? ⟨b,o+3,none⟩=some v∧RdL 1 YAt w v r.bytes:=by
 simp only[RAt,xS] at h;exact h
theorem VAt.at {P:World→Addr→β→Prop}{v:VI β}(h:VAt P w ⟨b,o,none⟩ v):∃ v1 v2 v3,w.cell? ⟨b,o,none⟩=some (.int .i64 v.nU)∧w.cell? ⟨b,o+1,none⟩=some v1∧w.cell? ⟨b,o+2,none⟩=some v2∧w.cell? ⟨b,o+3,none⟩=some v3∧RdL 1 UAt w v1 v.bits∧RdL 1 ZAt w v2 v.bytes∧RdL 2 P w v3 v.subs:=by
 simp only[VAt,xS] at h;exact h
theorem BAt.at {x:BI (d+1)}(h:BAt (d+1) w ⟨b,o,none⟩ x):∃ v0 v1,w.cell? ⟨b,o,none⟩=some v0∧w.cell? ⟨b,o+1,none⟩=some v1∧BRd d w v0 v1 x:=by
 simp only[BAt,xS] at h;exact h
def YCells (w:World)(b o:Nat)(l:List UInt8):Prop:=∀ (i:Nat) (x:UInt8),l[i]?=some x→w.cell? ⟨b,o+i,none⟩=some (.int .u8 (x.toNat:Int))
theorem YCells.drop (h:YCells w b o l)(k:Nat):YCells w b (o+k) (l.drop k):=by
 intro i x hx;rw[jX] at hx;have:=h (k+i) x hx
 rwa [←Nat.add_assoc] at this
theorem YCells.bL (h:YCells w b o l)(hb:zB w w'):YCells w' b o l:=fun i x hx=>zQ hb (h i x hx)
theorem D2m {x0 x1 x2 x3 x4 x5 x6 x7:UInt8}{r:List UInt8}(h:YCells w b o (x0::x1::x2::x3::x4::x5::x6::x7::r))(hn:8≤n)(ac:n≤9223372036854775807) :
  Calls Tryz.prog 178 #[.slice (some ⟨b,o,none⟩) n cap] w fun e w'=>e = .returned (.int .u64 (Lib.leNat [x0,x1,x2,x3,x4,x5,x6,x7]:Nat))∧∃ q,w'=w.drewN q:=by
 have h0:=x0.toNat_lt;have h1:=x1.toNat_lt;have h2:=x2.toNat_lt;have h3:=x3.toNat_lt;have h4:=x4.toNat_lt;have h5:=x5.toNat_lt;have h6:=x6.toNat_lt;have h7:=x7.toNat_lt;have hv:((Lib.leNat [x0,x1,x2,x3,x4,x5,x6,x7]:Nat):Int)=(x0.toNat:Int)+(x1.toNat:Int)*256+(x2.toNat:Int)*65536+(x3.toNat:Int)*16777216+(x4.toNat:Int)*4294967296+(x5.toNat:Int)*1099511627776+(x6.toNat:Int)*281474976710656+(x7.toNat:Int)*72057594037927936:=by
  simp only[Lib.leNat]
  push_cast
  omega
 have c0:w.cell? ⟨b,o,none⟩=some (.int .u8 (x0.toNat:Int)):=h 0 x0 rfl;have c1:=h 1 x1 rfl;have c2:=h 2 x2 rfl;have c3:=h 3 x3 rfl;have c4:=h 4 x4 rfl;have c5:=h 5 x5 rfl;have c6:=h 6 x6 rfl;have c7:=h 7 x7 rfl;clear h;have q0:(0:Int)<(n:Int):=by omega
 have q1:(1:Int)<(n:Int):=by omega
 have q2:(2:Int)<(n:Int):=by omega
 have q3:(3:Int)<(n:Int):=by omega
 have q4:(4:Int)<(n:Int):=by omega
 have q5:(5:Int)<(n:Int):=by omega
 have q6:(6:Int)<(n:Int):=by omega
 have q7:(7:Int)<(n:Int):=by omega
 have mixed:Tryz.prog.follows Departure.mixedOrders=true:=by kernel_rfl
 go_enter Tryz.func178,Tryz.ntmps178;go_wp2;go_big_quiet_o (fail);go_wp2;go_ret;refine⟨?_,_,rfl⟩;simp (disch:=omega) only[u64_or8,u64_or16,u64_or24,u64_or32,u64_or40,u64_or48,u64_or56];rw[hv];rfl
theorem C3o (h:YCells w b o l)(hl:8≤l.length)(hn:8≤n)(ac:n≤9223372036854775807) :
  Calls Tryz.prog 178 #[.slice (some ⟨b,o,none⟩) n cap] w fun e w'=>e = .returned (.int .u64 (Lib.leNat (l.take 8):Nat))∧∃ q,w'=w.drewN q:=by
 match l,hl,h with
 | x0::x1::x2::x3::x4::x5::x6::x7::r,_,h=>exact D2m h hn ac
theorem B9i (hl:8≤l.length):Lib.leNat (l.take 8)&&& 9259542123273814144=0↔∀ b∈l.take 8,b.toNat<128:=by
 have:=Lib.leNat_mask (l.take 8)
 rwa [vZ,eM hl,Lib.maskN8] at this
theorem C3p (l:List UInt8):Lib.leNat (l.take 8)<18446744073709551616:=by
 have h:=Lib.leNat_lt (l.take 8);have:256 ^ (l.take 8).length≤256 ^ 8:=mU (by decide) (by rw[vZ];omega);exact nD h (by simpa using this)
theorem YE {a:Nat}(ha:∀ b∈l.take a,b.toNat<128)(hc:∀ b∈(l.drop a).take c,b.toNat<128):∀ b∈l.take (a+c),b.toNat<128:=by
 rw[List.take_add];intro x hx;rcases zU.1 hx with h|h
 ·exact ha x h
 exact hc x h
def kU (r:RI):Prop:=I64 r.nU∧I64 r.how∧r.bits<18446744073709551616∧r.bytes.length*1≤reachBytes
def VOk {β:Type}(Q : β→Prop)(v:VI β):Prop:=I64 v.nU∧(∀ n∈v.bits,n<18446744073709551616)∧v.bits.length*8≤reachBytes∧(∀ l∈v.bytes,l.length*1≤reachBytes)∧v.bytes.length*24≤reachBytes∧(∀ s∈v.subs,Q s)∧v.subs.length*48≤reachBytes
def BOk:(d:Nat)→BI d→Prop
 | 0=>fun _=>False
 | d+1=>fun b=>(∀ v∈BO.vals b,VOk (BOk d) v)∧(BO.vals b).length*80≤reachBytes∧(∀ r∈BO.unk b,kU r)∧(BO.unk b).length*48≤reachBytes
theorem C8g (hc:w.heap[c]?=some (.cells #[.int .i64 x] 3 (0,0)))(f:FI) :
  Calls Tryz.prog 81 #[.agg #[.string (S f.name),.int .i64 f.nU,.int .i64 f.kind,.string (S f.type),.bool f.many,.int .i64 f.cE],.pointer (some ⟨c,0,none⟩)] w fun e w'=>e = .returned (.bool (decide (f.nU=x)))∧zB w w':=by
 have c0:w.cell? ⟨c,0,none⟩=some (.int .i64 x):=zL hc 0 _ rfl;have ag:=(zR hc)
 have ac:=(zH w.heap.size w).alloc (zG _) (.cells #[.string (S f.name),.int .i64 f.nU,.int .i64 f.kind,.string (S f.type),.bool f.many,.int .i64 f.cE] 47);obtain⟨q,Hq⟩:=zM (decide (f.nU=x));have hq:(f.nU==x)=q:=by rw[Hq.out,uR];simp
 rw[←Hq.out];go_enter Tryz.func81,Tryz.ntmps81;exact Qd7
theorem C4t {v:Value}{l:List FI}(h:RdL 6 FAt w v l)(hc:w.heap[c]?=some (.cells #[.int .i64 x] 3 (0,0))) :
  Calls Tryz.prog 80 #[v,.func (.func 81) #[] #[.pointer (some ⟨c,0,none⟩)]] w fun e w'=>e = .returned (.int .i64 (yK (fun f=>decide (f.nU=x)) l))∧zB w w':=by
 obtain⟨ao,n,cap,rfl,Hn,ag⟩:=h.sH;go_enter Tryz.func80,Tryz.ntmps80;go_wp2_with fail
 go_loopg [8] n (fun m i wr=>∃ k:Nat,k+m=n∧i = .int .i64 k∧Hid (∀ a∈l.take k,decide (a.nU=x)=false)∧zB w wr)
 case atStart=>exact⟨0,by omega,rfl,by show ∀ a∈_,_;simp,zH _ _⟩
 obtain⟨k,hk,rfl,HK,hb⟩:=hrel;have ah:=(hb.block c (zR hc)).trans hc;by_cases hlt:k<n
 ·obtain⟨a,Ha⟩:=yE (l:=l) (k:=k) (by rw[←Hn.out];exact hlt);obtain⟨b,off,rfl,hat⟩:=(h.bL FAt.sT hb).get FAt.plain Ha.out;obtain⟨s0,s1,s2,s3,s4,s5⟩:=hat.at;have aj:(k:Int)<(n:Int):=by omega
  have ac:=C8g ah a;cases hq:decide (a.nU=x) with
  | true=>
   have HF:=zI (jE Ha.out HK.out hq);rw[hq] at ac;clear hq hat;exact Qc3
  | false=>
  have HX:Hid (∀ a∈l.take (k+1),decide (a.nU=x)=false):=by
   exact WA
  rw[hq] at ac;clear hq hat;exact gT
 have HF:Hid (yK (fun f=>decide (f.nU=x)) l = -1):=by
  exact iG
 exact Qd5
theorem iU {l:List FI}(h:RdL 6 FAt w vf l)(ah:∃ ao n cap,vb = .slice ao n cap)(ag:∃ s:List UInt8,nm = .string (S s))(x:Int) :
  Calls Tryz.prog 30 #[.agg #[nm,vf,vb],.int .i64 x] w fun e w'=>e = .returned (.int .i64 (yK (fun f=>decide (f.nU=x)) l))∧zB w w':=by
 obtain⟨ao,n,cap,rfl,Hn,ac⟩:=h.sH;obtain⟨ae,ne,ce,rfl⟩:=ah;obtain⟨s,rfl⟩:=ag;have hb2:zB w ((w.alloc (.cells #[.string (S s),.slice ao n cap,.slice ae ne ce] 35)).alloc (.cells #[.int .i64 x] 3)):=((zH _ _).alloc (zG _) _).alloc (by simp) _;have hi:=C4t (h.bL FAt.sT hb2) (pX w _ _);have aj:=tM;go_enter Tryz.func30,Tryz.ntmps30;exact Qc9
theorem D2g (hc:w.heap[c]?=some (.cells #[.int .i64 x] 3 (0,0)))(v:VI β)(a1:Option Addr)(n1 c1:Nat)(a2:Option Addr)(n2 c2:Nat)(a3:Option Addr)(n3 c3:Nat) :
  Calls Tryz.prog 210 #[.agg #[.int .i64 v.nU,.slice a1 n1 c1,.slice a2 n2 c2,.slice a3 n3 c3],.pointer (some ⟨c,0,none⟩)] w fun e w'=>e = .returned (.bool (decide (v.nU=x)))∧zB w w':=by
 have c0:w.cell? ⟨c,0,none⟩=some (.int .i64 x):=zL hc 0 _ rfl;have ag:=(zR hc)
 have ac:=(zH w.heap.size w).alloc (zG _) (.cells #[.int .i64 v.nU,.slice a1 n1 c1,.slice a2 n2 c2,.slice a3 n3 c3] 63);obtain⟨q,Hq⟩:=zM (decide (v.nU=x));have hq:(v.nU==x)=q:=by rw[Hq.out,uR];simp
 rw[←Hq.out];go_enter Tryz.func210,Tryz.ntmps210;exact Qd7
theorem C6s {P:World→Addr→β→Prop}(hP:fJ P){v:Value}{l:List (VI β)}(h:RdL 4 (VAt P) w v l)(hc:w.heap[c]?=some (.cells #[.int .i64 x] 3 (0,0))) :
  Calls Tryz.prog 209 #[v,.func (.func 210) #[] #[.pointer (some ⟨c,0,none⟩)]] w fun e w'=>e = .returned (.int .i64 (yK (fun v=>decide (v.nU=x)) l))∧zB w w':=by
 obtain⟨ao,n,cap,rfl,Hn,ag⟩:=h.sH;go_enter Tryz.func209,Tryz.ntmps209;go_wp2_with fail
 go_loopg [8] n (fun m i wr=>∃ k:Nat,k+m=n∧i = .int .i64 k∧Hid (∀ a∈l.take k,decide (a.nU=x)=false)∧zB w wr)
 case atStart=>exact⟨0,by omega,rfl,by show ∀ a∈_,_;simp,zH _ _⟩
 obtain⟨k,hk,rfl,HK,hb⟩:=hrel;have ah:=(hb.block c (zR hc)).trans hc;by_cases hlt:k<n
 ·obtain⟨a,Ha⟩:=yE (l:=l) (k:=k) (by rw[←Hn.out];exact hlt);obtain⟨b,off,rfl,hat⟩:=(h.bL (VAt.sT hP) hb).get VAt.plain Ha.out;obtain⟨v1,v2,v3,s0,s1,s2,s3,r1,r2,r3⟩:=hat.at;obtain⟨a1,n1,c1,rfl,_,_⟩:=r1.sH;obtain⟨a2,n2,c2,rfl,_,_⟩:=r2.sH;obtain⟨a3,n3,c3,rfl,_,_⟩:=r3.sH;have aj:(k:Int)<(n:Int):=by omega
  have ac:=D2g ah a a1 n1 c1 a2 n2 c2 a3 n3 c3;cases hq:decide (a.nU=x) with
  | true=>
   have HF:=zI (jE Ha.out HK.out hq);rw[hq] at ac;clear hq hat r1 r2 r3;exact Qc3
  | false=>
  have HX:Hid (∀ a∈l.take (k+1),decide (a.nU=x)=false):=by
   exact WA
  rw[hq] at ac;clear hq hat r1 r2 r3;exact gT
 have HF:Hid (yK (fun v=>decide (v.nU=x)) l = -1):=by
  exact iG
 exact Qd5
theorem B3d {P:World→Addr→β→Prop}(hP:fJ P){l:List (VI β)}(h:RdL 4 (VAt P) w v0 l)(ag:∃ ao n cap,v1 = .slice ao n cap)(x:Int) :
  Calls Tryz.prog 179 #[.agg #[v0,v1],.int .i64 x] w fun e w'=>e = .returned (.int .i64 (yK (fun v=>decide (v.nU=x)) l))∧zB w w':=by
 obtain⟨ao,n,cap,rfl,Hn,ac⟩:=h.sH;obtain⟨ae,ne,ce,rfl⟩:=ag;have hb2:zB w ((w.alloc (.cells #[.slice ao n cap,.slice ae ne ce] 29)).alloc (.cells #[.int .i64 x] 3)):=((zH _ _).alloc (zG _) _).alloc (by simp) _;have hi:=C6s hP (h.bL (VAt.sT hP) hb2) (pX w _ _);have ah:=tM;go_enter Tryz.func179,Tryz.ntmps179;exact Qc9
open Go.RowKit Go.WideMaps Go.Maps
theorem VA:Keyed Tryz.prog 3:=int_keyed Tryz.underlying3
theorem E0j (w:World):(zeroValue 3).run Tryz.prog w = .ok (.int .i64 0) w:=by kernel_rfl
abbrev OwnM (w:World) (b n:Nat) (D:DataW Unit):Prop:=w.ownsMap Tryz.prog 3 (plainElem (H:=Unit) Tryz.prog 3) b n D
theorem OwnM.bL {D:DataW Unit}(h:OwnM w b n D)(hb:zB w w'):OwnM w' b n D:=by
 have hlt:=h.lt;obtain⟨es,clock,h1,F,hs,hD⟩:=h;exact⟨es,clock,(hb.block b hlt).trans h1,F,hs,hD⟩
theorem OwnM.block {D:DataW Unit}(h:OwnM w b n D)(hb:w'.heap[b]?=w.heap[b]?):OwnM w' b n D:=by
 obtain⟨es,clock,h1,F,hs,hD⟩:=h;exact⟨es,clock,hb.trans h1,F,hs,hD⟩
def wU (l:List FI)(x:Int):Int:=match l.find? (fun f=>decide (f.nU=x)) with|some f=>f.cE|none=>0
def ChD (D:DataW Unit)(l:List FI):Prop:=∀ x:Int,D.atKey (.int .i64 x) (.lit (.int .i64 0)) = .lit (.int .i64 (wU l x))∧Maps.has D (.int .i64 x)=l.any fun f=>decide (f.nU=x)
theorem ChD.nil:ChD (.map []) []:=fun _=>⟨rfl,rfl⟩
theorem ChD.put {D:DataW Unit}{l:List FI}(h:ChD D l)(hD:IsMap D)(hf:(l.any fun g=>decide (g.nU=f.nU))=false):ChD (D.put (.int .i64 f.nU) (.lit (.int .i64 f.cE))) (l++[f]):=by
 intro x;by_cases e:x=f.nU
 ·subst e;rw[atKey_put_same hD (show WideAt.IsKeyLit (.int .i64 f.nU) from trivial),has_put_same hD (show WideAt.IsKeyLit (.int .i64 f.nU) from trivial)];have h1:l.find? (fun g=>decide (g.nU=f.nU))=none:=by
   rw[oE];intro y hy;rw[mC] at hf;exact hf y hy
  refine⟨?_,by simp⟩;unfold wU;rw[gK,h1];simp
 have e':¬ f.nU=x:=fun h=>e h.symm
 rw[atKey_put_other (by simpa using e),has_put_other (by simpa using e),(h x).1,(h x).2];unfold wU;rw[gK,List.any_append];simp[e']
theorem ChD.skip {D:DataW Unit}{l:List FI}(h:ChD D l)(hf:(l.any fun g=>decide (g.nU=f.nU))=true):ChD D (l++[f]):=by
 intro x;rw[(h x).1,(h x).2];unfold wU;rw[gK,List.any_append];by_cases e:f.nU=x
 ·subst e;rw[List.any_eq_true] at hf;obtain⟨y,hy,hq⟩:=hf;cases h1:l.find? (fun g=>decide (g.nU=f.nU)) with
  | none=>rw[oE] at h1;exact absurd hq (h1 y hy)
  | some z=>exact⟨by simp,by simp;exact⟨y,hy,nS hq⟩⟩
 simp[e]
theorem ChD.get {D:DataW Unit}{l:List FI}{c:Int}(h:ChD D l)(hc:D.atKey (.int .i64 x) (.lit (.int .i64 0)) = .lit (.int .i64 c)):c=wU l x:=by
 have:=(h x).1.symm.trans hc;injection this with h1;injection h1 with _ h2;exact h2.symm
theorem B5k {l:List FI}(h:RdL 6 FAt w vf l)(bn:∃ ao n cap,vb = .slice ao n cap)(bk:∃ s:List UInt8,nm = .string (S s))(bl:∀ f∈l,I64 f.nU∧I64 f.cE)(hl:l.length≤140737488355328) :
  Calls Tryz.prog 226 #[.agg #[nm,vf,vb]] w fun e w'=>∃ b D,e = .returned (.map (some b))∧w.heap.size≤b∧OwnM w' b l.length D∧ChD D l∧zB w w':=by
 obtain⟨ao,n,cap,rfl,Hn,bc⟩:=h.sH;obtain⟨ae,ne,ce,rfl⟩:=bn;obtain⟨s,rfl⟩:=bk;have cw:=@run_makeMap Tryz.prog;have hn:n≤140737488355328:=by rw[Hn.out];exact hl
 obtain⟨W2,au,hb2,-,-⟩:=zV w (.cells #[.string (S s),.slice ao n cap,.slice ae ne ce] 35);have hz2:W2.heap.size=w.heap.size+1:=by rw[au.out];simp
 obtain⟨B,HB⟩:=zM (w.heap.size+1);have cg:=xD HB.out;have cj:=xD HB.out.symm;have aw:OwnM (W2.alloc (.map #[] 0)) B 0 (.map []):=by
  have:=World.ownsMap_made W2 Tryz.prog 3 (plainElem (H:=Unit) Tryz.prog 3);rw[hz2,←HB.out] at this;exact this
 have hb3:Below B W2 (W2.alloc (.map #[] 0)):=(zH _ _).alloc (by omega) _;obtain⟨W3,av⟩:=zM (W2.alloc (.map #[] 0));rw[←av.out] at aw hb3;have ba:=fun V (hV:Below B W2 V)=>hb2.trans (hV.mono (by omega))
 have bu:=xD hz2;clear hz2;go_enter Tryz.func226,Tryz.ntmps226;go_wp2_with fail
 rw[←au.out,←av.out,←HB.out];go_loopg [12] n (fun gm i wr=>∃ (k:Nat) (D:DataW Unit),k+gm=n∧i = .int .i64 k∧OwnM wr B k D∧ChD D (l.take k)∧Below B W2 wr)
 case atStart=>exact⟨0,.map [],by omega,rfl,aw,by rw[mA];exact ChD.nil,hb3⟩
 obtain⟨k,D,hk,rfl,hown,hch,hbr⟩:=hrel;by_cases hlt:k<n
 ·obtain⟨a,Ha⟩:=yE (l:=l) (k:=k) (by rw[←Hn.out];exact hlt);obtain⟨b,off,rfl,hat⟩:=(h.bL FAt.sT (ba wr hbr)).get FAt.plain Ha.out;obtain⟨s0,s1,s2,s3,s4,s5⟩:=hat.at;have cu:(k:Int)<(n:Int):=by omega
  obtain⟨i1,i2⟩:=bl a (xV Ha.out);have hkey:keyOf Tryz.prog 3 (.int .i64 a.nU)=some (.int .i64 a.nU):=keyOf_int_mk Tryz.underlying3 (WalkArith.wf_i64 i1);have hval:plainElem (H:=Unit) Tryz.prog 3 (.int .i64 a.cE)=some (.lit (.int .i64 a.cE),[]):=plainElem_int Tryz.underlying3 (WalkArith.wf_i64 i2);obtain⟨Wm,ag,ak,-,-⟩:=zV wr (.cells #[.string (S a.name),.int .i64 a.nU,.int .i64 a.kind,.string (S a.type),.bool a.many,.int .i64 a.cE] 47);have df:=hown.lt;have ah:=hbr.trans (ak.mono (by omega));have ac:=hown.bL ak;have bh:=ac.isMap;obtain⟨v,ps,hrun,hv⟩:=ac.look_ok VA Tryz.underlying45 (E0j _) (plainElem_int Tryz.underlying3 (WalkArith.wf_i64 (by omega))) hkey;obtain⟨c,rfl,_,_⟩:=plainElem_int_inv Tryz.underlying3 hv;rw[(hch a.nU).2] at hrun;cases hq:(l.take k).any (fun f=>decide (f.nU=a.nU)) with
  | true=>
   have HX:ChD D (l.take (k+1)):=by rw[vX Ha.out];exact hch.skip hq
   rw[hq,ag.out] at hrun;clear hq hat hch hv hown;go_wp2_with fail
   rw[←ag.out];go_roundg (n-(k+1))
   case measure=>omega
   case rel=>exact⟨k+1,D,by omega,by go_num,ac.mono (by omega),HX,ah⟩
  | false=>
  have HX:ChD (D.put (.int .i64 a.nU) (.lit (.int .i64 a.cE))) (l.take (k+1)):=by rw[vX Ha.out];exact hch.put bh hq
  rw[hq,ag.out] at hrun;clear hq hat hch hv hown;rw[ag.out] at ac;go_wp2_with (at_mapUpdate;refine wpList_mapUpdate_own _ rfl _ _ _ 45 rfl 3 3 VA Tryz.underlying45 _ B k _ rfl ac (by unfold maxLen;omega) _ _ _ rfl rfl hkey _ [] hval ?_)
  intro w1 hown1 hg1;rw[←ag.out] at hg1;have aj:=ah.grown hg1 (by have:=ak.size;omega) (fun j hj=>by cases hj;exact zG _);clear hrun ac;go_wp2_with fail
  go_roundg (n-(k+1))
  case measure=>omega
  case rel=>exact⟨k+1,_,by omega,by go_num,hown1,HX,aj⟩
 have HT:Hid (l.take k=l):=uP (by rw[←Hn.out];omega);have bg:=zI ((show k=l.length by rw[←Hn.out];omega));go_wp2;go_ret;exact⟨B,D,rfl,by omega,by rw[←bg.out];exact hown,by rw[HT.out] at hch;exact hch,ba _ hbr⟩
def kQ (n:Nat):Bool:=decide (n<2147483648)||decide (18446744071562067968≤n)
def yU (kind:Int)(n:Nat):Int:=
 if kind=1∨kind=2∨kind=3∨kind=6 then 0
 else if kind=4 then(if n≤1 then 0 else 3)
 else if kind=5 then(if kQ n then 0 else 3)
 else if kind=7 then(if n≤4294967295 then 0 else 3)
 else 1
theorem C8b (n:Nat)(hn:n<18446744073709551616):(IntKind.u64.wrap (wrap32 (n:Int))==(n:Int))=kQ n:=by
 have e:IntKind.u64.wrap (wrap32 (n:Int))=wrap32 (n:Int)%18446744073709551616:=by simp[IntKind.wrap,IntKind.bits,IntKind.signed]
 rw[e,uR];unfold wrap32 kQ;simp;omega
theorem Qc8{P:Prop}(h:P:=by
 go_enter Tryz.func135,Tryz.ntmps135;go_wp2;go_ret;exact⟨by rw[HR.out];rfl,rfl⟩):P:=h
theorem D3u (kind:Int)(n:Nat)(hn:n<18446744073709551616) :
  Calls Tryz.prog 135 #[.int .i64 kind,.int .u64 (n:Int)] w fun e w'=>e = .returned (.int .i64 (yU kind n))∧w=w':=by
 have hw:=C8b n hn;by_cases h5:kind=5
 ·subst h5;cases hq:kQ n with
  | true=>
   have HR:Hid (yU 5 n=0):=by show _=_;unfold yU;simp[hq]
   rw[hq] at hw;clear hq;exact Qc8
  | false=>
  have HR:Hid (yU 5 n=3):=by show _=_;unfold yU;simp[hq]
  rw[hq] at hw;clear hq;exact Qc8
 clear hw;by_cases h4:kind=4
 ·subst h4;by_cases hq:n≤1
  ·have HR:Hid (yU 4 n=0):=by show _=_;unfold yU;simp[hq]
   have hq':decide ((n:Int)≤1)=true:=by simp;omega
   clear hq;exact Qc8
  have HR:Hid (yU 4 n=3):=by show _=_;unfold yU;simp[hq]
  have hq':decide ((n:Int)≤1)=false:=by simp;omega
  clear hq;exact Qc8
 by_cases h7:kind=7
 ·subst h7;by_cases hq:n≤4294967295
  ·have HR:Hid (yU 7 n=0):=by show _=_;unfold yU;simp[hq]
   have hq':decide ((n:Int)≤4294967295)=true:=by simp;omega
   clear hq;exact Qc8
  have HR:Hid (yU 7 n=3):=by show _=_;unfold yU;simp[hq]
  have hq':decide ((n:Int)≤4294967295)=false:=by simp;omega
  clear hq;exact Qc8
 by_cases h0:kind=1∨kind=2∨kind=3∨kind=6
 ·have HR:Hid (yU kind n=0):=by show _=_;unfold yU;rw[zF h0]
  clear h5 h4 h7;rcases h0 with rfl|rfl|rfl|rfl
  all_goals
   exact Qc8
 have HR:Hid (yU kind n=1):=by show _=_;unfold yU;rw[zC h0,zC h4,zC h5,zC h7]
 have e1:(kind==1)=false:=by simp;omega
 have e2:(kind==2)=false:=by simp;omega
 have e3:(kind==3)=false:=by simp;omega
 have e4:(kind==4)=false:=by simpa using h4
 have e5:(kind==5)=false:=by simpa using h5
 have e6:(kind==6)=false:=by simp;omega
 have e7:(kind==7)=false:=by simpa using h7
 clear h0 h4 h5 h7;exact Qc8
def yS {β:Type}(v:VI β):Nat:=v.bits.length+v.bytes.length+v.subs.length
def xG {β:Type}(x:FI)(v:VI β):Bool:=
 if x.kind=8∨x.kind=9 then decide (0<v.bits.length+v.subs.length)
 else if x.kind=10 then decide (0<v.bits.length+v.bytes.length)
 else decide (0<v.bytes.length+v.subs.length)
def vK {β:Type}(x:FI)(v:VI β):Bool:=decide (yS v<1)||(decide (60<yS v)||(decide (1<yS v)&&!x.many))
def vFI (x:FI):Value:=.agg #[.string (S x.name),.int .i64 x.nU,.int .i64 x.kind,.string (S x.type),.bool x.many,.int .i64 x.cE]
theorem gS{P:Prop}(h:P:=by
 go_wp2;go_ret;exact⟨by rw[HR.out];rfl,hb2⟩):P:=h
theorem aJ{P:Prop}(h:P:=by
 go_enter Tryz.func129,Tryz.ntmps129;exact gS):P:=h
theorem C5m (x:FI)(v:VI β)(H1:Hid (n1=v.bits.length))(H2:Hid (n2=v.bytes.length))(H3:Hid (n3=v.subs.length))(b1:n1≤140737488355328)(b2:n2≤140737488355328)(b3:n3≤140737488355328) :
  Calls Tryz.prog 129 #[vFI x,.agg #[.int .i64 v.nU,.slice a1 n1 c1,.slice a2 n2 c2,.slice a3 n3 c3]] w fun e w'=>e = .returned (.bool (xG x v))∧zB w w':=by
 have hb2:zB w ((w.alloc (.cells #[.string (S x.name),.int .i64 x.nU,.int .i64 x.kind,.string (S x.type),.bool x.many,.int .i64 x.cE] 47)).alloc (.cells #[.int .i64 v.nU,.slice a1 n1 c1,.slice a2 n2 c2,.slice a3 n3 c3] 63)):=((zH _ _).alloc (zG _) _).alloc (by simp) _;unfold vFI;by_cases h8:x.kind=8
 ·have HR:Hid (xG x v=decide ((0:Int)<(n1:Int)+(n3:Int))):=by
   show _=_;unfold xG;rw[zF (Or.inl h8),H1.out,H3.out];exact decide_eq_decide.2 (by omega)
  have e8:(x.kind==8)=true:=by simp[h8]
  clear h8;exact aJ
 have e8:(x.kind==8)=false:=by simpa using h8
 by_cases h9:x.kind=9
 ·have HR:Hid (xG x v=decide ((0:Int)<(n1:Int)+(n3:Int))):=by
   show _=_;unfold xG;rw[zF (Or.inr h9),H1.out,H3.out];exact decide_eq_decide.2 (by omega)
  have e9:(x.kind==9)=true:=by simp[h9]
  clear h8 h9;exact aJ
 have e9:(x.kind==9)=false:=by simpa using h9
 by_cases h10:x.kind=10
 ·have HR:Hid (xG x v=decide ((0:Int)<(n1:Int)+(n2:Int))):=by
   show _=_;unfold xG;rw[zC (by omega),zF h10,H1.out,H2.out];exact decide_eq_decide.2 (by omega)
  have ac:(x.kind==10)=true:=by simp[h10]
  clear h8 h9 h10;exact aJ
 have HR:Hid (xG x v=decide ((0:Int)<(n2:Int)+(n3:Int))):=by
  show _=_;unfold xG;rw[zC (by omega),zC h10,H2.out,H3.out];exact decide_eq_decide.2 (by omega)
 have ac:(x.kind==10)=false:=by simpa using h10
 clear h8 h9 h10;exact aJ
theorem Qe0{P:Prop}(h:P:=by
 go_enter Tryz.func130,Tryz.ntmps130;exact gS):P:=h
theorem D4k (x:FI)(v:VI β)(H1:Hid (n1=v.bits.length))(H2:Hid (n2=v.bytes.length))(H3:Hid (n3=v.subs.length))(b1:n1≤140737488355328)(b2:n2≤140737488355328)(b3:n3≤140737488355328) :
  Calls Tryz.prog 130 #[vFI x,.agg #[.int .i64 v.nU,.slice a1 n1 c1,.slice a2 n2 c2,.slice a3 n3 c3]] w fun e w'=>e = .returned (.bool (vK x v))∧zB w w':=by
 have hb2:zB w ((w.alloc (.cells #[.string (S x.name),.int .i64 x.nU,.int .i64 x.kind,.string (S x.type),.bool x.many,.int .i64 x.cE] 47)).alloc (.cells #[.int .i64 v.nU,.slice a1 n1 c1,.slice a2 n2 c2,.slice a3 n3 c3] 63)):=((zH _ _).alloc (zG _) _).alloc (by simp) _;have hm:yS v=n1+n2+n3:=by unfold yS;rw[H1.out,H2.out,H3.out]
 unfold vFI;by_cases h1:n1+n2+n3<1
 ·have HR:Hid (vK x v=true):=by show _=_;unfold vK;rw[hm];simp;omega
  have d1:decide ((n1:Int)+(n2:Int)+(n3:Int)<1)=true:=by simp;omega
  clear hm h1;exact Qe0
 have d1:decide ((n1:Int)+(n2:Int)+(n3:Int)<1)=false:=by simp;omega
 by_cases h2:60<n1+n2+n3
 ·have HR:Hid (vK x v=true):=by show _=_;unfold vK;rw[hm];simp[h2]
  have d2:decide ((60:Int)<(n1:Int)+(n2:Int)+(n3:Int))=true:=by simp;omega
  clear hm h1 h2;exact Qe0
 have d2:decide ((60:Int)<(n1:Int)+(n2:Int)+(n3:Int))=false:=by simp;omega
 by_cases h3:1<n1+n2+n3
 ·have d3:decide ((1:Int)<(n1:Int)+(n2:Int)+(n3:Int))=true:=by simp;omega
  have HR:Hid (vK x v = !x.many):=by
   show _=_;unfold vK;rw[hm,yC h1,yC h2,xU h3];simp
  clear hm h1 h2 h3;exact Qe0
 have d3:decide ((1:Int)<(n1:Int)+(n2:Int)+(n3:Int))=false:=by simp;omega
 have HR:Hid (vK x v=false):=by
  show _=_;unfold vK;rw[hm,yC h1,yC h2,yC h3];simp
 clear hm h1 h2 h3;exact Qe0
abbrev PV:=Option Addr×Nat×Nat
def PV.v (p:PV):Value:=.slice p.1 p.2.1 p.2.2
def own1 (p:PV):List Nat:=p.v.ownBlock.toList
structure VL (β:Type) where
 nU:Int
 bits:List Nat
 bytes:List (List UInt8×PV)
 subs:List β
 p1:PV
 p2:PV
 p3:PV
structure BL (β:Type) where
 vals:List (VL β)
 unk:List (RI×PV)
 q0:PV
 q1:PV
def LB:Nat→Type
 | 0=>Empty
 | d+1=>BL (LB d)
def VL.pl {β γ:Type}(f : β→γ)(v:VL β):VI γ:=⟨v.nU,v.bits,v.bytes.map Prod.fst,v.subs.map f⟩
def LB.pl:(d:Nat)→LB d→BI d
 | 0=>fun b=>b
 | d+1=>fun b=>(⟨(BL.vals b).map (VL.pl (LB.pl d)),(BL.unk b).map Prod.fst⟩:BO (BI d))
def dE (n:Nat):List Value:=[.int .u64 (n:Int)]
def aT (b:UInt8):List Value:=[.int .u8 (b.toNat:Int)]
def aS (z:List UInt8×PV):List Value:=[z.2.v]
def pI (r:RI×PV):List Value:=[.int .i64 r.1.nU,.int .i64 r.1.how,.int .u64 (r.1.bits:Int),r.2.v]
def E1p {β:Type}(v:VL β):List Value:=[.int .i64 v.nU,v.p1.v,v.p2.v,v.p3.v]
def vO:(d:Nat)→LB d→List Value
 | 0=>fun b=>nomatch (b:Empty)
 | _+1=>fun b=>[(BL.q0 b).v,(BL.q1 b).v]
def ekU:EK Nat where
 elem:=64
 slice:=59
 size:=1
 bytes:=8
 zero:=.int .u64 0
 enc:=dE
 under:=Tryz.underlying59
 info:=by kernel_rfl
 zs:=rfl
 pos:=by decide
 small:=by decide
 len:=fun _=>rfl
 one:=by intro a u hu;simp only[dE,zS] at hu;subst hu;rfl
def ekY:EK UInt8 where
 elem:=5
 slice:=30
 size:=1
 bytes:=1
 zero:=.int .u8 0
 enc:=aT
 under:=Tryz.underlying30
 info:=by kernel_rfl
 zs:=rfl
 pos:=by decide
 small:=by decide
 len:=fun _=>rfl
 one:=by intro a u hu;simp only[aT,zS] at hu;subst hu;rfl
def ekZ:EK (List UInt8×PV) where
 elem:=30
 slice:=60
 size:=1
 bytes:=24
 zero:=.slice none 0 0
 enc:=aS
 under:=Tryz.underlying60
 info:=by kernel_rfl
 zs:=rfl
 pos:=by decide
 small:=by decide
 len:=fun _=>rfl
 one:=by intro a u hu;simp only[aS,zS] at hu;subst hu;rfl
def ekR:EK (RI×PV) where
 elem:=78
 slice:=27
 size:=4
 bytes:=48
 zero:=.agg #[.int .i64 0,.int .i64 0,.int .u64 0,.slice none 0 0]
 enc:=pI
 under:=Tryz.underlying27
 info:=by kernel_rfl
 zs:=rfl
 pos:=by decide
 small:=by decide
 len:=fun _=>rfl
 one:=by intro a u hu;simp only[pI,yY,rI,or_false] at hu;rcases hu with rfl|rfl|rfl|rfl <;> rfl
def ekV (β:Type):EK (VL β) where
 elem:=63
 slice:=26
 size:=4
 bytes:=80
 zero:=.agg #[.int .i64 0,.slice none 0 0,.slice none 0 0,.slice none 0 0]
 enc:=E1p
 under:=Tryz.underlying26
 info:=by kernel_rfl
 zs:=rfl
 pos:=by decide
 small:=by decide
 len:=fun _=>rfl
 one:=by intro a u hu;simp only[E1p,yY,rI,or_false] at hu;rcases hu with rfl|rfl|rfl|rfl <;> rfl
theorem D3n:∀ (d:Nat) (b:LB d),(vO d b).length=2
 | 0,b=>nomatch (b:Empty)
 | _+1,_=>rfl
theorem D3o:∀ (d:Nat) (b:LB d),∀ u∈vO d b,u.oneCell'=true
 | 0,b=>nomatch (b:Empty)
 | _+1,b=>by intro u hu;simp only[vO,yY,rI,or_false] at hu;rcases hu with rfl|rfl <;> rfl
def ekB (d:Nat):EK (LB d) where
 elem:=29
 slice:=61
 size:=2
 bytes:=48
 zero:=.agg #[.slice none 0 0,.slice none 0 0]
 enc:=vO d
 under:=Tryz.underlying61
 info:=by kernel_rfl
 zs:=rfl
 pos:=by decide
 small:=by decide
 len:=D3n d
 one:=D3o d
structure OwnV {β:Type}(E:EK β) (O:World→β→Prop) (w:World) (base:Nat) (v:VL β):Prop where
 r1:Row ekU w base v.p1.v v.bits
 r2:Row ekZ w base v.p2.v v.bytes
 r2y:∀ z∈v.bytes,Row ekY w base z.2.v z.1
 r3:Row E w base v.p3.v v.subs
 r3s:∀ s∈v.subs,O w s
structure OwnL {β:Type}(E:EK β) (O:World→β→Prop) (w:World) (base:Nat) (b:BL β):Prop where
 r0:Row (ekV β) w base b.q0.v b.vals
 r0v:∀ v∈b.vals,OwnV E O w base v
 r1:Row ekR w base b.q1.v b.unk
 r1y:∀ r∈b.unk,Row ekY w base r.2.v r.1.bytes
def OwnB (base:Nat):(d:Nat)→World→LB d→Prop
 | 0=>fun _ _=>False
 | d+1=>fun w b=>OwnL (ekB d) (OwnB base d) w base b
def VL.fp {β:Type}(f : β→List Nat)(v:VL β):List Nat:=own1 v.p1++own1 v.p2++own1 v.p3++v.subs.flatMap f
def BL.fp {β:Type}(f : β→List Nat)(b:BL β):List Nat:=own1 b.q0++own1 b.q1++b.vals.flatMap (VL.fp f)
def LB.fp:(d:Nat)→LB d→List Nat
 | 0=>fun _=>[]
 | d+1=>fun b=>BL.fp (LB.fp d) b
structure FrB (F:List Nat) (w w':World):Prop where
 os:w'.os=w.os
 tape:w'.tape=w.tape
 output:w'.output=w.output
 size:w.heap.size≤w'.heap.size
 block:∀ k,k<w.heap.size→(k∉F∨∃ cs fr,w.heap[k]?=some (.cells cs 5 fr))→w'.heap[k]?=w.heap[k]?
theorem FrB.refl (F:List Nat)(w:World):FrB F w w:=⟨rfl,rfl,rfl,zG _,fun _ _ _=>rfl⟩
theorem FrB.of_below (h:zB w w'):FrB F w w':=⟨h.os,h.tape,h.output,h.size,fun k hk _=>h.block k hk⟩
theorem FrB.mono (h:FrB F w w')(hs:∀ k∈F,k∈G):FrB G w w':=⟨h.os,h.tape,h.output,h.size,fun k hk hc=>h.block k hk (hc.imp (fun h1 h2=>h1 (hs k h2)) id)⟩
theorem FrB.trans {H:List Nat}{a b c:World}(h:FrB F a b)(k:FrB G b c)(hF:∀ i∈F,i∈H)(hG:∀ i∈G,i∈H∨a.heap.size≤i):FrB H a c:=
 ⟨k.os.trans h.os,k.tape.trans h.tape,k.output.trans h.output,yN h.size k.size,fun i hi hc=>by
  have e:=h.block i hi (hc.imp (fun h1 h2=>h1 (hF i h2)) id)
  rw[k.block i (nD hi h.size) ?_,e]
  rcases hc with hc|⟨cs,fr,hc⟩
  ·left;intro hi';rcases hG i hi' with h1|h1
   ·exact hc h1
   ·omega
  ·right;exact⟨cs,fr,by rw[e];exact hc⟩⟩
theorem FrB.bL {B:Nat}(h:FrB F w w')(hB:B≤w.heap.size)(hF:∀ k∈F,B≤k):Below B w w':=
 ⟨h.os,h.tape,h.output,h.size,fun k hk=>h.block k (by omega) (.inl fun ac=>by have:=hF k ac;omega)⟩
theorem rZ {p:PV}:k∈own1 p↔p.v.ownBlock=some k:=by unfold own1;simp
theorem Row.frB {E:EK α}{p:PV}{l:List α}(h:Row E w base p.v l)(hf:FrB F w w')(hd:∀ k∈own1 p,k∉F):Row E w' base p.v l:=by
 refine⟨h.1,?_⟩;rcases h.2 with hn|⟨g,cap,cur,hv,hbg,hg,r⟩
 ·exact .inl hn
 refine .inr ⟨g,cap,cur,hv,hbg,?_,r⟩;rw[hf.block g (zR hg) (.inl (hd g (rZ.2 (by rw[hv];rfl))))];exact hg
theorem Row.frY {v:Value}(h:Row ekY w base v l)(hf:FrB F w w'):Row ekY w' base v l:=by
 refine⟨h.1,?_⟩;rcases h.2 with hn|⟨g,cap,cur,hv,hbg,hg,r⟩
 ·exact .inl hn
 refine .inr ⟨g,cap,cur,hv,hbg,?_,r⟩;rw[hf.block g (zR hg) (.inr ⟨cur,_,hg⟩)];exact hg
theorem OwnV.fr {f : β→List Nat}(hO:∀ (F:List Nat) (w w':World) b,O w b→FrB F w w'→(∀ k∈f b,k∉F)→O w' b){v:VL β}(h:OwnV E O w base v)(hf:FrB F w w')(hd:∀ k∈VL.fp f v,k∉F):OwnV E O w' base v where
 r1:=h.r1.frB hf fun k hk=>hd k (by unfold VL.fp;simp[hk])
 r2:=h.r2.frB hf fun k hk=>hd k (by unfold VL.fp;simp[hk])
 r2y:=fun z hz=>(h.r2y z hz).frY hf
 r3:=h.r3.frB hf fun k hk=>hd k (by unfold VL.fp;simp[hk])
 r3s:=fun s hs=>hO F w w' s (h.r3s s hs) hf fun k hk=>hd k (by unfold VL.fp;simp only[zU,vL];exact .inr ⟨s,hs,hk⟩)
theorem OwnL.fr {f : β→List Nat}(hO:∀ (F:List Nat) (w w':World) b,O w b→FrB F w w'→(∀ k∈f b,k∉F)→O w' b){b:BL β}(h:OwnL E O w base b)(hf:FrB F w w')(hd:∀ k∈BL.fp f b,k∉F):OwnL E O w' base b where
 r0:=h.r0.frB hf fun k hk=>hd k (by unfold BL.fp;simp[hk])
 r0v:=fun v hv=>(h.r0v v hv).fr hO hf fun k hk=>hd k (by unfold BL.fp;simp only[zU,vL];exact .inr ⟨v,hv,hk⟩)
 r1:=h.r1.frB hf fun k hk=>hd k (by unfold BL.fp;simp[hk])
 r1y:=fun r hr=>(h.r1y r hr).frY hf
theorem OwnB.fr {base:Nat}:∀ (d:Nat) (F:List Nat) (w w':World) (b:LB d),OwnB base d w b→FrB F w w'→(∀ k∈LB.fp d b,k∉F)→OwnB base d w' b
 | 0,_,_,_,_,h,_,_=>h
 | d+1,_,_,_,_,h,hf,hd=>OwnL.fr (fun F w w' b=>OwnB.fr d F w w' b) h hf hd
theorem OwnB.bL {b:LB d}(h:OwnB base d w b)(hb:zB w w'):OwnB base d w' b:=OwnB.fr d [] w w' b h (.of_below hb) (fun _ _=>xP)
theorem OwnV.bL {v:VL (LB d)}(h:OwnV (ekB d) (OwnB base d) w base v)(hb:zB w w'):OwnV (ekB d) (OwnB base d) w' base v:=OwnV.fr (F:=[]) (OwnB.fr d) h (.of_below hb) (fun _ _=>xP)
theorem Row.own1 {E:EK α}{p:PV}{l:List α}(h:Row E w base p.v l):∀ k∈own1 p,base≤k∧k<w.heap.size:=fun k hk=>h.own k (rZ.1 hk)
theorem OwnV.inB {f : β→List Nat}{v:VL β}(hO:∀ s∈v.subs,O w s→∀ k∈f s,base≤k∧k<w.heap.size)(h:OwnV E O w base v):∀ k∈VL.fp f v,base≤k∧k<w.heap.size:=by
 intro k hk;unfold VL.fp at hk;simp only[zU,vL] at hk;rcases hk with((hk|hk)|hk)|⟨s,hs,hk⟩
 ·exact h.r1.own1 k hk
 ·exact h.r2.own1 k hk
 ·exact h.r3.own1 k hk
 exact hO s hs (h.r3s s hs) k hk
theorem OwnB.inB {base:Nat}:∀ (d:Nat){w:World}{b:LB d},OwnB base d w b→∀ k∈LB.fp d b,base≤k∧k<w.heap.size
 | 0,_,_,h=>h.elim
 | d+1,w,b,h=>by
  intro k hk
  have hk:k∈BL.fp (LB.fp d) b:=hk
  have h:OwnL (ekB d) (OwnB base d) w base b:=h
  unfold BL.fp at hk
  simp only[zU,vL] at hk
  rcases hk with(hk|hk)|⟨v,hv,hk⟩
  ·exact h.r0.own1 k hk
  ·exact h.r1.own1 k hk
  ·exact(h.r0v v hv).inB (fun s _ hs=>OwnB.inB d hs) k hk
theorem RdL.mapB {sz:Nat}{P:World→Addr→α→Prop}{R:World→Addr→β→Prop}{v:Value}{l:List α}(f : α→β)(h:RdL sz P w v l)(hf:∀ x a,a∈l→P w x a→R w x (f a)):RdL sz R w v (l.map f):=by
 obtain⟨ao,n,cap,e,h1,h2,h3,h4,h5⟩:=h;refine⟨ao,n,cap,e,by simpa using h1,h2,h3,h4,fun x hx k b hb=>?_⟩;rw[sE] at hb;cases ha:l[k]? with
 | none=>rw[ha] at hb;simp at hb
 | some a=>
 rw[ha] at hb;simp at hb;subst hb;exact hf _ a (xV ha) (h5 x hx k a ha)
theorem Row.rdU {v:Value}{l:List Nat}(h:Row ekU w base v l):RdL 1 UAt w v l:=h.rd UAt fun g i a hc=>by have:=hc 0 _ rfl;simpa [UAt] using this
theorem Row.rdY {v:Value}(h:Row ekY w base v l):RdL 1 YAt w v l:=h.rd YAt fun g i a hc=>by have:=hc 0 _ rfl;simpa [YAt] using this
theorem Row.rdZ {v:Value}{l:List (List UInt8×PV)}(h:Row ekZ w base v l)(hy:∀ z∈l,Row ekY w base z.2.v z.1):RdL 1 ZAt w v (l.map Prod.fst):=
 RdL.mapB Prod.fst (h.rd (fun w x (z:List UInt8×PV)=>w.cell? x=some z.2.v) fun g i a hc=>by have:=hc 0 _ rfl;simpa using this) fun _ z hz hc=>⟨z.2.v,hc,(hy z hz).rdY⟩
theorem Row.rdR {v:Value}{l:List (RI×PV)}(h:Row ekR w base v l)(hy:∀ r∈l,Row ekY w base r.2.v r.1.bytes):RdL 4 RAt w v (l.map Prod.fst):=
 RdL.mapB Prod.fst (h.rd (fun w x (r:RI×PV)=>w.cell? x=some (.int .i64 r.1.nU)∧w.cell? (x.add 1)=some (.int .i64 r.1.how)∧w.cell? (x.add 2)=some (.int .u64 (r.1.bits:Int))∧w.cell? (x.add 3)=some r.2.v) fun g i a hc=>by
  refine⟨by simpa using hc 0 _ rfl,?_,?_,?_⟩ <;> rw[xS]
  ·exact hc 1 _ rfl
  ·exact hc 2 _ rfl
  ·exact hc 3 _ rfl) fun _ r hr ⟨h0,h1,h2,h3⟩=>⟨r.2.v,h0,h1,h2,h3,(hy r hr).rdY⟩
theorem Qe1{P:Prop}(h:P:=by
 refine⟨by simpa using hc 0 _ rfl,?_,?_,?_⟩ <;> rw[xS]
 ·exact hc 1 _ rfl
 ·exact hc 2 _ rfl
 exact hc 3 _ rfl):P:=h
theorem OwnL.rdV {b:BL (LB d)}(hs:∀ (s:LB d) (g i:Nat),OwnB base d w s→(∀ j u,(vO d s)[j]?=some u→w.cell? ⟨g,i+j,none⟩=some u)→BAt d w ⟨g,i,none⟩ (LB.pl d s))(h:OwnL (ekB d) (OwnB base d) w base b):RdL 4 (VAt (BAt d)) w b.q0.v (b.vals.map (VL.pl (LB.pl d))):=by
 refine RdL.mapB _ (h.r0.rd (fun w x (v:VL (LB d))=>w.cell? x=some (.int .i64 v.nU)∧w.cell? (x.add 1)=some v.p1.v∧w.cell? (x.add 2)=some v.p2.v∧w.cell? (x.add 3)=some v.p3.v) fun g i a hc=>?_) ?_
 ·exact Qe1
 rintro x v hv ⟨h0,h1,h2,h3⟩;have ho:=h.r0v v hv;refine⟨v.p1.v,v.p2.v,v.p3.v,h0,h1,h2,h3,ho.r1.rdU,ho.r2.rdZ ho.r2y,?_⟩;exact RdL.mapB (P:=fun w (x:Addr) (s:LB d)=>∃ g i,x=⟨g,i,none⟩∧∀ j u,(vO d s)[j]?=some u→w.cell? ⟨g,i+j,none⟩=some u) _ (ho.r3.rd _ fun g i a hc=>⟨g,i,rfl,hc⟩) fun _ s hs' ⟨g,i,e,hc⟩=>by rw[e];exact hs s g i (ho.r3s s hs') hc
theorem OwnB.at {base:Nat}:∀ (d:Nat){w:World}(s:LB d) (g i:Nat),OwnB base d w s→(∀ j u,(vO d s)[j]?=some u→w.cell? ⟨g,i+j,none⟩=some u)→BAt d w ⟨g,i,none⟩ (LB.pl d s)
 | 0,_,_,_,_,h,_=>h.elim
 | d+1,w,s,g,i,h,hc=>by
  have h:OwnL (ekB d) (OwnB base d) w base s:=h
  refine⟨(BL.q0 s).v,(BL.q1 s).v,by simpa using hc 0 _ rfl,by rw[xS];exact hc 1 _ rfl,h.rdV (fun s g i=>OwnB.at d s g i),h.r1.rdR h.r1y⟩
theorem OwnB.rd {b:BL (LB d)}(h:OwnB base (d+1) w b):BRd d w b.q0.v b.q1.v (LB.pl (d+1) b):=
 have h:OwnL (ekB d) (OwnB base d) w base b:=h
 ⟨h.rdV (fun s g i=>OwnB.at d s g i),h.r1.rdR h.r1y⟩
structure Ent {α':Type}(O:World→α'→Prop) (fp : α'→List Nat):Prop where
 fr:∀ (F:List Nat) (w w':World) (a : α'),O w a→FrB F w w'→(∀ k∈fp a,k∉F)→O w' a
 inB:∀ (w:World) (a : α'),O w a→∀ k∈fp a,k<w.heap.size
theorem Ent.bL {α':Type}{O:World→α'→Prop}{fp : α'→List Nat}(h:Ent O fp){a : α'}(ho:O w a)(hb:zB w w'):O w' a:=h.fr [] w w' a ho (.of_below hb) (fun _ _=>xP)
structure Cop {α α':Type}(E:EK α') (er : α'→α) (O:World→α'→Prop) (fp : α'→List Nat) (w:World) (B0:Nat) (l:List α) (W:World) (p:PV) (l':List α'):Prop where
 map:l'.map er=l
 row:Row E W B0 p.v l'
 own:∀ a∈l',O W a
 ge:∀ k∈own1 p++l'.flatMap fp,w.heap.size≤k
 nd:(own1 p++l'.flatMap fp).Nodup
 bL:zB w W
section
variable {α α':Type}{E:EK α'}{er : α'→α}{O:World→α'→Prop}{fp : α'→List Nat}{w W:World}{B0:Nat}{l:List α}{p:PV}{l':List α'}
theorem Cop.nil (w:World)(B0:Nat):Cop E er O fp w B0 [] w (none,0,0) []:=⟨rfl,Row.nil _ _ _,fun _ h=>by simp at h,fun _ h=>by simp[own1,PV.v,Value.ownBlock] at h,by simp[own1,PV.v,Value.ownBlock],zH _ _⟩
theorem Cop.step (hE:Ent O fp)(hY:E.elem≠5)(h:Cop E er O fp w B0 l W p l'){W1 W2 W3:World}{a : α}{a' : α'}(he:er a'=a)(ho:O W1 a')(ah:∀ k∈fp a',W.heap.size≤k)(bg:(fp a').Nodup)(hb1:zB W W1)(hb2:zB W1 W2)
  {p3:PV}(hrow:Row E W3 B0 p3.v (l'++[a'])) (hg:W2.grownBy W3 p.v.ownBlock) (hk:∀ k,p3.v.ownBlock=some k→p.v.ownBlock=some k∨W2.heap.size≤k):Cop E er O fp w B0 (l++[a]) W3 p3 (l'++[a']):=by
 have ac:=hb1.trans (hb2.mono hb1.size);have hrow2:=h.row.bL ac;have ba:∀ k∈own1 p,k<W.heap.size:=fun k hk=>(h.row.own1 k hk).2
 have aw:FrB (own1 p) W2 W3:=by
  refine⟨hg.os,hg.tape,hg.output,hg.size,fun k hk hc=>hg.block k hk fun e=>?_⟩;have bc:=rZ.2 e.symm;rcases hc with hc|⟨cs,fr,hc⟩
  ·exact hc bc
  exact hrow2.ne_blk hc (fun e=>hY e.symm) e.symm
 have hsz:=h.bL.size;have hs1:=hb1.size;have hs2:=hb2.size;have hs3:=hg.size;have hl':∀ k∈l'.flatMap fp,k<W.heap.size:=fun k hk=>by
  obtain⟨x,hx,hk⟩:=vL.1 hk;exact hE.inB W x (h.own x hx) k hk
 have ag:=gH.1 h.nd;have ha1:=hE.inB W1 a' ho;refine⟨by rw[wM,h.map,List.map_singleton,he],hrow,?_,?_,?_,?_⟩
 ·intro x hx;rcases zU.1 hx with hx|hx
  ·exact hE.fr _ W2 W3 x (hE.bL (h.own x hx) ac) aw fun k au ak=>ag.2.2 k ak k (vL.2 ⟨x,hx,au⟩) rfl
  rw[zS.1 hx];exact hE.fr _ W2 W3 a' (hE.bL ho hb2) aw fun k au ak=>by have:=ah k au;have:=ba k ak;omega
 ·intro k aj;rw[kA,List.flatMap_singleton] at aj;rcases zU.1 aj with hk1|hk1
  ·rcases hk k (rZ.1 hk1) with h1|h1
   ·exact h.ge k (vU _ (rZ.2 h1))
   omega
  rcases zU.1 hk1 with hk2|hk2
  ·exact h.ge k (tI _ hk2)
  have:=ah k hk2;omega
 ·rw[kA,List.flatMap_singleton];refine gH.2 ⟨?_,gH.2 ⟨ag.2.1,bg,?_⟩,?_⟩
  ·unfold own1;cases p3.v.ownBlock <;> simp
  ·intro x hx y hy e;have:=hl' x hx;have:=ah y hy;omega
  intro x hx y hy e;subst e;rcases hk x (rZ.1 hx) with h1|h1
  ·have av:=rZ.2 h1;rcases zU.1 hy with hy|hy
   ·exact ag.2.2 x av x hy rfl
   have:=ba x av;have:=ah x hy;omega
  rcases zU.1 hy with hy|hy
  ·have:=hl' x hy;omega
  have:=ha1 x hy;omega
 refine⟨hg.os.trans (ac.os.trans h.bL.os),hg.tape.trans (ac.tape.trans h.bL.tape),hg.output.trans (ac.output.trans h.bL.output),by omega,fun k aj=>?_⟩;rw[hg.block k (by omega) ?_,ac.block k (by omega),h.bL.block k aj];intro e;have:=h.ge k (vU _ (rZ.2 e.symm));omega
end
variable{α β:Type}{how h:Int}{a1 ao a3 a2 ab af:Option Addr}{k fn base c1 c3 cb ha cap n2 n la lb c hb c2 d i nf n1 g nb cf n3 B0:Nat}{vl v1 x0 v0 x1:Value}{nm:List UInt8}{cs:Array Value}{V V' w:World}{b a l:List Nat}{t:TypeId}{ms:List MI}{fs:List FI}{x:FI}{f:α→Int}{E:EK α}
def xQ {β:Type}(x:FI)(v:VI β):Bool:=
 if x.many=true∨0<x.cE∨x.kind=10 then false
 else if yS v≠1 then false
 else decide (v.bits = [0])||decide (v.bytes = [[]])
theorem iF{P:Prop}(h:P:=by
 go_enter Tryz.func131,Tryz.ntmps131;exact gS):P:=h
theorem B3f {P:World→Addr→β→Prop}(x:FI)(v:VI β)(h1:RdL 1 UAt w (.slice a1 n1 c1) v.bits)(h2:RdL 1 ZAt w (.slice a2 n2 c2) v.bytes)(h3:RdL 2 P w (.slice a3 n3 c3) v.subs)(b1:n1≤140737488355328)(b2:n2≤140737488355328)(b3:n3≤140737488355328) :
  Calls Tryz.prog 131 #[vFI x,.agg #[.int .i64 v.nU,.slice a1 n1 c1,.slice a2 n2 c2,.slice a3 n3 c3]] w fun e w'=>e = .returned (.bool (xQ x v))∧zB w w':=by
 have hb2:zB w ((w.alloc (.cells #[.string (S x.name),.int .i64 x.nU,.int .i64 x.kind,.string (S x.type),.bool x.many,.int .i64 x.cE] 47)).alloc (.cells #[.int .i64 v.nU,.slice a1 n1 c1,.slice a2 n2 c2,.slice a3 n3 c3] 63)):=((zH _ _).alloc (zG _) _).alloc (by simp) _;have l1:=h1.len.1;have l2:=h2.len.1;have l3:=h3.len.1;have hm:yS v=n1+n2+n3:=by unfold yS;omega
 unfold vFI;cases hmany:x.many with
 | true=>
  have HR:Hid (xQ x v=false):=by show _=_;unfold xQ;rw[zF (Or.inl hmany)]
  clear hm l1 l2 l3;rw[hmany] at hb2;clear hmany;exact iF
 | false=>
 rw[hmany] at hb2;by_cases hc:0<x.cE
 ·have HR:Hid (xQ x v=false):=by show _=_;unfold xQ;rw[zF (Or.inr (Or.inl hc))]
  have dc:=xU hc;clear hm l1 l2 l3 hmany hc;exact iF
 have dc:=yC hc;by_cases hk:x.kind=10
 ·have HR:Hid (xQ x v=false):=by show _=_;unfold xQ;rw[zF (Or.inr (Or.inr hk))]
  have ek:(x.kind==10)=true:=by simp[hk]
  clear hm l1 l2 l3 hmany hc hk;exact iF
 have ek:(x.kind==10)=false:=by simpa using hk
 have hno:¬ (x.many=true∨0<x.cE∨x.kind=10):=by
  rintro(h|h|h)
  ·rw[hmany] at h;cases h
  ·exact hc h
  exact hk h
 clear hmany hc hk;by_cases hs:n1+n2+n3=1
 ·have hs1:yS v=1:=by omega
  by_cases h11:n1=1
  ·obtain rfl:n2=0:=by omega
   obtain rfl:n3=0:=by omega
   subst h11;have hby:=uE l2.symm;obtain⟨q,hq⟩:∃ q,v.bits = [q]:=by
    match hv:v.bits,l1 with
    | [q],_=>exact⟨q,rfl⟩
   obtain⟨b,off,rfl,hat⟩:=h1.get UAt.plain (show v.bits[0]?=some q by rw[hq];rfl);have hat:w.cell? ⟨b,off,none⟩=some (.int .u64 (q:Int)):=by simpa [UAt] using hat
   have hbl:b<w.heap.size:=mD w _ hat;have HR:Hid (xQ x v=((q:Int)==0)):=by
    show _=_;unfold xQ;rw[zC hno,zC (by omega),hq,hby,uR];simp
   clear hm hs1 hq l1 l2 l3 h1 h2 h3 hs hno hby;cases hz:((q:Int)==0) with
   | true=>
    rw[hz] at HR;exact iF
   | false=>
   rw[hz] at HR;exact iF
  obtain rfl:n1=0:=by omega
  have ac:=uE l1.symm;by_cases h21:n2=1
  ·obtain rfl:n3=0:=by omega
   subst h21;obtain⟨q,hq⟩:∃ q,v.bytes = [q]:=by
    match hv:v.bytes,l2 with
    | [q],_=>exact⟨q,rfl⟩
   obtain⟨b,off,rfl,hat⟩:=h2.get ZAt.plain (show v.bytes[0]?=some q by rw[hq];rfl);obtain⟨u,hat,ag⟩:=hat.at;obtain⟨a4,n4,c4,rfl,ah,aj⟩:=ag.sH;have hat:w.cell? ⟨b,off,none⟩=some (.slice a4 n4 c4):=by simpa using hat
   have hbl:b<w.heap.size:=mD w _ hat;have HR:Hid (xQ x v=((n4:Int)==0)):=by
    show _=_;unfold xQ;rw[zC hno,zC (by omega),hq,ac,uR,ah.out];simp
   clear hm hs1 hq l1 l2 l3 h1 h2 h3 hs hno ac ag;exact iF
  obtain rfl:n2=0:=by omega
  obtain rfl:n3=1:=by omega
  have hby:=uE l2.symm;have HR:Hid (xQ x v=false):=by
   show _=_;unfold xQ;rw[zC hno,zC (by omega),ac,hby];rfl
  clear hm hs1 l1 l2 l3 h1 h2 h3 hs hno ac hby h11 h21;exact iF
 have HR:Hid (xQ x v=false):=by show _=_;unfold xQ;rw[zC hno,zF (by omega)]
 have ds:((n1:Int)+(n2:Int)+(n3:Int) != 1)=true:=by simp;omega
 clear hm l1 l2 l3 h1 h2 h3 hs hno;exact iF
def yJ {α:Type}(f : α→Int):List α→Int
 | []=>0
 | a::l=>if f a=0 then yJ f l else f a
theorem lO {l:List α}{a : α}(ha:l[k]?=some a):yJ f (l.drop k)=if f a=0 then yJ f (l.drop (k+1)) else f a:=by
 obtain⟨hk,e⟩:=yG.1 ha;rw[uQ hk,e,yJ]
theorem gD {l:List α}(h:l.length≤k):yJ f (l.drop k)=0:=by
 rw[nC h];rfl
def cFI (x:FI):Array Value:=#[.string (S x.name),.int .i64 x.nU,.int .i64 x.kind,.string (S x.type),.bool x.many,.int .i64 x.cE]
theorem C8e (hc:w.heap[c]?=some (.cells (cFI x) 47 (0,0)))(n:Nat)(hn:n<18446744073709551616) :
  Calls Tryz.prog 134 #[.int .u64 (n:Int),.pointer (some ⟨c,0,none⟩)] w fun e w'=>e = .returned (.int .i64 (yU x.kind n))∧zB w w':=by
 have c2:w.cell? ⟨c,2,none⟩=some (.int .i64 x.kind):=zL hc 2 _ rfl;have ac:=(zR hc)
 have hf:=D3u (w:=w) x.kind n hn;go_enter Tryz.func134,Tryz.ntmps134;go_wp2_with fail
 refine hf.mono ?_;rintro e w1 ⟨rfl,rfl⟩;go_wp2;go_ret;exact⟨rfl,zH _ _⟩
theorem aK{P:Prop}(h:P:=by
 have HX:Hid (R=0):=by
  show _=_;rw[HK.out];exact gD (by rw[←Hn.out];omega)
 go_wp2;go_ret;exact⟨by rw[HX.out];rfl,hb⟩):P:=h
theorem D3t {v:Value}(h:RdL 1 UAt w v l)(hu:∀ n∈l,n<18446744073709551616)(hc:w.heap[c]?=some (.cells (cFI x) 47 (0,0))) :
  Calls Tryz.prog 133 #[v,.func (.func 134) #[] #[.pointer (some ⟨c,0,none⟩)]] w fun e w'=>e = .returned (.int .i64 (yJ (yU x.kind) l))∧zB w w':=by
 obtain⟨ao,n,cap,rfl,Hn,ag⟩:=h.sH;obtain⟨R,HR⟩:=zM (yJ (yU x.kind) l);rw[←HR.out];go_enter Tryz.func133,Tryz.ntmps133;go_wp2_with fail
 go_loopg [10] n (fun m i wr=>∃ k:Nat,k+m=n∧i = .int .i64 k∧Hid (R=yJ (yU x.kind) (l.drop k))∧zB w wr)
 case atStart=>exact⟨0,by omega,rfl,HR,zH _ _⟩
 obtain⟨k,hk,rfl,HK,hb⟩:=hrel;have ah:=(hb.block c (zR hc)).trans hc;by_cases hlt:k<n
 ·obtain⟨a,Ha⟩:=yE (l:=l) (k:=k) (by rw[←Hn.out];exact hlt);obtain⟨b,off,rfl,hat⟩:=(h.bL UAt.sT hb).get UAt.plain Ha.out;have hat:wr.cell? ⟨b,off+k,none⟩=some (.int .u64 (a:Int)):=by simpa [UAt] using hat
  have aj:(k:Int)<(n:Int):=by omega
  have ac:=C8e ah a (hu a (uO Ha.out));have hst:=lO (f:=yU x.kind) Ha.out;generalize hF:yU x.kind a=F at ac hst;by_cases hz:F=0
  ·have HX:Hid (R=yJ (yU x.kind) (l.drop (k+1))):=by
    show _=_;rw[HK.out,hst,zF hz]
   have ez:(F != 0)=false:=by simp[hz]
   clear hst hF hz;exact gT
  have HX:Hid (R=F):=by
   show _=_;rw[HK.out,hst,zC hz]
  have ez:(F != 0)=true:=by simpa using hz
  clear hst hF hz;go_wp2_with fail
  refine ac.mono ?_;rintro e w1 ⟨rfl,hb1⟩;go_wp2;go_ret;exact⟨by rw[HX.out];rfl,hb.trans (hb1.mono hb.size)⟩
 exact aK
theorem C4c (x:FI)(v:VI β)(h1:RdL 1 UAt w (.slice a1 n1 c1) v.bits)(hu:∀ n∈v.bits,n<18446744073709551616) :
  Calls Tryz.prog 132 #[vFI x,.agg #[.int .i64 v.nU,.slice a1 n1 c1,.slice a2 n2 c2,.slice a3 n3 c3]] w fun e w'=>e = .returned (.int .i64 (yJ (yU x.kind) v.bits))∧zB w w':=by
 have hb2:zB w ((w.alloc (.cells (cFI x) 47)).alloc (.cells #[.int .i64 v.nU,.slice a1 n1 c1,.slice a2 n2 c2,.slice a3 n3 c3] 63)):=((zH _ _).alloc (zG _) _).alloc (by simp) _;have hi:=D3t (x:=x) (h1.bL UAt.sT hb2) hu (oP w _ _);have ac:=tM;unfold cFI at hb2 hi;unfold vFI;go_enter Tryz.func132,Tryz.ntmps132;exact Qc9
theorem Row.empB (E:EK α)(hb:base≤g)(h:w.heap[g]?=some (.cells #[] E.elem (0,0))):Row E w base (.slice (some ⟨g,0,none⟩) 0 0) []:=
 ⟨by simp[EK.flat],.inr ⟨g,0,#[],rfl,hb,h,zG _,by unfold maxLen;omega,by simp,by simp[EK.flat]⟩⟩
def Src {α:Type}(E:EK α)(w:World)(ao:Option Addr)(n cap:Nat)(l:List α):Prop:=l.length=n∧(ao=none→n=0∧cap=0)∧∀ ad,ao=some ad→∀ k y,l[k]?=some y→∀ j u,(E.enc y)[j]?=some u→w.cell? (ad.add (k*E.size+j))=some u
theorem RdL.src1 {P:World→Addr→α→Prop}(v : α→Value)(hs:E.size=1)(hE:∀ a,E.enc a = [v a])(hP:∀ x a,P w x a→w.cell? x=some (v a)){l:List α}(h:RdL 1 P w (.slice ao n cap) l):Src E w ao n cap l:=by
 obtain⟨ac,n',cap',e,h1,_,_,h4,h5⟩:=h;cases e
 refine⟨h1,h4,fun ad had k y hy j u hu=>?_⟩;rw[hE] at hu;have hj:j=0:=by
  cases j with
  | zero=>rfl
  | succ j=>simp at hu
 subst hj;simp at hu;subst hu;rw[hs];exact hP _ y (h5 ad had k y hy)
theorem RdL.srcY {l:List UInt8}(h:RdL 1 YAt w (.slice ao n cap) l):Src ekY w ao n cap l:=RdL.src1 (E:=ekY) (fun b=>.int .u8 (b.toNat:Int)) rfl (fun _=>rfl) (fun _ _ h=>h) h
theorem RdL.srcU (h:RdL 1 UAt w (.slice ao n cap) l):Src ekU w ao n cap l:=RdL.src1 (E:=ekU) (fun n=>.int .u64 (n:Int)) rfl (fun _=>rfl) (fun _ _ h=>h) h
theorem D3r (w:World)(a:Option Addr)(l c:Nat):(binOp .eql 30 (.slice a l c) (.slice none 0 0)).run Tryz.prog w = .ok (.bool a.isNone) w:=
 run_eql_slice_nil w 30 5 a l c Tryz.underlying30
theorem B7d (hB:B0≤w.heap.size){l:List UInt8}(h:RdL 1 YAt w (.slice ao n cap) l)(hl:l.length≤140737488355328) :
  Calls Tryz.prog 203 #[.slice ao n cap] w fun e w'=>∃ p:PV,e = .returned p.v∧Row ekY w' B0 p.v l∧zB w w':=by
 obtain⟨h1,h2,h3⟩:=h.srcY;have hnil:=D3r;cases ao with
 | none=>
  obtain⟨rfl,rfl⟩:=h2 rfl;obtain rfl:l = []:=uE h1;go_enter Tryz.func203,Tryz.ntmps203;go_wp2;go_ret;exact⟨none,0,0,rfl,Row.nil _ _ _,zH _ _⟩
 | some x=>
 obtain⟨W1,ag,hb1,x1,z1⟩:=zV w (.cells #[] 5);have hr1:=Row.empB ekY hB x1;obtain⟨_,_,hc⟩:=(h.bL YAt.sT hb1).srcY;have hlen:(([]:List UInt8).length+l.length)*ekY.bytes≤140737488355328:=by show(0+l.length)*1≤_;omega
 clear h h3;go_enter Tryz.func203,Tryz.ntmps203;go_wp2_with (at_builtin;rw[←ag.out];refine mP rfl ekY _ _ rfl B0 _ [] l rfl hr1 (some x) n cap rfl h1 h2 hc (by decide) hlen (by omega) ?_)
 intro v2 w2 hr2 hg2 hk2;obtain⟨a2,n2,ac,rfl,ah⟩:=hr2.shape';go_wp2;go_ret;refine⟨(a2,n2,ac),rfl,hr2,⟨hg2.os.trans hb1.os,hg2.tape.trans hb1.tape,hg2.output.trans hb1.output,yN hb1.size hg2.size,fun k hk=>?_⟩⟩;rw[hg2.block k (by omega) (fun e=>by simp[Value.ownBlock] at e;omega),hb1.block k hk]
theorem mJ {y0 : α}(h:w.heap[g]?=some (.cells cs t (0,0)))(hE:cs=(E.enc y0).toArray):∀ ad,(some ⟨g,0,none⟩:Option Addr)=some ad→∀ k y,[y0][k]?=some y→∀ j u,(E.enc y)[j]?=some u→w.cell? (ad.add (k*E.size+j))=some u:=by
 intro ad had k y hy j u hu;cases had
 have hk:k=0:=by
  cases k with
  | zero=>rfl
  | succ k=>simp at hy
 subst hk;simp at hy;subst hy;rw[xS];refine zL h _ u ?_;rw[hE,bP,jZ,tU,tU];exact hu
theorem E1y (B0:Nat):Ent (fun w (z:List UInt8×PV)=>Row ekY w B0 z.2.v z.1) (fun _=>[]):=⟨fun _ _ _ _ h hf _=>h.frY hf,fun _ _ _ k hk=>by simp at hk⟩
theorem kH{P:Prop}(h:P:=by
 obtain rfl:k=n:=by omega
 have HT:Hid (l.take k=l):=by show _=_;exact uP (by rw[←Hn.out];exact zG _)
 obtain⟨ap,np,cp⟩:=p;rw[HT.out] at hc;unfold PV.v;go_wp2;go_ret;exact⟨(ap,np,cp),l',rfl,hc⟩):P:=h
theorem D3j (hB:B0≤w.heap.size){l:List (List UInt8)}(h:RdL 1 ZAt w vl l)(hl:l.length*24≤reachBytes)(hz:∀ z∈l,z.length*1≤reachBytes) :
  Calls Tryz.prog 211 #[vl,.func (.func 203) #[] #[]] w fun e w'=>∃ (p:PV) (l':List (List UInt8×PV)),e = .returned p.v∧Cop ekZ Prod.fst (fun w (z:List UInt8×PV)=>Row ekY w B0 z.2.v z.1) (fun _=>[]) w B0 l w' p l':=by
 obtain⟨ao,n,cap,rfl,Hn,av⟩:=h.sH;have hn:n*24≤reachBytes:=by rw[Hn.out];exact hl
 unfold reachBytes at hn hz;go_enter Tryz.func211,Tryz.ntmps211;go_wp2_with fail
 go_loopg [5,10] n (fun m s5 i wr=>∃ (k:Nat) (p:PV) (l':List (List UInt8×PV)),k+m=n∧i = .int .i64 k∧s5=p.v∧Cop ekZ Prod.fst (fun w (z:List UInt8×PV)=>Row ekY w B0 z.2.v z.1) (fun _=>[]) w B0 (l.take k) wr p l')
 case atStart=>exact⟨0,(none,0,0),[],by omega,rfl,rfl,Cop.nil w B0⟩
 obtain⟨k,p,l',hk,rfl,rfl,hc⟩:=hrel;by_cases hlt:k<n
 ·obtain⟨z,Hz⟩:=yE (l:=l) (k:=k) (by rw[←Hn.out];exact hlt);obtain⟨b,off,rfl,hat⟩:=(h.bL ZAt.sT hc.bL).get ZAt.plain Hz.out;obtain⟨vz,hz0,hz1⟩:=hat;rw[tS] at hz0;obtain⟨az,nz,cz,rfl,_,_⟩:=hz1.sH;have bc:(k:Int)<(n:Int):=by omega
  have ah:=B7d (B0:=B0) (yN hB hc.bL.size) hz1 (by have:=hz z (uO Hz.out);omega);have HT:Hid (l.take (k+1)=l.take k++[z]):=by show _=_;rw[mV,Hz.out];rfl
  have ag:Hid (l'.length=k):=by show _=_;rw[←yX (f:=Prod.fst),hc.map,vZ,←Hn.out];omega
  obtain⟨ap,np,cp⟩:=p;clear h hz hz1;unfold PV.v at *;go_wp2_with fail
  refine ah.mono ?_;rintro e w1 ⟨pz,rfl,aw,hb1⟩;obtain⟨aq,nq,cq⟩:=pz;unfold PV.v at *;obtain⟨W2,ak,hb2,x2,-⟩:=zV w1 (.cells #[.slice aq nq cq] 30);have ac:=hb1.trans (hb2.mono hb1.size);have hrow2:Row ekZ W2 B0 (.slice ap np cp) l':=hc.row.bL ac;have aj:∀ ad,(some ⟨w1.heap.size,0,none⟩:Option Addr)=some ad→∀ k y,[((z,(aq,nq,cq)):List UInt8×PV)][k]?=some y→∀ j u,(ekZ.enc y)[j]?=some u→W2.cell? (ad.add (k*ekZ.size+j))=some u:=mJ x2 rfl;have hlen:(l'.length + [((z,(aq,nq,cq)):List UInt8×PV)].length)*ekZ.bytes≤140737488355328:=by rw[ag.out];show(k+1)*24≤_;omega
  have au:=yN hB (yN hc.bL.size ac.size);go_wp2_with (at_builtin;rw[←ak.out];refine mP rfl ekZ _ _ rfl B0 _ l' [(z,(aq,nq,cq))] rfl hrow2 (some ⟨w1.heap.size,0,none⟩) 1 1 rfl rfl (fun h=>by cases h) aj (by decide) hlen au ?_)
  intro v3 w3 hr3 hg3 hk3;obtain⟨a3,n3,c3,rfl,ba⟩:=hr3.shape';go_wp2_with fail
  go_roundg (n-(k+1))
  case measure=>omega
  refine⟨k+1,(a3,n3,c3),l'++[(z,(aq,nq,cq))],by omega,by go_num,rfl,?_⟩;rw[HT.out];exact hc.step (E1y B0) (by decide) rfl aw (fun _ h=>by simp at h) List.nodup_nil hb1 hb2 (p3:=(a3,n3,c3)) hr3 hg3 hk3
 exact kH
theorem zP {A:World}(h:zB A V)(k:zB V V'):zB A V':=h.trans (k.mono h.size)
theorem yL {B:Nat}{x:World}{v:Value}(h:Below B w x)(hg:B≤g):Below B w (x.setCell ⟨g,i,none⟩ v):=
 ⟨h.os,h.tape,h.output,by simpa using h.size,fun k hk=>(zZ x ⟨g,i,none⟩ v k (show k≠g by omega)).trans (h.block k hk)⟩
theorem Row.set4 {v:Value}{l:List α}{x:Value}(h:Row E w base v l)(hg:g<base):Row E (w.setCell ⟨g,i,none⟩ x) base v l:=h.other (fun e=>by have:=(h.own g e).1;omega) i x
theorem C5q (hB:B0≤w.heap.size)(r:RI)(h:RdL 1 YAt w (.slice ao n cap) r.bytes)(hl:r.bytes.length≤140737488355328) :
  Calls Tryz.prog 221 #[.agg #[.int .i64 r.nU,.int .i64 r.how,.int .u64 (r.bits:Int),.slice ao n cap]] w fun e w'=>∃ (a:Option Addr) (m c:Nat),e = .returned (.agg #[.int .i64 r.nU,.int .i64 r.how,.int .u64 (r.bits:Int),.slice a m c])∧Row ekY w' B0 (.slice a m c) r.bytes∧zB w w':=by
 obtain⟨W2,ag,hb2,z2,x1,x2⟩:=uD w (.cells #[.int .i64 r.nU,.int .i64 r.how,.int .u64 (r.bits:Int),.slice ao n cap] 78) (.cells #[.int .i64 0,.int .i64 0,.int .u64 0,.slice none 0 0] 78);have ac:=B7d (B0:=W2.heap.size) (zG _) (h.bL YAt.sT hb2) hl;clear h;go_enter Tryz.func221,Tryz.ntmps221;go_wp2_with fail
 rw[←ag.out];refine ac.mono ?_;rintro e w3 ⟨⟨a,m,c⟩,rfl,hr3,hb3⟩;unfold PV.v at *;have hz3:=hb3.size;have y1:=(zN hb3).trans x1;have y2:=(zN hb3).trans x2;have u0:w3.cell? ⟨w.heap.size,0,none⟩=some (.int .i64 r.nU):=zL y1 0 _ rfl;have u1:w3.cell? ⟨w.heap.size,1,none⟩=some (.int .i64 r.how):=zL y1 1 _ rfl;have u2:w3.cell? ⟨w.heap.size,2,none⟩=some (.int .u64 (r.bits:Int)):=zL y1 2 _ rfl;have u3:w3.cell? ⟨w.heap.size,3,none⟩=some (.slice ao n cap):=zL y1 3 _ rfl;have f3:=zJ y1 3;have q0:w3.cell? ⟨w.heap.size+1,0,none⟩=some (.int .i64 0):=zL y2 0 _ rfl;have q1:w3.cell? ⟨w.heap.size+1,1,none⟩=some (.int .i64 0):=zL y2 1 _ rfl;have q2:w3.cell? ⟨w.heap.size+1,2,none⟩=some (.int .u64 0):=zL y2 2 _ rfl;have q3:w3.cell? ⟨w.heap.size+1,3,none⟩=some (.slice none 0 0):=zL y2 3 _ rfl;have g0:=zJ y2 0;have g1:=zJ y2 1;have g2:=zJ y2 2;have g3:=zJ y2 3;have ah:¬ w.heap.size=w.heap.size+1:=by omega
 have aj:¬ w.heap.size+1=w.heap.size:=by omega
 go_wp2;refine bodyPost_ret (v:=.agg #[.int .i64 r.nU,.int .i64 r.how,.int .u64 (r.bits:Int),.slice a m c]) (by simp[results,Tryz.results221,go_sem, *]) rfl ?_;refine⟨a,m,c,rfl,?_,?_⟩
 ·exact(((((hr3.set4 (by omega)).set4 (by omega)).set4 (by omega)).set4 (by omega)).set4 (by omega)).mono (by omega)
 exact yL (yL (yL (yL (yL (zP hb2 hb3) (by omega)) (by omega)) (by omega)) (by omega)) (by omega)
def BQ:(d:Nat)→World→Value→Value→BI d→Prop
 | 0=>fun _ _ _ _=>False
 | d+1=>fun w v0 v1 b=>BRd d w v0 v1 b
theorem BQ.of:∀ (d:Nat){w:World}{b o:Nat}{x:BI d},BAt d w ⟨b,o,none⟩ x→∃ v0 v1,w.cell? ⟨b,o,none⟩=some v0∧w.cell? ⟨b,o+1,none⟩=some v1∧BQ d w v0 v1 x
 | 0,_,_,_,_,h=>h.elim
 | _+1,_,_,_,_,h=>BAt.at h
theorem BRd.sH {b:BO (BI d)}(h:BRd d w v0 v1 b):∃ a0 n0 c0 a1 n1 c1,v0 = .slice a0 n0 c0∧v1 = .slice a1 n1 c1:=by
 obtain⟨a0,n0,c0,e0,_,_⟩:=h.1.sH;obtain⟨a1,n1,c1,e1,_,_⟩:=h.2.sH;exact⟨a0,n0,c0,a1,n1,c1,e0,e1⟩
theorem BQ.sH {b:BI d}(h:BQ d w v0 v1 b):∃ a0 n0 c0 a1 n1 c1,v0 = .slice a0 n0 c0∧v1 = .slice a1 n1 c1:=by
 cases d with
 | zero=>exact h.elim
 | succ d=>exact BRd.sH h
theorem BQ.bL {w':World}{b:BI d}(h:BQ d w v0 v1 b)(hb:zB w w'):BQ d w' v0 v1 b:=by
 cases d with
 | zero=>exact h.elim
 | succ d=>exact BRd.bL h hb
theorem E1x (B0:Nat):Ent (fun w (r:RI×PV)=>Row ekY w B0 r.2.v r.1.bytes) (fun _=>[]):=⟨fun _ _ _ _ h hf _=>h.frY hf,fun _ _ _ k hk=>by simp at hk⟩
theorem E1w (B0 d:Nat):Ent (OwnB B0 d) (LB.fp d):=⟨fun F w w' a=>OwnB.fr d F w w' a,fun _ _ h k hk=>(OwnB.inB d h k hk).2⟩
theorem aR (B0 d:Nat):Ent (fun w (v:VL (LB d))=>OwnV (ekB d) (OwnB B0 d) w B0 v) (VL.fp (LB.fp d)):=⟨fun _ _ _ _ h hf hd=>h.fr (OwnB.fr d) hf hd,fun _ _ h k hk=>(h.inB (fun _ _ hs=>OwnB.inB d hs) k hk).2⟩
theorem D3h (hB:B0≤w.heap.size){l:List (RI)}(h:RdL 4 RAt w vl l)(hl:l.length*48≤reachBytes)(bn:∀ (args:Array Value) (w:World),(callFunc fn args).run Tryz.prog w = .ok (.enter fn args) w)
  (aj:∀ W,zB w W→∀ a∈l,∀ (ay:Option Addr) (ny cy:Nat),RdL 1 YAt W (.slice ay ny cy) a.bytes→Calls Tryz.prog fn #[.agg #[.int .i64 a.nU,.int .i64 a.how,.int .u64 (a.bits:Int),.slice ay ny cy]] W fun e W'=>∃ (a':RI×PV) (q0 q1 q2:Int) (ax:Option Addr) (nx cx:Nat),ekR.enc a' = [.int .i64 q0,.int .i64 q1,.int .u64 q2,.slice ax nx cx]∧e = .returned (.agg #[.int .i64 q0,.int .i64 q1,.int .u64 q2,.slice ax nx cx])∧Prod.fst a'=a∧(fun w (r:RI×PV)=>Row ekY w B0 r.2.v r.1.bytes) W' a'∧(∀ k∈(fun(_:RI×PV)=>([]:List Nat)) a',W.heap.size≤k)∧((fun(_:RI×PV)=>([]:List Nat)) a').Nodup∧zB W W') :
  Calls Tryz.prog 220 #[vl,.func (.func fn) #[] #[]] w fun e w'=>∃ (p:PV) (l':List (RI×PV)),e = .returned p.v∧Cop (ekR) (Prod.fst) ((fun w (r:RI×PV)=>Row ekY w B0 r.2.v r.1.bytes)) ((fun(_:RI×PV)=>([]:List Nat))) w B0 l w' p l':=by
 obtain⟨ao,n,cap,rfl,Hn,bl⟩:=h.sH;have hn:n*48≤reachBytes:=by rw[Hn.out];exact hl
 unfold reachBytes at hn;go_enter Tryz.func220,Tryz.ntmps220;go_wp2_with fail
 go_loopg [5,10] n (fun m s5 i wr=>∃ (k:Nat) (p:PV) (l':List (RI×PV)),k+m=n∧i = .int .i64 k∧s5=p.v∧Cop (ekR) (Prod.fst) ((fun w (r:RI×PV)=>Row ekY w B0 r.2.v r.1.bytes)) ((fun(_:RI×PV)=>([]:List Nat))) w B0 (l.take k) wr p l')
 case atStart=>exact⟨0,(none,0,0),[],by omega,rfl,rfl,Cop.nil w B0⟩
 case round=>
  obtain⟨k,p,l',hk,rfl,rfl,hc⟩:=hrel;by_cases hlt:k<n
  ·obtain⟨z,Hz⟩:=yE (l:=l) (k:=k) (by rw[←Hn.out];exact hlt);obtain⟨b,off,rfl,hat⟩:=(h.bL RAt.sT hc.bL).get RAt.plain Hz.out;obtain⟨vy,s0,s1,s2,s3,bc⟩:=hat.at;obtain⟨ay,ny,cy,rfl,_,_⟩:=bc.sH;have cj:(k:Int)<(n:Int):=by omega
   have HT:Hid (l.take (k+1)=l.take k++[z]):=by show _=_;rw[mV,Hz.out];rfl
   have ak:Hid (l'.length=k):=by show _=_;rw[←yX (f:=Prod.fst),hc.map,vZ,←Hn.out];omega
   obtain⟨ap,np,cp⟩:=p;obtain⟨W1,bg,hb1,-,-⟩:=zV wr (.cells #[.int .i64 z.nU,.int .i64 z.how,.int .u64 (z.bits:Int),.slice ay ny cy] 78);have ac:=aj W1 (zP hc.bL hb1) z (uO Hz.out) ay ny cy (bc.bL YAt.sT hb1);clear h aj;unfold PV.v at *;go_wp2_with fail
   rw[←bg.out];refine ac.mono ?_;rintro e w2 ⟨a',q0,q1,q2,ax,nx,cx,au,rfl,her,hO,ba,bu,hb2⟩;obtain⟨W3,bh,hb3,x3,-⟩:=zV w2 (.cells #[.int .i64 q0,.int .i64 q1,.int .u64 q2,.slice ax nx cx] 78);have ag:=zP hb1 hb2;have ah:=zP ag hb3;have hrow3:Row (ekR) W3 B0 (.slice ap np cp) l':=hc.row.bL ah;have aw:=mJ x3 (by rw[au]);have hlen:(l'.length + [a'].length)*(ekR).bytes≤140737488355328:=by rw[ak.out];show(k+1)*48≤_;omega
   have bk:=yN hB (yN hc.bL.size ah.size);have av:∀ k∈((fun(_:RI×PV)=>([]:List Nat))) a',wr.heap.size≤k:=fun k hk=>yN hb1.size (ba k hk)
   clear ac x3 ba;go_wp2_with (at_builtin;rw[←bh.out];refine mP rfl (ekR) _ _ rfl B0 _ l' [a'] rfl hrow3 (some ⟨w2.heap.size,0,none⟩) 1 1 rfl rfl (fun h=>by cases h) aw (show 1≤48 by omega) hlen bk ?_)
   intro v4 w4 hr4 hg4 hk4;obtain⟨a4,n4,c4,rfl,cg⟩:=hr4.shape';go_wp2_with fail
   go_roundg (n-(k+1))
   case measure=>omega
   case rel=>
    refine⟨k+1,(a4,n4,c4),l'++[a'],by omega,by go_num,rfl,?_⟩;rw[HT.out];exact hc.step (E1x B0) (by show(78:TypeId)≠5;decide) her hO av bu ag hb3 (p3:=(a4,n4,c4)) hr4 hg4 hk4
  ·exact kH
theorem D3g (hB:B0≤w.heap.size){l:List (BI d)}(h:RdL 2 (BAt d) w vl l)(hl:l.length*48≤reachBytes)(bl:∀ (args:Array Value) (w:World),(callFunc fn args).run Tryz.prog w = .ok (.enter fn args) w)
  (aj:∀ W,zB w W→∀ a∈l,∀ (a0:Option Addr) (n0 c0:Nat) (a1:Option Addr) (n1 c1:Nat),BQ d W (.slice a0 n0 c0) (.slice a1 n1 c1) a→Calls Tryz.prog fn #[.agg #[.slice a0 n0 c0,.slice a1 n1 c1]] W fun e W'=>∃ (a':LB d) (x0:Option Addr) (y0 z0:Nat) (x1:Option Addr) (y1 z1:Nat),(ekB d).enc a' = [.slice x0 y0 z0,.slice x1 y1 z1]∧e = .returned (.agg #[.slice x0 y0 z0,.slice x1 y1 z1])∧(LB.pl d) a'=a∧(OwnB B0 d) W' a'∧(∀ k∈(LB.fp d) a',W.heap.size≤k)∧((LB.fp d) a').Nodup∧zB W W') :
  Calls Tryz.prog 212 #[vl,.func (.func fn) #[] #[]] w fun e w'=>∃ (p:PV) (l':List (LB d)),e = .returned p.v∧Cop ((ekB d)) ((LB.pl d)) ((OwnB B0 d)) ((LB.fp d)) w B0 l w' p l':=by
 obtain⟨ao,n,cap,rfl,Hn,bk⟩:=h.sH;have hn:n*48≤reachBytes:=by rw[Hn.out];exact hl
 unfold reachBytes at hn;go_enter Tryz.func212,Tryz.ntmps212;go_wp2_with fail
 go_loopg [5,10] n (fun m s5 i wr=>∃ (k:Nat) (p:PV) (l':List (LB d)),k+m=n∧i = .int .i64 k∧s5=p.v∧Cop ((ekB d)) ((LB.pl d)) ((OwnB B0 d)) ((LB.fp d)) w B0 (l.take k) wr p l')
 case atStart=>exact⟨0,(none,0,0),[],by omega,rfl,rfl,Cop.nil w B0⟩
 case round=>
  obtain⟨k,p,l',hk,rfl,rfl,hc⟩:=hrel;by_cases hlt:k<n
  ·obtain⟨z,Hz⟩:=yE (l:=l) (k:=k) (by rw[←Hn.out];exact hlt);obtain⟨b,off,rfl,hat⟩:=(h.bL (BAt.sT d) hc.bL).get (BAt.plain d) Hz.out;obtain⟨v0,v1,s0,s1,hq⟩:=BQ.of d hat;obtain⟨a0,n0,c0,a1,n1,c1,rfl,rfl⟩:=hq.sH;have cg:(k:Int)<(n:Int):=by omega
   have HT:Hid (l.take (k+1)=l.take k++[z]):=by show _=_;rw[mV,Hz.out];rfl
   have ak:Hid (l'.length=k):=by show _=_;rw[←yX (f:=(LB.pl d)),hc.map,vZ,←Hn.out];omega
   obtain⟨ap,np,cp⟩:=p;obtain⟨W1,bc,hb1,-,-⟩:=zV wr (.cells #[.slice a0 n0 c0,.slice a1 n1 c1] 29);have ac:=aj W1 (zP hc.bL hb1) z (uO Hz.out) a0 n0 c0 a1 n1 c1 (hq.bL hb1);clear h aj;unfold PV.v at *;go_wp2_with fail
   rw[←bc.out];refine ac.mono ?_;rintro e w2 ⟨a',x0,y0,z0,x1,y1,z1,au,rfl,her,hO,ba,bn,hb2⟩;obtain⟨W3,bg,hb3,x3,-⟩:=zV w2 (.cells #[.slice x0 y0 z0,.slice x1 y1 z1] 29);have ag:=zP hb1 hb2;have ah:=zP ag hb3;have hrow3:Row ((ekB d)) W3 B0 (.slice ap np cp) l':=hc.row.bL ah;have aw:=mJ x3 (by rw[au]);have hlen:(l'.length + [a'].length)*((ekB d)).bytes≤140737488355328:=by rw[ak.out];show(k+1)*48≤_;omega
   have bh:=yN hB (yN hc.bL.size ah.size);have av:∀ k∈((LB.fp d)) a',wr.heap.size≤k:=fun k hk=>yN hb1.size (ba k hk)
   clear ac x3 ba;go_wp2_with (at_builtin;rw[←bg.out];refine mP rfl ((ekB d)) _ _ rfl B0 _ l' [a'] rfl hrow3 (some ⟨w2.heap.size,0,none⟩) 1 1 rfl rfl (fun h=>by cases h) aw (show 1≤48 by omega) hlen bh ?_)
   intro v4 w4 hr4 hg4 hk4;obtain⟨a4,n4,c4,rfl,bu⟩:=hr4.shape';go_wp2_with fail
   go_roundg (n-(k+1))
   case measure=>omega
   case rel=>
    refine⟨k+1,(a4,n4,c4),l'++[a'],by omega,by go_num,rfl,?_⟩;rw[HT.out];exact hc.step (E1w B0 d) (by show(29:TypeId)≠5;decide) her hO av bn ag hb3 (p3:=(a4,n4,c4)) hr4 hg4 hk4
  ·exact kH
theorem D3i (hB:B0≤w.heap.size){l:List (VI (BI d))}(h:RdL 4 (VAt (BAt d)) w vl l)(hl:l.length*80≤reachBytes)(bl:∀ (args:Array Value) (w:World),(callFunc fn args).run Tryz.prog w = .ok (.enter fn args) w)
  (aj:∀ W,zB w W→∀ a∈l,∀ (a1:Option Addr) (n1 c1:Nat) (a2:Option Addr) (n2 c2:Nat) (a3:Option Addr) (n3 c3:Nat),RdL 1 UAt W (.slice a1 n1 c1) a.bits→RdL 1 ZAt W (.slice a2 n2 c2) a.bytes→RdL 2 (BAt d) W (.slice a3 n3 c3) a.subs→Calls Tryz.prog fn #[.agg #[.int .i64 a.nU,.slice a1 n1 c1,.slice a2 n2 c2,.slice a3 n3 c3]] W fun e W'=>∃ (a':VL (LB d)) (q0:Int) (x1:Option Addr) (y1 z1:Nat) (x2:Option Addr) (y2 z2:Nat) (x3:Option Addr) (y3 z3:Nat),(ekV (LB d)).enc a' = [.int .i64 q0,.slice x1 y1 z1,.slice x2 y2 z2,.slice x3 y3 z3]∧e = .returned (.agg #[.int .i64 q0,.slice x1 y1 z1,.slice x2 y2 z2,.slice x3 y3 z3])∧(VL.pl (LB.pl d)) a'=a∧(fun w (v:VL (LB d))=>OwnV (ekB d) (OwnB B0 d) w B0 v) W' a'∧(∀ k∈(VL.fp (LB.fp d)) a',W.heap.size≤k)∧((VL.fp (LB.fp d)) a').Nodup∧zB W W') :
  Calls Tryz.prog 219 #[vl,.func (.func fn) #[] #[]] w fun e w'=>∃ (p:PV) (l':List (VL (LB d))),e = .returned p.v∧Cop ((ekV (LB d))) ((VL.pl (LB.pl d))) ((fun w (v:VL (LB d))=>OwnV (ekB d) (OwnB B0 d) w B0 v)) ((VL.fp (LB.fp d))) w B0 l w' p l':=by
 obtain⟨ao,n,cap,rfl,Hn,bk⟩:=h.sH;have hn:n*80≤reachBytes:=by rw[Hn.out];exact hl
 unfold reachBytes at hn;go_enter Tryz.func219,Tryz.ntmps219;go_wp2_with fail
 go_loopg [5,10] n (fun m s5 i wr=>∃ (k:Nat) (p:PV) (l':List (VL (LB d))),k+m=n∧i = .int .i64 k∧s5=p.v∧Cop ((ekV (LB d))) ((VL.pl (LB.pl d))) ((fun w (v:VL (LB d))=>OwnV (ekB d) (OwnB B0 d) w B0 v)) ((VL.fp (LB.fp d))) w B0 (l.take k) wr p l')
 case atStart=>exact⟨0,(none,0,0),[],by omega,rfl,rfl,Cop.nil w B0⟩
 case round=>
  obtain⟨k,p,l',hk,rfl,rfl,hc⟩:=hrel;by_cases hlt:k<n
  ·obtain⟨z,Hz⟩:=yE (l:=l) (k:=k) (by rw[←Hn.out];exact hlt);obtain⟨b,off,rfl,hat⟩:=(h.bL (VAt.sT (BAt.sT d)) hc.bL).get VAt.plain Hz.out;obtain⟨v1,v2,v3,t0,t1,t2,t3,r1,r2,r3⟩:=hat.at;obtain⟨a1,n1,c1,rfl,_,_⟩:=r1.sH;obtain⟨a2,n2,c2,rfl,_,_⟩:=r2.sH;obtain⟨a3,n3,c3,rfl,_,_⟩:=r3.sH;have cg:(k:Int)<(n:Int):=by omega
   have HT:Hid (l.take (k+1)=l.take k++[z]):=by show _=_;rw[mV,Hz.out];rfl
   have ak:Hid (l'.length=k):=by show _=_;rw[←yX (f:=(VL.pl (LB.pl d))),hc.map,vZ,←Hn.out];omega
   obtain⟨ap,np,cp⟩:=p;obtain⟨W1,bc,hb1,-,-⟩:=zV wr (.cells #[.int .i64 z.nU,.slice a1 n1 c1,.slice a2 n2 c2,.slice a3 n3 c3] 63);have ac:=aj W1 (zP hc.bL hb1) z (uO Hz.out) a1 n1 c1 a2 n2 c2 a3 n3 c3 (r1.bL UAt.sT hb1) (r2.bL ZAt.sT hb1) (r3.bL (BAt.sT d) hb1);clear h aj;unfold PV.v at *;go_wp2_with fail
   rw[←bc.out];refine ac.mono ?_;rintro e w2 ⟨a',q0,x1,y1,z1,x2,y2,z2,x3,y3,z3,au,rfl,her,hO,ba,bn,hb2⟩;obtain⟨W3,bg,hb3,x3,-⟩:=zV w2 (.cells #[.int .i64 q0,.slice x1 y1 z1,.slice x2 y2 z2,.slice x3 y3 z3] 63);have ag:=zP hb1 hb2;have ah:=zP ag hb3;have hrow3:Row ((ekV (LB d))) W3 B0 (.slice ap np cp) l':=hc.row.bL ah;have aw:=mJ x3 (by rw[au]);have hlen:(l'.length + [a'].length)*((ekV (LB d))).bytes≤140737488355328:=by rw[ak.out];show(k+1)*80≤_;omega
   have bh:=yN hB (yN hc.bL.size ah.size);have av:∀ k∈((VL.fp (LB.fp d))) a',wr.heap.size≤k:=fun k hk=>yN hb1.size (ba k hk)
   clear ac x3 ba;go_wp2_with (at_builtin;rw[←bg.out];refine mP rfl ((ekV (LB d))) _ _ rfl B0 _ l' [a'] rfl hrow3 (some ⟨w2.heap.size,0,none⟩) 1 1 rfl rfl (fun h=>by cases h) aw (show 1≤80 by omega) hlen bh ?_)
   intro v4 w4 hr4 hg4 hk4;obtain⟨a4,n4,c4,rfl,bu⟩:=hr4.shape';go_wp2_with fail
   go_roundg (n-(k+1))
   case measure=>omega
   case rel=>
    refine⟨k+1,(a4,n4,c4),l'++[a'],by omega,by go_num,rfl,?_⟩;rw[HT.out];exact hc.step (aR B0 d) (by show(63:TypeId)≠5;decide) her hO av bn ag hb3 (p3:=(a4,n4,c4)) hr4 hg4 hk4
  ·exact kH
def VZ (d:Nat):Prop:=∀ (w:World) (B0:Nat) (a0:Option Addr) (n0 c0:Nat) (a1:Option Addr) (n1 c1:Nat) (x:BI d),B0≤w.heap.size→BQ d w (.slice a0 n0 c0) (.slice a1 n1 c1) x→BOk d x→
 Calls Tryz.prog 183 #[.agg #[.slice a0 n0 c0,.slice a1 n1 c1]] w fun e w'=>∃ (y:LB d) (x0:Option Addr) (y0 z0:Nat) (x1:Option Addr) (y1 z1:Nat),(ekB d).enc y = [.slice x0 y0 z0,.slice x1 y1 z1]∧e = .returned (.agg #[.slice x0 y0 z0,.slice x1 y1 z1])∧LB.pl d y=x∧OwnB B0 d w' y∧(∀ k∈LB.fp d y,w.heap.size≤k)∧(LB.fp d y).Nodup∧zB w w'
def US (d:Nat):Prop:=∀ (w:World) (B0:Nat) (v:VI (BI d)) (a1:Option Addr) (n1 c1:Nat) (a2:Option Addr) (n2 c2:Nat) (a3:Option Addr) (n3 c3:Nat),B0≤w.heap.size→RdL 1 UAt w (.slice a1 n1 c1) v.bits→RdL 1 ZAt w (.slice a2 n2 c2) v.bytes→RdL 2 (BAt d) w (.slice a3 n3 c3) v.subs→VOk (BOk d) v→
 Calls Tryz.prog 180 #[.agg #[.int .i64 v.nU,.slice a1 n1 c1,.slice a2 n2 c2,.slice a3 n3 c3]] w fun e w'=>∃ (y:VL (LB d)) (q0:Int) (x1:Option Addr) (y1 z1:Nat) (x2:Option Addr) (y2 z2:Nat) (x3:Option Addr) (y3 z3:Nat),(ekV (LB d)).enc y = [.int .i64 q0,.slice x1 y1 z1,.slice x2 y2 z2,.slice x3 y3 z3]∧e = .returned (.agg #[.int .i64 q0,.slice x1 y1 z1,.slice x2 y2 z2,.slice x3 y3 z3])∧VL.pl (LB.pl d) y=v∧OwnV (ekB d) (OwnB B0 d) w' B0 y∧(∀ k∈VL.fp (LB.fp d) y,w.heap.size≤k)∧(VL.fp (LB.fp d) y).Nodup∧zB w w'
theorem uW {fr:Nat×Nat}{x:Value}(h:w.heap[g]?=some (.cells cs t fr))(ht:t≠5):FrB [g] w (w.setCell ⟨g,i,none⟩ x):=by
 refine⟨rfl,rfl,rfl,by simp,fun k _ hc=>zZ w ⟨g,i,none⟩ x k (show k≠g from fun e=>?_)⟩;rcases hc with hc|⟨cs',fr',hc⟩
 ·exact hc (by simp[e])
 rw[e,h] at hc;simp only[Option.some.injEq,Obj.cells.injEq] at hc;exact ht hc.2.1
theorem C0f (h:V.grownBy V' (Value.slice none 0 0).ownBlock):zB V V':=⟨h.os,h.tape,h.output,h.size,fun k hk=>h.block k hk (by simp[Value.ownBlock])⟩
theorem pW {a b c:World}(h:FrB [g] a b)(k:FrB [g] b c):FrB [g] a c:=h.trans k (fun _ hi=>hi) (fun _ hi=>.inl hi)
theorem fr4 {x2 x3:Value}(h:w.heap[g]?=some (.cells cs 63 (0,0))):FrB [g] w ((((w.setCell ⟨g,0,none⟩ x0).setCell ⟨g,1,none⟩ x1).setCell ⟨g,2,none⟩ x2).setCell ⟨g,3,none⟩ x3):=by
 have h1:=yO _ _ 0 _ _ x0 h;have h2:=yO _ _ 1 _ _ x1 h1;have h3:=yO _ _ 2 _ _ x2 h2;exact pW (pW (pW (uW h (by decide)) (uW h1 (by decide))) (uW h2 (by decide))) (uW h3 (by decide))
theorem OwnV.mono {E:EK β}{O O':World→β→Prop}{base':Nat}{v:VL β}(h:OwnV E O w base v)(hb:base'≤base)(hO:∀ s,O w s→O' w s):OwnV E O' w base' v:=⟨h.r1.mono hb,h.r2.mono hb,fun z hz=>(h.r2y z hz).mono hb,h.r3.mono hb,fun s hs=>hO s (h.r3s s hs)⟩
theorem OwnB.mono:∀ (d:Nat){w:World}{base base':Nat}{b:LB d},OwnB base d w b→base'≤base→OwnB base' d w b
 | 0,_,_,_,_,h,_=>h
 | d+1,_,_,_,_,h,hb=>⟨h.r0.mono hb,fun v hv=>(h.r0v v hv).mono hb fun _ hs=>OwnB.mono d hs hb,h.r1.mono hb,fun r hr=>(h.r1y r hr).mono hb⟩
theorem D9x {c:List Nat}{lc hc:Nat}(na:a.Nodup)(nb:b.Nodup)(nc:c.Nodup)(ia:∀ k∈a,la≤k∧k<ha)(ib:∀ k∈b,lb≤k∧k<hb)(ic:∀ k∈c,lc≤k∧k<hc)(ac:ha≤lb∨hb≤la)(ag:ha≤lc∨hc≤la)(ah:hb≤lc∨hc≤lb):(a++b++c).Nodup:=by
 refine gH.2 ⟨gH.2 ⟨na,nb,fun x hx y hy e=>?_⟩,nc,fun x hx y hy e=>?_⟩
 ·subst e;have:=ia x hx;have:=ib x hy;omega
 subst e;have:=ic x hy;rcases zU.1 hx with hx|hx
 ·have:=ia x hx;omega
 have:=ib x hx;omega
theorem ZR (p:PV):(own1 p).Nodup:=by
 unfold own1;cases p.v.ownBlock <;> simp
theorem B8i (ih:VZ d):US d:=by
 intro w B0 v a1 n1 c1 a2 n2 c2 a3 n3 c3 hB r1 r2 r3 bk;obtain⟨_,hu,av,hz,hl2,hQ,aw⟩:=bk;obtain⟨W2,ba,hb2,z2,x1,x2⟩:=uD w (.cells #[.int .i64 v.nU,.slice a1 n1 c1,.slice a2 n2 c2,.slice a3 n3 c3] 63) (.cells #[.int .i64 0,.slice none 0 0,.slice none 0 0,.slice none 0 0] 63);have bg:∀ V,zB W2 V→Calls Tryz.prog 211 #[.slice a2 n2 c2,.func (.func 203) #[] #[]] V fun e w'=>∃ (a:Option Addr) (n c:Nat) (l':List (List UInt8×PV)),e = .returned (.slice a n c)∧Cop ekZ Prod.fst (fun w (z:List UInt8×PV)=>Row ekY w W2.heap.size z.2.v z.1) (fun _=>[]) V W2.heap.size v.bytes w' (a,n,c) l':=fun V hV=>(D3j hV.size (r2.bL ZAt.sT (zP hb2 hV)) hl2 hz).mono fun _ _ ⟨⟨a,n,c⟩,l',h1,h2⟩=>⟨a,n,c,l',h1,h2⟩
 have hcb:∀ V,zB W2 V→Calls Tryz.prog 212 #[.slice a3 n3 c3,.func (.func 183) #[] #[]] V fun e w'=>∃ (a:Option Addr) (n c:Nat) (l':List (LB d)),e = .returned (.slice a n c)∧Cop (ekB d) (LB.pl d) (OwnB W2.heap.size d) (LB.fp d) V W2.heap.size v.subs w' (a,n,c) l':=fun V hV=>(D3g hV.size (r3.bL (BAt.sT d) (zP hb2 hV)) aw (enters_of Tryz.func183 (by kernel_rfl) rfl) fun W hW a ha a0 n0 c0 a1 n1 c1 hq=>ih W W2.heap.size a0 n0 c0 a1 n1 c1 a (yN hV.size hW.size) hq (hQ a ha)).mono fun _ _ ⟨⟨a,n,c⟩,l',h1,h2⟩=>⟨a,n,c,l',h1,h2⟩
 have ah:∀ V,zB W2 V→(V.cell? ⟨w.heap.size,0,none⟩=some (.int .i64 v.nU)∧V.cell? ⟨w.heap.size,1,none⟩=some (.slice a1 n1 c1)∧V.cell? ⟨w.heap.size,2,none⟩=some (.slice a2 n2 c2)∧V.cell? ⟨w.heap.size,3,none⟩=some (.slice a3 n3 c3))∧V.cell? ⟨w.heap.size+1,0,none⟩=some (.int .i64 0)∧V.cell? ⟨w.heap.size+1,1,none⟩=some (.slice none 0 0)∧V.cell? ⟨w.heap.size+1,2,none⟩=some (.slice none 0 0)∧V.cell? ⟨w.heap.size+1,3,none⟩=some (.slice none 0 0)∧V.frozen? ⟨w.heap.size+1,0,none⟩=false∧V.frozen? ⟨w.heap.size+1,1,none⟩=false∧V.frozen? ⟨w.heap.size+1,2,none⟩=false∧V.frozen? ⟨w.heap.size+1,3,none⟩=false:=fun V hV=>by
  have y1:=(zN hV).trans x1;have y2:=(zN hV).trans x2;exact⟨⟨zL y1 0 _ rfl,zL y1 1 _ rfl,zL y1 2 _ rfl,zL y1 3 _ rfl⟩,zL y2 0 _ rfl,zL y2 1 _ rfl,zL y2 2 _ rfl,zL y2 3 _ rfl,zJ y2 0,zJ y2 1,zJ y2 2,zJ y2 3⟩
 have ak:=fun V (hV:zB W2 V)=>(r1.bL UAt.sT (zP hb2 hV)).srcU
 have hby:(([]:List Nat).length+v.bits.length)*ekU.bytes≤140737488355328:=by
  unfold reachBytes at av;show(0+v.bits.length)*8≤_;omega
 have hD:zB W2 W2.drew:=(zH _ _).drew;obtain⟨⟨d0,d1,d2,d3⟩,e0,e1,e2,e3,e4,e5,e6,e7⟩:=ah _ hD;have cw:¬ w.heap.size=w.heap.size+1:=by omega
 have df:¬ w.heap.size+1=w.heap.size:=by omega
 have hS:=fun V (hV:zB W2 V)=>yH (zP hb2 hV) ((ah V hV).1)
 have far:∀ (V:World) (i j:Nat) (x:Value),(V.setCell ⟨w.heap.size+1,i,none⟩ x).cell? ⟨w.heap.size,j,none⟩=V.cell? ⟨w.heap.size,j,none⟩:=fun V i j x=>bO V _ _ _ (by simp)
 have bc:∀ V,zB W2 V→∀ x0 x1 x2 x3:Value,zB w ((((V.setCell ⟨w.heap.size+1,0,none⟩ x0).setCell ⟨w.heap.size+1,1,none⟩ x1).setCell ⟨w.heap.size+1,2,none⟩ x2).setCell ⟨w.heap.size+1,3,none⟩ x3)∧((((V.setCell ⟨w.heap.size+1,0,none⟩ x0).setCell ⟨w.heap.size+1,1,none⟩ x1).setCell ⟨w.heap.size+1,2,none⟩ x2).setCell ⟨w.heap.size+1,3,none⟩ x3).cell? ⟨w.heap.size,0,none⟩=some (.int .i64 v.nU)∧((((V.setCell ⟨w.heap.size+1,0,none⟩ x0).setCell ⟨w.heap.size+1,1,none⟩ x1).setCell ⟨w.heap.size+1,2,none⟩ x2).setCell ⟨w.heap.size+1,3,none⟩ x3).cell? ⟨w.heap.size,1,none⟩=some (.slice a1 n1 c1)∧((((V.setCell ⟨w.heap.size+1,0,none⟩ x0).setCell ⟨w.heap.size+1,1,none⟩ x1).setCell ⟨w.heap.size+1,2,none⟩ x2).setCell ⟨w.heap.size+1,3,none⟩ x3).cell? ⟨w.heap.size,2,none⟩=some (.slice a2 n2 c2)∧((((V.setCell ⟨w.heap.size+1,0,none⟩ x0).setCell ⟨w.heap.size+1,1,none⟩ x1).setCell ⟨w.heap.size+1,2,none⟩ x2).setCell ⟨w.heap.size+1,3,none⟩ x3).cell? ⟨w.heap.size,3,none⟩=some (.slice a3 n3 c3):=fun V hV x0 x1 x2 x3=>by
  simp only[far];exact⟨yL (yL (yL (yL (zP hb2 hV) (by omega)) (by omega)) (by omega)) (by omega),(ah V hV).1⟩
 clear ih r1 r2 r3 av hl2 aw hz hQ hu x1 far;go_enter Tryz.func180,Tryz.ntmps180;go_wp2_with fail
 rw[←ba.out];go_region_held3 (fun V=>zB w V∧V.cell? ⟨w.heap.size,0,none⟩=some (.int .i64 v.nU)∧V.cell? ⟨w.heap.size,1,none⟩=some (.slice a1 n1 c1)∧V.cell? ⟨w.heap.size,2,none⟩=some (.slice a2 n2 c2)∧V.cell? ⟨w.heap.size,3,none⟩=some (.slice a3 n3 c3)) ((first|(with_reducible refine hS _ ?_;with_reducible (first|exact hD|exact hA|exact hZ|exact hY))|(with_reducible refine bc _ ?_ _ _ _ _;with_reducible (first|exact hA|exact hY)))) ((first|(refine D1n (by rfl) ekU _ _ (by rfl) W2.heap.size (.slice none 0 0) [] v.bits (by rfl) (Row.nil _ _ _) a1 n1 c1 (by rfl) (ak _ hD).1 (ak _ hD).2.1 (ak _ (by with_reducible (first|exact hD|exact hZ|exact hY))).2.2 (by decide) hby (by with_reducible (first|exact hD.size|exact hZ.size|exact hY.size)) ?_;intro vA wA aj bh cg;obtain⟨aA,nA,cA,rfl,bu⟩:=aj.shape';have hA:zB W2 wA:=zP (by with_reducible (first|exact hD|exact hZ|exact hY)) (C0f bh);obtain⟨⟨fj,fk,fq,fu⟩,dg,dh,di,dl,dm,dn,dp,dr⟩:=ah _ hA)|(go_at_call 211;refine(bg _ (by with_reducible (first|exact hD|exact hA))).mono ?_;rintro e wZ ⟨aZ,nZ,cZ,lZ,rfl,ag⟩;have hZ:zB W2 wZ:=zP (by with_reducible (first|exact hD|exact hA)) ag.bL;obtain⟨⟨f9,gc,gg,gh⟩,eh,ei,eo,eu,ew,fd,fe,fh⟩:=ah _ hZ)|(go_at_call 212;refine(hcb _ (by with_reducible (first|exact hZ|exact hA))).mono ?_;rintro e wY ⟨aY,nY,cY,lY,rfl,ac⟩;have hY:zB W2 wY:=zP (by with_reducible (first|exact hZ|exact hA)) ac.bL;obtain⟨⟨fw,fy,fz,f6⟩,dt,dv,dw,dx,dy,dz,d9,ee⟩:=ah _ hY)))
 have cj:=hA.size;have bn:=ag.bL.size;have cu:=ac.bL.size;have iA:∀ k∈own1 ((aA,nA,cA):PV),W2.heap.size≤k∧k<wA.heap.size:=fun k hk=>by
  have au:(Value.slice aA nA cA).ownBlock=some k:=rZ.1 hk;exact⟨(aj.own k au).1,(aj.own k au).2⟩
 have iZ:∀ k∈own1 ((aZ,nZ,cZ):PV),wA.heap.size≤k∧k<wZ.heap.size:=fun k hk=>⟨ag.ge k (vU _ hk),(ag.row.own1 k hk).2⟩
 have iY:∀ k∈own1 ((aY,nY,cY):PV)++lY.flatMap (LB.fp d),wZ.heap.size≤k∧k<wY.heap.size:=fun k hk=>⟨ac.ge k hk,by
  rcases zU.1 hk with hk|hk
  ·exact(ac.row.own1 k hk).2
  obtain⟨s,hs,hk⟩:=vL.1 hk;exact(OwnB.inB d (ac.own s hs) k hk).2⟩
 have hx2:=(zN hY).trans x2;have hf:=fr4 hx2 (x0:=.int .i64 v.nU) (x1:=.slice aA nA cA) (x2:=.slice aZ nZ cZ) (x3:=.slice aY nY cY);have rA:Row ekU wY W2.heap.size (PV.v (aA,nA,cA)) v.bits:=by
  have:=(aj.bL ag.bL).bL ac.bL;rw[tH] at this;exact this
 have bl:∀ s∈lY,OwnB W2.heap.size d wY s:=fun s hs=>ac.own s hs
 go_wp2_with fail
 refine bodyPost_ret (v:=.agg #[.int .i64 v.nU,.slice aA nA cA,.slice aZ nZ cZ,.slice aY nY cY]) (by simp[results,Tryz.results180,go_sem, *]) rfl ?_;refine⟨⟨v.nU,v.bits,lZ,lY,(aA,nA,cA),(aZ,nZ,cZ),(aY,nY,cY)⟩,v.nU,aA,nA,cA,aZ,nZ,cZ,aY,nY,cY,rfl,rfl,?_,?_,?_,?_,?_⟩
 ·simp only[VL.pl,ag.map,ac.map]
 ·refine⟨?_,?_,fun z hz=>?_,?_,fun s hs=>?_⟩
  ·exact((((rA.set4 (by omega)).set4 (by omega)).set4 (by omega)).set4 (by omega)).mono (by omega)
  ·exact(((((ag.row.bL ac.bL).set4 (by omega)).set4 (by omega)).set4 (by omega)).set4 (by omega)).mono (by omega)
  ·have hz':=ag.own z hz;exact(((((hz'.bL ac.bL).set4 (by omega)).set4 (by omega)).set4 (by omega)).set4 (by omega)).mono (by omega)
  ·exact((((ac.row.set4 (by omega)).set4 (by omega)).set4 (by omega)).set4 (by omega)).mono (by omega)
  refine OwnB.mono d (OwnB.fr d [w.heap.size+1] wY _ s (bl s hs) hf fun k hk hm=>?_) (by omega);rw[zS] at hm;have:=iY k (tI _ (vL.2 ⟨s,hs,hk⟩));omega
 ·intro k hk;simp only[VL.fp] at hk;rw[vY] at hk;rcases zU.1 hk with hk|hk
  ·rcases zU.1 hk with hk|hk
   ·have:=iA k hk;omega
   have:=iZ k hk;omega
  have:=iY k hk;omega
 ·simp only[VL.fp];rw[vY];exact D9x (ZR _) (ZR _) ac.nd iA iZ iY (.inl (zG _)) (.inl bn) (.inl (zG _))
 exact yL (yL (yL (yL (zP hb2 hY) (by omega)) (by omega)) (by omega)) (by omega)
theorem D9w (na:a.Nodup)(nb:b.Nodup)(ia:∀ k∈a,la≤k∧k<ha)(ib:∀ k∈b,lb≤k∧k<hb)(ac:ha≤lb∨hb≤la):(a++b).Nodup:=by
 refine gH.2 ⟨na,nb,fun x hx y hy e=>?_⟩;subst e;have:=ia x hx;have:=ib x hy;omega
theorem fr2 (h:w.heap[g]?=some (.cells cs 29 (0,0))):FrB [g] w ((w.setCell ⟨g,0,none⟩ x0).setCell ⟨g,1,none⟩ x1):=
 pW (uW h (by decide)) (uW (yO _ _ 0 _ _ x0 h) (by decide))
theorem D4x (ih:US d):VZ (d+1):=by
 intro w B0 a0 n0 c0 a1 n1 c1 x hB hq ba;have hq:BRd d w (.slice a0 n0 c0) (.slice a1 n1 c1) x:=hq;obtain⟨hv,hl0,hr,ak⟩:(∀ v∈BO.vals x,VOk (BOk d) v)∧(BO.vals x).length*80≤reachBytes∧(∀ r∈BO.unk x,kU r)∧(BO.unk x).length*48≤reachBytes:=ba;obtain⟨W2,au,hb2,z2,x1,x2⟩:=uD w (.cells #[.slice a0 n0 c0,.slice a1 n1 c1] 29) (.cells #[.slice none 0 0,.slice none 0 0] 29);have hcv:∀ V,zB W2 V→Calls Tryz.prog 219 #[.slice a0 n0 c0,.func (.func 180) #[] #[]] V fun e w'=>∃ (a:Option Addr) (n c:Nat) (l':List (VL (LB d))),e = .returned (.slice a n c)∧Cop (ekV (LB d)) (VL.pl (LB.pl d)) (fun w (v:VL (LB d))=>OwnV (ekB d) (OwnB W2.heap.size d) w W2.heap.size v) (VL.fp (LB.fp d)) V W2.heap.size (BO.vals x) w' (a,n,c) l':=fun V hV=>
  (D3i hV.size (hq.1.bL (VAt.sT (BAt.sT d)) (zP hb2 hV)) hl0 (enters_of Tryz.func180 (by kernel_rfl) rfl) (fun U hU a ha a1 n1 c1 a2 n2 c2 a3 n3 c3 r1 r2 r3=>ih U W2.heap.size a a1 n1 c1 a2 n2 c2 a3 n3 c3 (yN hV.size hU.size) r1 r2 r3 (hv a ha))).mono fun e w' ⟨⟨a,n,c⟩,l',he,hc⟩=>⟨a,n,c,l',he,hc⟩
 have aw:∀ V,zB W2 V→Calls Tryz.prog 220 #[.slice a1 n1 c1,.func (.func 221) #[] #[]] V fun e w'=>∃ (a:Option Addr) (n c:Nat) (l':List (RI×PV)),e = .returned (.slice a n c)∧Cop ekR Prod.fst (fun w (r:RI×PV)=>Row ekY w W2.heap.size r.2.v r.1.bytes) (fun(_:RI×PV)=>([]:List Nat)) V W2.heap.size (BO.unk x) w' (a,n,c) l':=fun V hV=>
  (D3h hV.size (hq.2.bL RAt.sT (zP hb2 hV)) ak (enters_of Tryz.func221 (by kernel_rfl) rfl) (fun U hU a ha ay ny cy hy=>(C5q (B0:=W2.heap.size) (yN hV.size hU.size) a hy (by have:=(hr a ha).2.2.2;unfold reachBytes at this;omega)).mono fun e w' ⟨ax,nx,cx,he,bg,hbl⟩=>⟨(a,(ax,nx,cx)),a.nU,a.how,(a.bits:Int),ax,nx,cx,rfl,he,rfl,bg,fun k hk=>by simp at hk,by simp,hbl⟩)).mono fun e w' ⟨⟨a,n,c⟩,l',he,hc⟩=>⟨a,n,c,l',he,hc⟩
 have aj:=fun V (hV:zB W2 V)=>yH (zP hb2 hV) (zO ((zN hV).trans x1))
 have ah:=fun V (hV:zB W2 V)=>(zN hV).trans x2
 have hD:zB W2 W2.drew:=(zH _ _).drew;have far:∀ (V:World) (i j:Nat) (x:Value),(V.setCell ⟨w.heap.size+1,i,none⟩ x).cell? ⟨w.heap.size,j,none⟩=V.cell? ⟨w.heap.size,j,none⟩:=fun V i j x=>bO V _ _ _ (by simp)
 have av:∀ V,zB W2 V→∀ y0 y1:Value,zB w ((V.setCell ⟨w.heap.size+1,0,none⟩ y0).setCell ⟨w.heap.size+1,1,none⟩ y1)∧((V.setCell ⟨w.heap.size+1,0,none⟩ y0).setCell ⟨w.heap.size+1,1,none⟩ y1).cell? ⟨w.heap.size,0,none⟩=some (.slice a0 n0 c0)∧((V.setCell ⟨w.heap.size+1,0,none⟩ y0).setCell ⟨w.heap.size+1,1,none⟩ y1).cell? ⟨w.heap.size,1,none⟩=some (.slice a1 n1 c1):=fun V hV y0 y1=>by
  simp only[far];exact⟨yL (yL (zP hb2 hV) (by omega)) (by omega),(aj V hV).2⟩
 have bl:¬ w.heap.size=w.heap.size+1:=by omega
 have bn:¬ w.heap.size+1=w.heap.size:=by omega
 clear ih hv hr hl0 ak hq x1 far;go_enter Tryz.func183,Tryz.ntmps183;go_wp2_with fail
 rw[←au.out];go_region_held3 (fun V=>zB w V∧V.cell? ⟨w.heap.size,0,none⟩=some (.slice a0 n0 c0)∧V.cell? ⟨w.heap.size,1,none⟩=some (.slice a1 n1 c1)) ((first|(with_reducible refine aj _ ?_;with_reducible (first|exact hD|exact hZ|exact hY))|(with_reducible refine av _ ?_ _ _;with_reducible exact hY))) ((first|(go_at_call 219;refine(hcv _ (by with_reducible exact hD)).mono ?_;rintro e wZ ⟨aZ,nZ,cZ,lZ,rfl,ag⟩;have hZ:zB W2 wZ:=zP hD ag.bL)|(go_at_call 220;refine(aw _ (by with_reducible exact hZ)).mono ?_;rintro e wY ⟨aY,nY,cY,lY,rfl,ac⟩;have hY:zB W2 wY:=zP hZ ac.bL;have hx2:=ah _ hY;obtain⟨bu,cg⟩:=zO hx2;have cj:=zJ hx2 0;have cu:=zJ hx2 1)))
 have bk:=hZ.size;have bh:=ac.bL.size;have iZ:∀ k∈own1 ((aZ,nZ,cZ):PV)++lZ.flatMap (VL.fp (LB.fp d)),W2.heap.size≤k∧k<wZ.heap.size:=fun k hk=>⟨ag.ge k hk,by
  rcases zU.1 hk with hk|hk
  ·exact(ag.row.own1 k hk).2
  obtain⟨s,hs,hk⟩:=vL.1 hk;exact(aR W2.heap.size d).inB wZ s (ag.own s hs) k hk⟩
 have iY:∀ k∈own1 ((aY,nY,cY):PV),wZ.heap.size≤k∧k<wY.heap.size:=fun k hk=>⟨ac.ge k (vU _ hk),(ac.row.own1 k hk).2⟩
 have hf:=fr2 hx2 (x0:=.slice aZ nZ cZ) (x1:=.slice aY nY cY);go_wp2_with fail
 refine bodyPost_ret (v:=.agg #[.slice aZ nZ cZ,.slice aY nY cY]) (by simp[results,Tryz.results183,go_sem, *]) rfl ?_;refine⟨(⟨lZ,lY,(aZ,nZ,cZ),(aY,nY,cY)⟩:BL (LB d)),aZ,nZ,cZ,aY,nY,cY,rfl,rfl,?_,?_,?_,?_,?_⟩
 ·show(⟨lZ.map (VL.pl (LB.pl d)),lY.map Prod.fst⟩:BO (BI d))=x;rw[ag.map,ac.map];rfl
 ·refine⟨?_,fun v hv=>?_,?_,fun r hr=>?_⟩
  ·exact(((ag.row.bL ac.bL).set4 (by omega)).set4 (by omega)).mono (by omega)
  ·have h1:=(aR W2.heap.size d).bL (ag.own v hv) ac.bL;have h2:=(aR W2.heap.size d).fr [w.heap.size+1] wY _ v h1 hf fun k hk hm=>by
    rw[zS] at hm;have:=iZ k (tI _ (vL.2 ⟨v,hv,hk⟩));omega
   exact OwnV.mono h2 (by omega) fun s hs=>OwnB.mono d hs (by omega)
  ·exact((ac.row.set4 (by omega)).set4 (by omega)).mono (by omega)
  have bc:=ac.own r hr;exact((bc.set4 (by omega)).set4 (by omega)).mono (by omega)
 ·intro k hk;have hk:k∈own1 ((aZ,nZ,cZ):PV)++own1 ((aY,nY,cY):PV)++lZ.flatMap (VL.fp (LB.fp d)):=hk;rcases zU.1 hk with hk|hk
  ·rcases zU.1 hk with hk|hk
   ·have:=iZ k (vU _ hk);omega
   have:=iY k hk;omega
  have:=iZ k (tI _ hk);omega
 ·show(own1 ((aZ,nZ,cZ):PV)++own1 ((aY,nY,cY):PV)++lZ.flatMap (VL.fp (LB.fp d))).Nodup;have hp:(own1 ((aZ,nZ,cZ):PV)++lZ.flatMap (VL.fp (LB.fp d))++own1 ((aY,nY,cY):PV)).Perm (own1 ((aZ,nZ,cZ):PV)++own1 ((aY,nY,cY):PV)++lZ.flatMap (VL.fp (LB.fp d))):=by
   rw[vY,vY];exact List.Perm.append_left _ List.perm_append_comm
  exact hp.nodup_iff.1 (D9w ag.nd (ZR _) iZ iY (.inl (zG _)))
 exact yL (yL (zP hb2 hY) (by omega)) (by omega)
theorem ZQ:∀ d,VZ d
 | 0=>fun _ _ _ _ _ _ _ _ _ _ hq _=>hq.elim
 | d+1=>D4x (B8i (ZQ d))
theorem C2p (d:Nat):US d:=B8i (ZQ d)
def uX (l:List FI)(x:FI)(n:Int):Bool:=if x.cE≤0 then decide (n=x.nU) else decide (wU l n=x.cE)
def ZG (fn:Nat)(cap:Array Value)(K:List Nat)(W:World)(p:Int→Bool):Prop:=
 ∀ V,W.heap.size≤V.heap.size→(∀ k∈K,V.heap[k]?=W.heap[k]?)→∀ n,I64 n→∀ (a1:Option Addr) (n1 c1:Nat) (a2:Option Addr) (n2 c2:Nat) (a3:Option Addr) (n3 c3:Nat),
  Calls Tryz.prog fn (#[.agg #[.int .i64 n,.slice a1 n1 c1,.slice a2 n2 c2,.slice a3 n3 c3]]++cap) V fun e w'=>e = .returned (.bool (p n))∧zB V w'
theorem C5n (hc:w.heap[c]?=some (.cells #[.string (S x.name),.int .i64 x.nU,.int .i64 x.kind,.string (S x.type),.bool x.many,.int .i64 x.cE] 47 (0,0)))(n:Int)(a1:Option Addr)(n1 c1:Nat)(a2:Option Addr)(n2 c2:Nat)(a3:Option Addr)(n3 c3:Nat) :
  Calls Tryz.prog 225 #[.agg #[.int .i64 n,.slice a1 n1 c1,.slice a2 n2 c2,.slice a3 n3 c3],.pointer (some ⟨c,0,none⟩)] w fun e w'=>e = .returned (.bool (decide (n=x.nU)))∧zB w w':=by
 have c1':w.cell? ⟨c,1,none⟩=some (.int .i64 x.nU):=zL hc 1 _ rfl;have ag:=(zR hc)
 have ac:=(zH w.heap.size w).alloc (zG _) (.cells #[.int .i64 n,.slice a1 n1 c1,.slice a2 n2 c2,.slice a3 n3 c3] 63);obtain⟨q,Hq⟩:=zM (decide (n=x.nU));have hq:(n==x.nU)=q:=by rw[Hq.out,uR];simp
 rw[←Hq.out];go_enter Tryz.func225,Tryz.ntmps225;exact Qd7
theorem C5o {cm b N:Nat}{D:DataW Unit}{l:List FI}(hm:w.heap[cm]?=some (.cells #[.map (some b)] 45 (0,0)))(ho:OwnM w b N D)(hch:ChD D l)(hc:w.heap[c]?=some (.cells #[.string (S x.name),.int .i64 x.nU,.int .i64 x.kind,.string (S x.type),.bool x.many,.int .i64 x.cE] 47 (0,0)))(n:Int)(hn:I64 n)(a1:Option Addr)(n1 c1:Nat)(a2:Option Addr)(n2 c2:Nat)(a3:Option Addr)(n3 c3:Nat) :
  Calls Tryz.prog 227 #[.agg #[.int .i64 n,.slice a1 n1 c1,.slice a2 n2 c2,.slice a3 n3 c3],.pointer (some ⟨cm,0,none⟩),.pointer (some ⟨c,0,none⟩)] w fun e w'=>e = .returned (.bool (decide (wU l n=x.cE)))∧zB w w':=by
 have c5:w.cell? ⟨c,5,none⟩=some (.int .i64 x.cE):=zL hc 5 _ rfl;have ag:=(zR hc)
 have m0:w.cell? ⟨cm,0,none⟩=some (.map (some b)):=zL hm 0 _ rfl;have ah:=(zR hm)
 have ac:=(zH w.heap.size w).alloc (zG _) (.cells #[.int .i64 n,.slice a1 n1 c1,.slice a2 n2 c2,.slice a3 n3 c3] 63);have hkey:keyOf Tryz.prog 3 (.int .i64 n)=some (.int .i64 n):=keyOf_int_mk Tryz.underlying3 (WalkArith.wf_i64 hn);obtain⟨z,hrun,hat,_⟩:=(ho.bL ac).lookup_int VA Tryz.underlying45 Tryz.underlying3 (E0j _) hkey;have hz:=hch.get hat;obtain⟨q,Hq⟩:=zM (decide (wU l n=x.cE));have hq:(z==x.cE)=q:=by rw[Hq.out,hz,uR];simp
 rw[←Hq.out];clear hz hat hkey ho hch;go_enter Tryz.func227,Tryz.ntmps227;exact Qd7
theorem C5p {nm vf vb:Value}{l:List FI}(h:RdL 6 FAt w vf l)(aw:∃ ao n cap,vb = .slice ao n cap)(au:∃ s:List UInt8,nm = .string (S s))(ag:∀ f∈l,I64 f.nU∧I64 f.cE)(hl:l.length≤140737488355328)(x:FI) :
  Calls Tryz.prog 216 #[.agg #[nm,vf,vb],vFI x] w fun e w'=>∃ fn cap K,e = .returned (.func (.func fn) #[] cap)∧(∀ (args:Array Value) (w:World),(callFunc fn args).run Tryz.prog w = .ok (.enter fn args) w)∧(∀ k∈K,w.heap.size≤k∧k<w'.heap.size)∧ZG fn cap K w' (uX l x)∧zB w w':=by
 obtain⟨ao,n,cap,rfl,Hn,ak⟩:=h.sH;obtain⟨ae,ne,ce,rfl⟩:=aw;obtain⟨s,rfl⟩:=au;have ba:=tM;obtain⟨W2,ah,hb2,z2,-,x2⟩:=uD w (.cells #[.string (S s),.slice ao n cap,.slice ae ne ce] 35) (.cells #[.string (S x.name),.int .i64 x.nU,.int .i64 x.kind,.string (S x.type),.bool x.many,.int .i64 x.cE] 47);by_cases hx:x.cE≤0
 ·have HP:Hid (∀ n,uX l x n=decide (n=x.nU)):=fun n=>by unfold uX;rw[zF hx]
  unfold vFI;clear ag hl h;go_enter Tryz.func216,Tryz.ntmps216;go_wp2;go_ret;rw[←ah.out];refine⟨_,_,[w.heap.size+1],rfl,enters_of Tryz.func225 (by kernel_rfl) rfl,fun k hk=>by rw[zS] at hk;omega,?_,hb2⟩;intro V hV hK n hn a1 n1 c1 a2 n2 c2 a3 n3 c3;rw[HP.out n];exact C5n ((hK _ (by simp)).trans x2) n a1 n1 c1 a2 n2 c2 a3 n3 c3
 have HP:Hid (∀ n,uX l x n=decide (wU l n=x.cE)):=fun n=>by unfold uX;rw[zC hx]
 have hc:=B5k (h.bL FAt.sT hb2) ⟨ae,ne,ce,rfl⟩ ⟨s,rfl⟩ ag hl;unfold vFI;clear ag hl h;go_enter Tryz.func216,Tryz.ntmps216;go_wp2_with fail
 rw[←ah.out];refine hc.mono ?_;rintro e w1 ⟨b,D,rfl,hb,hown,hch,ac⟩;obtain⟨W4,aj,hb4,x4,z4⟩:=zV w1 (.cells #[.map (some b)] 45);have y2:=(zN (zP ac hb4)).trans x2;have hz1:=ac.size;have hbl:=hown.lt;have av:=hown.bL hb4;clear hc hown;go_wp2;go_ret;rw[←aj.out];refine⟨_,_,[w1.heap.size,w.heap.size+1,b],rfl,enters_of Tryz.func227 (by kernel_rfl) rfl,fun k hk=>?_,?_,zP hb2 (zP ac hb4)⟩
 ·simp only[yY,rI,or_false] at hk;rcases hk with rfl|rfl|rfl <;> omega
 intro V hV hK n hn a1 n1 c1 a2 n2 c2 a3 n3 c3;rw[HP.out n];exact C5o ((hK _ (by simp)).trans x4) (av.block (hK _ (by simp))) hch ((hK _ (by simp)).trans y2) n hn a1 n1 c1 a2 n2 c2 a3 n3 c3
theorem D0d {x:Int}(hc:w.heap[c]?=some (.cells #[.int .i64 x] 3 (0,0)))(v:VI β)(a1:Option Addr)(n1 c1:Nat)(a2:Option Addr)(n2 c2:Nat)(a3:Option Addr)(n3 c3:Nat) :
  Calls Tryz.prog 230 #[.agg #[.int .i64 v.nU,.slice a1 n1 c1,.slice a2 n2 c2,.slice a3 n3 c3],.pointer (some ⟨c,0,none⟩)] w fun e w'=>e = .returned (.bool (decide (x<v.nU)))∧zB w w':=by
 have c0:w.cell? ⟨c,0,none⟩=some (.int .i64 x):=zL hc 0 _ rfl;have ag:=(zR hc)
 have ac:=(zH w.heap.size w).alloc (zG _) (.cells #[.int .i64 v.nU,.slice a1 n1 c1,.slice a2 n2 c2,.slice a3 n3 c3] 63);obtain⟨q,Hq⟩:=zM (decide (x<v.nU));have hq:=Hq.out.symm;rw[←Hq.out];go_enter Tryz.func230,Tryz.ntmps230;exact Qd7
theorem C5v {P:World→Addr→β→Prop}(hP:fJ P){v:Value}{l:List (VI β)}{x:Int}(h:RdL 4 (VAt P) w v l)(hc:w.heap[c]?=some (.cells #[.int .i64 x] 3 (0,0))) :
  Calls Tryz.prog 209 #[v,.func (.func 230) #[] #[.pointer (some ⟨c,0,none⟩)]] w fun e w'=>e = .returned (.int .i64 (yK (fun v=>decide (x<v.nU)) l))∧zB w w':=by
 obtain⟨ao,n,cap,rfl,Hn,ag⟩:=h.sH;go_enter Tryz.func209,Tryz.ntmps209;go_wp2_with fail
 go_loopg [8] n (fun m i wr=>∃ k:Nat,k+m=n∧i = .int .i64 k∧Hid (∀ a∈l.take k,decide (x<a.nU)=false)∧zB w wr)
 case atStart=>exact⟨0,by omega,rfl,by show ∀ a∈_,_;simp,zH _ _⟩
 obtain⟨k,hk,rfl,HK,hb⟩:=hrel;have ah:=(hb.block c (zR hc)).trans hc;by_cases hlt:k<n
 ·obtain⟨a,Ha⟩:=yE (l:=l) (k:=k) (by rw[←Hn.out];exact hlt);obtain⟨b,off,rfl,hat⟩:=(h.bL (VAt.sT hP) hb).get VAt.plain Ha.out;obtain⟨v1,v2,v3,s0,s1,s2,s3,r1,r2,r3⟩:=hat.at;obtain⟨a1,n1,c1,rfl,_,_⟩:=r1.sH;obtain⟨a2,n2,c2,rfl,_,_⟩:=r2.sH;obtain⟨a3,n3,c3,rfl,_,_⟩:=r3.sH;have aj:(k:Int)<(n:Int):=by omega
  have ac:=D0d ah a a1 n1 c1 a2 n2 c2 a3 n3 c3;cases hq:decide (x<a.nU) with
  | true=>
   have HF:=zI (jE Ha.out HK.out hq);rw[hq] at ac;clear hq hat r1 r2 r3;exact Qc3
  | false=>
  have HX:Hid (∀ a∈l.take (k+1),decide (x<a.nU)=false):=by
   exact WA
  rw[hq] at ac;clear hq hat r1 r2 r3;exact gT
 have HF:Hid (yK (fun v=>decide (x<v.nU)) l = -1):=by
  exact iG
 exact Qd5
def vW {β:Type}(x:Int)(l:List (VI β)):Nat:=(l.findIdx? fun v=>decide (x<v.nU)).getD l.length
theorem Qd4{P:Prop}(h:P:=by
 rw[e1] at hi;clear hp e1;go_enter Tryz.func218,Tryz.ntmps218;go_wp2_with fail
 refine hi.mono ?_;rintro e w1 ⟨rfl,hb1⟩;go_wp2;go_ret;exact⟨by rw[HP.out];rfl,hb2.trans (hb1.mono hb2.size)⟩):P:=h
theorem C0u {P:World→Addr→β→Prop}(hP:fJ P){l:List (VI β)}(h:RdL 4 (VAt P) w v0 l)(x:Int) :
  Calls Tryz.prog 218 #[.int .i64 x,v0] w fun e w'=>e = .returned (.int .i64 ((vW x l:Nat):Int))∧zB w w':=by
 obtain⟨ao,n,cap,rfl,Hn,ac⟩:=h.sH;have hb2:zB w (w.alloc (.cells #[.int .i64 x] 3)):=(zH _ _).alloc (zG _) _;have hi:=C5v hP (h.bL (VAt.sT hP) hb2) (yM w _);have ag:=tM;cases hp:l.findIdx? (fun v=>decide (x<v.nU)) with
 | some k=>
  have e1:yK (fun v:VI β=>decide (x<v.nU)) l=(k:Int):=by unfold yK;rw[hp]
  have HP:Hid (vW x l=k):=by show _=_;unfold vW;rw[hp];rfl
  have hk:¬ (k:Int)<0:=by omega
  exact Qd4
 | none=>
 have e1:yK (fun v:VI β=>decide (x<v.nU)) l = -1:=by unfold yK;rw[hp]
 have HP:Hid (vW x l=n):=by show _=_;unfold vW;rw[hp,Hn.out];rfl
 exact Qd4
def isF (n:Int)(f:FI):Bool:=decide (f.nU=n)
def isN (t:List UInt8)(m:MI):Bool:=decide (m.name=t)
def isV {β:Type}(n:Int)(v:VI β):Bool:=decide (v.nU=n)
def putN {β:Type}(fs:List FI)(x:FI)(l:List (VI β))(y:VI β):List (VI β):=
 if xQ x y then l.filter (fun a=>!uX fs x a.nU)
 else(l.filter fun a=>!uX fs x a.nU).take (vW y.nU (l.filter fun a=>!uX fs x a.nU))++[y]++(l.filter fun a=>!uX fs x a.nU).drop (vW y.nU (l.filter fun a=>!uX fs x a.nU))
def zX {β:Type}(J:MI→β→β→β)(ms:List MI)(x:FI)(a b:VI β):VI β:=
 if x.many then⟨a.nU,a.bits++b.bits,a.bytes++b.bytes,a.subs++b.subs⟩
 else if x.kind=10 then
  match ms.find? (isN x.type),a.subs,b.subs with
  | some M,s::_,t::_=>⟨a.nU,a.bits,a.bytes,[J M s t]⟩
  | _,_,_=>a
 else b
def wC {β:Type}(J:MI→β→β→β)(ms:List MI)(fs:List FI)(l:List (VI β))(v:VI β):List (VI β):=
 match fs.find? (isF v.nU) with
 | none=>l
 | some x=>
  match l.find? (isV v.nU) with
  | none=>putN fs x l v
  | some u=>putN fs x l (zX J ms x u v)
def jnB (ms:List MI):(d:Nat)→MI→BI d→BI d→BI d
 | 0=>fun _ a _=>a
 | d+1=>fun M a b=>(⟨(BO.vals b).foldl (wC (jnB ms d) ms M.fD) (BO.vals a),BO.unk a++BO.unk b⟩:BO (BI d))
def ShV {β:Type}(R:MI→β→Prop)(ms:List MI)(fs:List FI)(v:VI β):Prop:=
 I64 v.nU∧∃ x,fs.find? (isF v.nU)=some x∧(x.many=false→x.kind=10→∃ M s,ms.find? (isN x.type)=some M∧v.subs = [s]∧R M s)
def ShB (ms:List MI):(d:Nat)→MI→BI d→Prop
 | 0=>fun _ _=>False
 | d+1=>fun M b=>∀ v∈BO.vals b,ShV (ShB ms d) ms M.fD v
def jW {β:Type}(f : β→Nat)(v:VI β):Nat:=1+v.bits.length+v.bytes.length+(v.subs.map fun s=>1+f s).sum
def jWB:(d:Nat)→BI d→Nat
 | 0=>fun _=>0
 | d+1=>fun b=>((BO.vals b).map (jW (jWB d))).sum+(BO.unk b).length
theorem qI {n:Int}(h:fs.find? (isF n)=some x):x.nU=n:=by
 have:=rN h;simpa [isF] using this
theorem YP {n:Int}(h:fs.find? (isF n)=some x):uX fs x n=true:=by
 have hn:=qI h;unfold uX;split
 ·simp[hn]
 unfold wU;have:fs.find? (fun f=>decide (f.nU=n))=some x:=h;rw[this];simp
theorem qH {J:MI→β→β→β}{a b:VI β}(h:a.nU=b.nU):(zX J ms x a b).nU=b.nU:=by
 unfold zX;split
 ·exact h
 split
 ·split
  ·exact h
  exact h
 rfl
theorem pD {l:List (VI β)}{y a:VI β}(h:a∈putN fs x l y):a=y∨a∈l:=by
 unfold putN at h;split at h
 ·exact .inr (sC.1 h).1
 rw[zU,zU,zS] at h;rcases h with(h|h)|h
 ·exact .inr (sC.1 (lX h)).1
 ·exact .inl h
 exact .inr (sC.1 (eL h)).1
theorem D9u {R:MI→β→Prop}{J:MI→β→β→β}(hJ:∀ M s t,R M s→R M t→R M (J M s t)){a b:VI β}(hn:a.nU=b.nU)(hx:fs.find? (isF b.nU)=some x)(ha:ShV R ms fs a)(hb:ShV R ms fs b):ShV R ms fs (zX J ms x a b):=by
 obtain⟨ah,x1,hx1,h1⟩:=ha;obtain⟨hib,x2,hx2,h2⟩:=hb;rw[hn,hx] at hx1;rw[hx] at hx2;cases hx1
 cases hx2
 refine⟨by rw[qH hn];exact hib,x,by rw[qH hn];exact hx,fun hm hk=>?_⟩;obtain⟨M,s,hM,hs,hr⟩:=h1 hm hk;obtain⟨M',t,ac,ht,ag⟩:=h2 hm hk;rw[hM] at ac;cases ac
 refine⟨M,J M s t,hM,?_,hJ M s t hr ag⟩;unfold zX;rw[hm,zC (by simp),zF hk,hM,hs,ht]
theorem D9a {R:MI→β→Prop}{J:MI→β→β→β}(hJ:∀ M s t,R M s→R M t→R M (J M s t)){l:List (VI β)}{v:VI β}(hl:∀ a∈l,ShV R ms fs a)(hv:ShV R ms fs v):∀ a∈wC J ms fs l v,ShV R ms fs a:=by
 obtain⟨hi,x,hx,_⟩:=id hv;unfold wC;rw[hx];intro a ha;cases hu:l.find? (isV v.nU) with
 | none=>
  rw[hu] at ha;rcases pD ha with rfl|h
  ·exact hv
  exact hl a h
 | some u=>
 rw[hu] at ha;have ac:u.nU=v.nU:=by have:=rN hu;simpa [isV] using this
 rcases pD ha with rfl|h
 ·exact D9u hJ ac hx (hl u (xL hu)) hv
 exact hl a h
theorem VU {β:Type}{R:MI→β→Prop}{J:MI→β→β→β}(hJ:∀ M s t,R M s→R M t→R M (J M s t)){ms:List MI}{fs:List FI}:∀ (m l:List (VI β)),(∀ a∈l,ShV R ms fs a)→(∀ a∈m,ShV R ms fs a)→∀ a∈m.foldl (wC J ms fs) l,ShV R ms fs a
 | [],_,hl,_=>hl
 | v::m,l,hl,hm=>VU hJ m _ (D9a hJ hl (hm v (vF ..))) fun a ha=>hm a (wW _ ha)
theorem C8u (ms:List MI):∀ (d:Nat) (M:MI) (a b:BI d),ShB ms d M a→ShB ms d M b→ShB ms d M (jnB ms d M a b)
 | 0,_,_,_,h,_=>h
 | d+1,_,_,_,ha,hb=>VU (fun M s t=>C8u ms d M s t) _ _ ha hb
theorem TS {α:Type}(f : α→Nat)(p : α→Bool):∀ l:List α,((l.filter p).map f).sum≤(l.map f).sum
 | []=>zG _
 | a::l=>by
  have:=TS f p l
  rw[jV]
  split <;> simp only[wS,tZ] <;> omega
theorem D1s {α:Type}(f : α→Nat){p : α→Bool}{a : α}(hp:p a=false):∀ {l:List α},a∈l→f a+((l.filter p).map f).sum≤(l.map f).sum
 | b::l,h=>by
  rw[jV]
  rcases yY.1 h with rfl|h
  ·have:=TS f p l
   rw[hp]
   simp only[mS,if_false,wS,tZ]
   omega
  ·have:=D1s f hp h
   split <;> simp only[wS,tZ] <;> omega
theorem D9b (f : α→Nat)(l:List α)(i:Nat)(a : α):((l.take i++[a]++l.drop i).map f).sum=f a+(l.map f).sum:=by
 have h:(l.map f).sum=((l.take i).map f).sum+((l.drop i).map f).sum:=by rw[←jU,←wM,nX]
 simp only[wM,jU,wS,tA,tZ,oD];omega
theorem D9z (f : β→Nat)(fs:List FI)(x:FI)(l:List (VI β))(y:VI β):((putN fs x l y).map (jW f)).sum≤jW f y+((l.filter fun a=>!uX fs x a.nU).map (jW f)).sum:=by
 unfold putN;split
 ·omega
 rw[D9b];omega
theorem WO {f : β→Nat}{J:MI→β→β→β}(hJ:∀ M s t,f (J M s t)≤f s+f t)(ms:List MI)(x:FI)(a b:VI β):jW f (zX J ms x a b)≤jW f a+jW f b:=by
 unfold zX;split
 ·unfold jW;simp only[yQ,wM,jU];omega
 split
 ·split
  ·rename_i M s l t m h1 h2 h3;have:=hJ M s t;unfold jW;rw[h2,h3];simp only[wS,tZ,tA,oD];omega
  omega
 omega
theorem D7d {f : β→Nat}{J:MI→β→β→β}(hJ:∀ M s t,f (J M s t)≤f s+f t)(ms:List MI)(fs:List FI)(l:List (VI β))(v:VI β):((wC J ms fs l v).map (jW f)).sum≤(l.map (jW f)).sum+jW f v:=by
 unfold wC;split
 ·omega
 rename_i x hx;split
 ·have:=D9z f fs x l v;have:=TS (jW f) (fun a=>!uX fs x a.nU) l;omega
 rename_i u hu;have ac:u.nU=v.nU:=by have:=rN hu;simpa [isV] using this
 have h1:=D9z f fs x l (zX J ms x u v);have h2:=WO hJ ms x u v;have h3:=D1s (jW f) (p:=fun a:VI β=>!uX fs x a.nU) (a:=u) (by simp[ac,YP hx]) (xL hu);omega
theorem ZJ {β:Type}{f : β→Nat}{J:MI→β→β→β}(hJ:∀ M s t,f (J M s t)≤f s+f t)(ms:List MI)(fs:List FI):∀ (m l:List (VI β)),((m.foldl (wC J ms fs) l).map (jW f)).sum≤(l.map (jW f)).sum+(m.map (jW f)).sum
 | [],_=>by simp
 | v::m,l=>by
  have h1:=ZJ hJ ms fs m (wC J ms fs l v)
  have h2:=D7d hJ ms fs l v
  simp only[List.foldl_cons,wS,tZ]
  omega
theorem iL (ms:List MI):∀ (d:Nat) (M:MI) (a b:BI d),jWB d (jnB ms d M a b)≤jWB d a+jWB d b
 | 0,_,a,_=>nomatch (a:Empty)
 | d+1,M,a,b=>by
  have:=ZJ (fun M s t=>iL ms d M s t) ms M.fD (BO.vals b) (BO.vals a)
  show(List.map (jW (jWB d)) ((BO.vals b).foldl (wC (jnB ms d) ms M.fD) (BO.vals a))).sum+(BO.unk a++BO.unk b).length≤((List.map (jW (jWB d)) (BO.vals a)).sum+(BO.unk a).length)+((List.map (jW (jWB d)) (BO.vals b)).sum+(BO.unk b).length)
  rw[yQ]
  omega
theorem tY {α:Type}(f : α→Nat)(hf:∀ a,1≤f a):∀ l:List α,l.length≤(l.map f).sum
 | []=>zG _
 | a::l=>by
  have:=tY f hf l
  have:=hf a
  simp only[sQ,wS,tZ]
  omega
def vV (h:Int):Bool:=decide (h=0∨h=1∨h=2∨h=5)
theorem gE (k:h=0∨h=1∨h=2∨h=5):true=vV h:=by unfold vV;simp[k]
theorem iT (k:¬ (h=0∨h=1∨h=2∨h=5)):false=vV h:=by unfold vV;simp only[k,decide_false]
theorem eC (h:Int)(w:World) :
  Calls Tryz.prog 148 #[.int .i64 h] w fun e w'=>e = .returned (.bool (vV h))∧w=w':=by
 by_cases k:h=0∨h=1∨h=2∨h=5
 ·rw[←gE k];rcases k with rfl|rfl|rfl|rfl
  all_goals
   go_enter Tryz.func148,Tryz.ntmps148;go_wp2;go_ret;exact⟨rfl,rfl⟩
 rw[←iT k];have b0:(h==0)=false:=beq_eq_false_iff_ne.2 (by omega);have b1:(h==1)=false:=beq_eq_false_iff_ne.2 (by omega);have b2:(h==2)=false:=beq_eq_false_iff_ne.2 (by omega);have b5:(h==5)=false:=beq_eq_false_iff_ne.2 (by omega);go_enter Tryz.func148,Tryz.ntmps148;go_wp2;go_ret;exact⟨rfl,rfl⟩
def yW (num how:Int)(bits len:Nat):Int:=
 if vV how=false then 1
 else if how=2∧4000<len then 4
 else if num<1∨536870912≤num then 3
 else if how=5∧bits / 4294967296≠0 then 3
 else if how=2∧bits≠0 then 8
 else if how≠2∧0<len then 8
 else 0
theorem B5a {num:Int}{bits len:Nat}(h:vV how=false):yW num how bits len=1:=by
 unfold yW;rw[zF h]
theorem mQ (h:how=0∨how=1∨how=2∨how=5):¬ vV how=false:=by rw[←gE h];decide
theorem eY{P:Prop}(h:P:=by
 go_enter Tryz.func82,Tryz.ntmps82;go_wp2_with (go_at_call 148;refine(eC _ _).mono ?_;rintro e w1 ⟨rfl,rfl⟩;rw[←gE (by omega)])
 go_ret;exact⟨oA HF.out.symm,fin _⟩):P:=h
theorem WB{P:Prop}(h:P:=by
 by_cases h1:0<len
 ·have HF:Hid (E=8):=by show _=_;rw[ac.out,zC (by omega),zC (by omega),zC (by omega),zC (by omega),zF (by omega)]
  clear ac;exact eY
 have HF:Hid (E=0):=by show _=_;rw[ac.out,zC (by omega),zC (by omega),zC (by omega),zC (by omega),zC (by omega)]
 clear ac;exact eY):P:=h
theorem Qc5{P:Prop}(h:P:=by
 have HF:Hid (E=3):=by show _=_;rw[ac.out,zC (by omega),zF (by omega)]
 clear ac;exact eY):P:=h
theorem A9u (num how:Int)(bits:Nat)(ao:Option Addr)(len cap:Nat)(w:World)(ag:len≤9223372036854775807) :
  Calls Tryz.prog 82 #[.agg #[.int .i64 num,.int .i64 how,.int .u64 (bits:Int),.slice ao len cap]] w fun e w'=>e = .returned (.int .i64 (yW num how bits len))∧zB w w':=by
 have fin:∀ (o:Obj),zB w (w.alloc o):=fun o=>(zH _ _).alloc (zG _) o
 by_cases hk:vV how=false
 ·rw[B5a hk];go_enter Tryz.func82,Tryz.ntmps82;go_wp2_with (go_at_call 148;refine(eC how _).mono ?_;rintro e w1 ⟨rfl,rfl⟩)
  go_ret;exact⟨rfl,fin _⟩
 obtain⟨E,HE⟩:=zM (yW num how bits len);rw[←HE.out];have hh:how=0∨how=1∨how=2∨how=5:=by
  rcases Decidable.em (how=0∨how=1∨how=2∨how=5) with h|h
  ·exact h
  exact absurd (iT h).symm hk
 have ac:Hid (E=(if how=2∧4000<len then 4
  else if num<1∨536870912≤num then 3
  else if how=5∧bits / 4294967296≠0 then 3
  else if how=2∧bits≠0 then 8
  else if how≠2∧0<len then 8
  else 0)):=by
  show _=_;rw[HE.out,yW,zC hk]
 clear HE hk;rcases hh with rfl|rfl|rfl|rfl
 ·by_cases h3:num<1
  ·exact Qc5
  by_cases h2:536870912≤num
  ·exact Qc5
  exact WB
 ·by_cases h3:num<1
  ·exact Qc5
  by_cases h2:536870912≤num
  ·exact Qc5
  exact WB
 ·by_cases h4:4000<len
  ·have HF:Hid (E=4):=by show _=_;rw[ac.out,zF (by omega)]
   clear ac;exact eY
  by_cases h3:num<1
  ·exact Qc5
  by_cases h2:536870912≤num
  ·exact Qc5
  by_cases h1:bits≠0
  ·have HF:Hid (E=8):=by show _=_;rw[ac.out,zC (by omega),zC (by omega),zC (by omega),zF (by omega)]
   clear ac;have hx:((bits:Int) != 0)=true:=by rw[qK];omega
   exact eY
  have hx:((bits:Int) != 0)=false:=by simp;omega
  have HF:Hid (E=0):=by show _=_;rw[ac.out,zC (by omega),zC (by omega),zC (by omega),zC (by omega),zC (by omega)]
  clear ac;exact eY
 by_cases h4:num<1
 ·exact Qc5
 by_cases h3:536870912≤num
 ·exact Qc5
 by_cases h2:bits / 4294967296≠0
 ·have HF:Hid (E=3):=by show _=_;rw[ac.out,zC (by omega),zC (by omega),zF (by omega)]
  clear ac;have hx:((bits:Int) / 4294967296 != 0)=true:=by rw[qK];omega
  exact eY
 have hx:((bits:Int) / 4294967296 != 0)=false:=by simp;omega
 exact WB
def vC (fs:List FI)(r:RI):Int:=
 if yW r.nU r.how r.bits r.bytes.length=0 then(if 0≤yK (fun f:FI=>decide (f.nU=r.nU)) fs then 7 else 0) else yW r.nU r.how r.bits r.bytes.length
theorem Qd6{P:Prop}(h:P:=by
 clear hz hk;go_wp2_with fail
 refine ag.mono ?_;rintro e w4 ⟨rfl,hb4⟩;go_wp2;go_ret;exact⟨by rw[HR.out];rfl,ac.trans (hb4.mono ac.size)⟩):P:=h
theorem C1j (hf:RdL 6 FAt w (.slice af nf cf) fs)(r:RI)(Hn:Hid (n=r.bytes.length))(hn:n≤9223372036854775807) :
  Calls Tryz.prog 73 #[.agg #[.string (S nm),.slice af nf cf,.slice ab nb cb],.agg #[.int .i64 r.nU,.int .i64 r.how,.int .u64 (r.bits:Int),.slice ao n cap]] w fun e w'=>e = .returned (.int .i64 (vC fs r))∧zB w w':=by
 obtain⟨W2,ah,hb2,hz2,x1,x2⟩:=uD w (.cells #[.string (S nm),.slice af nf cf,.slice ab nb cb] 35) (.cells #[.int .i64 r.nU,.int .i64 r.how,.int .u64 (r.bits:Int),.slice ao n cap] 78);have hw:=A9u r.nU r.how r.bits ao n cap W2 hn;obtain⟨E,HE⟩:=zM (yW r.nU r.how r.bits n);rw[←HE.out] at hw;go_enter Tryz.func73,Tryz.ntmps73;go_wp2_with fail
 rw[←ah.out];refine hw.mono ?_;rintro e w3 ⟨rfl,hb3⟩;have ac:=hb2.trans (hb3.mono hb2.size);clear hw;by_cases hz:E=0
 ·have ez:(E != 0)=false:=by simp[hz]
  have y1:=(hb3.block w.heap.size (by omega)).trans x1;have y2:=(hb3.block (w.heap.size+1) (by omega)).trans x2;have m0:w3.cell? ⟨w.heap.size,0,none⟩=some (.string (S nm)):=zL y1 0 _ rfl;have m1:w3.cell? ⟨w.heap.size,1,none⟩=some (.slice af nf cf):=zL y1 1 _ rfl;have m2:w3.cell? ⟨w.heap.size,2,none⟩=some (.slice ab nb cb):=zL y1 2 _ rfl;have m3:w3.cell? ⟨w.heap.size+1,0,none⟩=some (.int .i64 r.nU):=zL y2 0 _ rfl;have ag:=iU (hf.bL FAt.sT ac) ⟨ab,nb,cb,rfl⟩ ⟨nm,rfl⟩ r.nU;obtain⟨k,Hk⟩:=zM (yK (fun f:FI=>decide (f.nU=r.nU)) fs);rw[←Hk.out] at ag;by_cases hk:0≤k
  ·have HR:Hid (vC fs r=7):=by
    show _=_;unfold vC;rw[←Hn.out,←HE.out,zF hz,←Hk.out,zF hk]
   have dk:=xU hk;exact Qd6
  have HR:Hid (vC fs r=0):=by
   show _=_;unfold vC;rw[←Hn.out,←HE.out,zF hz,←Hk.out,zC hk]
  have dk:=yC hk;exact Qd6
 have ez:(E != 0)=true:=by simpa using hz
 have HR:Hid (vC fs r=E):=by
  show _=_;unfold vC;rw[←Hn.out,←HE.out,zC hz]
 clear hz;go_wp2;go_ret;exact⟨by rw[HR.out];rfl,ac⟩
theorem D2a (hc:w.heap[c]?=some (.cells #[.string (S nm),.slice af nf cf,.slice ab nb cb] 35 (0,0)))(hf:RdL 6 FAt w (.slice af nf cf) fs)(r:RI)(Hn:Hid (n=r.bytes.length))(hn:n≤9223372036854775807) :
  Calls Tryz.prog 72 #[.agg #[.int .i64 r.nU,.int .i64 r.how,.int .u64 (r.bits:Int),.slice ao n cap],.pointer (some ⟨c,0,none⟩)] w fun e w'=>e = .returned (.int .i64 (vC fs r))∧zB w w':=by
 have c0:w.cell? ⟨c,0,none⟩=some (.string (S nm)):=zL hc 0 _ rfl;have c1:w.cell? ⟨c,1,none⟩=some (.slice af nf cf):=zL hc 1 _ rfl;have c2:w.cell? ⟨c,2,none⟩=some (.slice ab nb cb):=zL hc 2 _ rfl;have ac:=(zR hc)
 have hb1:zB w (w.alloc (.cells #[.int .i64 r.nU,.int .i64 r.how,.int .u64 (r.bits:Int),.slice ao n cap] 78)):=(zH _ _).alloc (zG _) _;have hu:=C1j (nm:=nm) (ab:=ab) (nb:=nb) (cb:=cb) (hf.bL FAt.sT hb1) r (ao:=ao) (cap:=cap) Hn hn;go_enter Tryz.func72,Tryz.ntmps72;go_wp2_with fail
 refine hu.mono ?_;rintro e w1 ⟨rfl,hb2⟩;go_wp2;go_ret;exact⟨rfl,hb1.trans (hb2.mono hb1.size)⟩
theorem D6e {v:Value}{l:List RI}(h:RdL 4 RAt w v l)(hc:w.heap[c]?=some (.cells #[.string (S nm),.slice af nf cf,.slice ab nb cb] 35 (0,0)))(hf:RdL 6 FAt w (.slice af nf cf) fs) :
  Calls Tryz.prog 71 #[v,.func (.func 72) #[] #[.pointer (some ⟨c,0,none⟩)]] w fun e w'=>e = .returned (.int .i64 (yJ (vC fs) l))∧zB w w':=by
 obtain⟨ao,n,cap,rfl,Hn,av⟩:=h.sH;obtain⟨R,HR⟩:=zM (yJ (vC fs) l);rw[←HR.out];go_enter Tryz.func71,Tryz.ntmps71;go_wp2_with fail
 go_loopg [10] n (fun m i wr=>∃ k:Nat,k+m=n∧i = .int .i64 k∧Hid (R=yJ (vC fs) (l.drop k))∧zB w wr)
 case atStart=>exact⟨0,by omega,rfl,HR,zH _ _⟩
 obtain⟨k,hk,rfl,HK,hb⟩:=hrel;have ak:=(hb.block c (zR hc)).trans hc;by_cases hlt:k<n
 ·obtain⟨a,Ha⟩:=yE (l:=l) (k:=k) (by rw[←Hn.out];exact hlt);obtain⟨b,off,rfl,hat⟩:=(h.bL RAt.sT hb).get RAt.plain Ha.out;obtain⟨vy,s0,s1,s2,s3,ah⟩:=hat.at;obtain⟨ay,ny,cy,rfl,au,aw⟩:=ah.sH;have ba:(k:Int)<(n:Int):=by omega
  obtain⟨W1,aj,hb1,-,-⟩:=zV wr (.cells #[.int .i64 a.nU,.int .i64 a.how,.int .u64 (a.bits:Int),.slice ay ny cy] 78);have ac:=hb.trans (hb1.mono hb.size);have ag:=D2a ((hb1.block c (zR ak)).trans ak) (hf.bL FAt.sT ac) a (ao:=ay) (cap:=cy) au aw;have hst:=lO (f:=vC fs) Ha.out;generalize hF:vC fs a=F at ag hst;by_cases hz:F=0
  ·have HX:Hid (R=yJ (vC fs) (l.drop (k+1))):=by
    show _=_;rw[HK.out,hst,zF hz]
   have ez:(F != 0)=false:=by simp[hz]
   clear hst hF hz hat ah;go_wp2_with fail
   rw[←aj.out];refine ag.mono ?_;rintro e w1 ⟨rfl,hb2⟩;go_wp2_with fail
   go_roundg (n-(k+1))
   case measure=>omega
   case rel=>exact⟨k+1,by omega,by go_num,HX,ac.trans (hb2.mono ac.size)⟩
  have HX:Hid (R=F):=by
   show _=_;rw[HK.out,hst,zC hz]
  have ez:(F != 0)=true:=by simpa using hz
  clear hst hF hz hat ah;go_wp2_with fail
  rw[←aj.out];refine ag.mono ?_;rintro e w1 ⟨rfl,hb2⟩;go_wp2;go_ret;exact⟨by rw[HX.out];rfl,ac.trans (hb2.mono ac.size)⟩
 exact aK
theorem D3y {P:World→Addr→β→Prop}(hP:fJ P){v:Value}{l:List (VI β)}{ag:Array Value}{K:List Nat}{p:Int→Bool}(h:RdL 4 (VAt P) w v l)
  (aj:∀ (args:Array Value) (w:World),(callFunc fn args).run Tryz.prog w = .ok (.enter fn args) w) (hp:ZG fn ag K w p) (hK:∀ k∈K,k<w.heap.size) (hI:∀ a∈l,I64 a.nU) :
  Calls Tryz.prog 209 #[v,.func (.func fn) #[] ag] w fun e w'=>e = .returned (.int .i64 (yK (fun v=>p v.nU) l))∧zB w w':=by
 obtain⟨ao,n,cap,rfl,Hn,ah⟩:=h.sH;go_enter Tryz.func209,Tryz.ntmps209;go_wp2_with fail
 go_loopg [8] n (fun m i wr=>∃ k:Nat,k+m=n∧i = .int .i64 k∧Hid (∀ a∈l.take k,p a.nU=false)∧zB w wr)
 case atStart=>exact⟨0,by omega,rfl,by show ∀ a∈_,_;simp,zH _ _⟩
 case round=>
  obtain⟨k,hk,rfl,HK,hb⟩:=hrel;by_cases hlt:k<n
  ·obtain⟨a,Ha⟩:=yE (l:=l) (k:=k) (by rw[←Hn.out];exact hlt);obtain⟨b,off,rfl,hat⟩:=(h.bL (VAt.sT hP) hb).get VAt.plain Ha.out;obtain⟨v1,v2,v3,s0,s1,s2,s3,r1,r2,r3⟩:=hat.at;obtain⟨a1,n1,c1,rfl,_,_⟩:=r1.sH;obtain⟨a2,n2,c2,rfl,_,_⟩:=r2.sH;obtain⟨a3,n3,c3,rfl,_,_⟩:=r3.sH;have ak:(k:Int)<(n:Int):=by omega
   have ac:=hp wr hb.size (fun k hk=>hb.block k (hK k hk)) a.nU (hI a (uO Ha.out)) a1 n1 c1 a2 n2 c2 a3 n3 c3;cases hq:p a.nU with
   | true=>
    have HF:=zI (jE Ha.out HK.out hq);rw[hq] at ac;clear hq hat r1 r2 r3 hp hI;exact Qc3
   | false=>
    have HX:Hid (∀ a∈l.take (k+1),p a.nU=false):=by
     show ∀ a∈_,_;rw[vX Ha.out];intro y hy;rcases zU.1 hy with hy|hy
     ·exact HK.out y hy
     ·rw[zS] at hy;rw[hy];exact hq
    rw[hq] at ac;clear hq hat r1 r2 r3 hp hI;exact gT
  ·have HF:Hid (yK (fun v:VI β=>p v.nU) l = -1):=by
    exact iG
   exact Qd5
theorem B1w {fr:Nat×Nat}{u:Value}(h:w.heap[g]?=some (.cells cs t fr))(hc:w.cell? ⟨g,i,none⟩=some u):cs[i]?=some u:=by
 simpa [World.cell?,h] using hc
section
variable {α:Type}{E:EK α}{w w':World}{base g n cap:Nat}{l:List α}
theorem Row.cur (h:Row E w base (.slice (some ⟨g,0,none⟩) n cap) l):l.length=n∧base≤g∧n≤cap∧cap≤maxLen∧∃ cur,w.heap[g]?=some (.cells cur E.elem (0,0))∧cur.size=cap*E.size:=by
 rcases h.2 with⟨hv,_⟩|⟨g',cap',cur,hv,hb,hg,h1,h2,h3,_⟩
 ·cases hv
 cases hv;exact⟨rfl,hb,h1,h2,cur,hg,h3⟩
theorem Row.cells (h:Row E w base (.slice (some ⟨g,0,none⟩) n cap) l){k:Nat}{y : α}(hy:l[k]?=some y){j:Nat}{u:Value}(hu:(E.enc y)[j]?=some u):w.cell? ⟨g,k*E.size+j,none⟩=some u:=by
 have hj:j<E.size:=by have:=(yG.1 hu).1;rw[E.len] at this;exact this
 have:=World.ownsRow.cells h (g:=g) rfl (k*E.size+j) u (by rw[E.flat_at l k j y hy hj];exact hu);simpa [xS] using this
theorem Row.of_cells {cur:Array Value}(hb:base≤g)(hg:w.heap[g]?=some (.cells cur E.elem (0,0)))(hsz:cur.size=cap*E.size)(hn:l.length=n)(h1:n≤cap)(h2:cap≤maxLen)(hc:∀ k y,l[k]?=some y→∀ j u,(E.enc y)[j]?=some u→w.cell? ⟨g,k*E.size+j,none⟩=some u):Row E w base (.slice (some ⟨g,0,none⟩) n cap) l:=by
 subst hn;refine⟨E.flat_len l,.inr ⟨g,cap,cur,rfl,hb,hg,h1,h2,hsz,?_⟩⟩;apply List.ext_getElem?;intro i;by_cases hi:i<l.length*E.size
 ·rw[oZ,zF hi];have hk:i / E.size<l.length:=by rw[Nat.div_lt_iff_lt_mul E.pos];exact hi
  have hj:=Nat.mod_lt i E.pos;have e:i / E.size*E.size+i%E.size=i:=by rw[mT];exact gI i E.size
  have h3:=E.flat_at l (i / E.size) (i%E.size) _ (vG hk) hj;rw[e] at h3;obtain⟨u,hu⟩:∃ u,(E.enc (l[i / E.size]'hk))[i%E.size]?=some u:=⟨(E.enc (l[i / E.size]'hk))[i%E.size]'(by rw[E.len];exact hj),vG _⟩
  rw[h3,hu];have h4:=hc _ _ (vG hk) _ _ hu;rw[e] at h4;rw[bN];exact B1w hg h4
 rw[oZ,zC hi,eN (by rw[E.flat_len];omega)]
end
section
variable {β:Type}{w:World}{base g n cap:Nat}{l:List (VL β)}
theorem Row.setV (h:Row (ekV β) w base (.slice (some ⟨g,0,none⟩) n cap) l){i:Nat}{a:VL β}{x0 x1 x2 x3:Value}(he:(ekV β).enc a = [x0,x1,x2,x3])(hi:i<n) :
  Row (ekV β) ((((w.setCell ⟨g,i*4,none⟩ x0).setCell ⟨g,i*4+1,none⟩ x1).setCell ⟨g,i*4+2,none⟩ x2).setCell ⟨g,i*4+3,none⟩ x3) base (.slice (some ⟨g,0,none⟩) n cap) (l.set i a):=by
 obtain⟨hl,hb,h1,h2,cur,hg,hsz⟩:=h.cur;have hs:∀ (V:World) (c:Array Value) (j:Nat) (v:Value),V.heap[g]?=some (.cells c (ekV β).elem (0,0))→(V.setCell ⟨g,j,none⟩ v).heap[g]?=some (.cells (c.setIfInBounds j v) (ekV β).elem (0,0)):=fun V c j v hh=>yO V g j c _ v hh
 have e4:(ekV β).size=4:=rfl;have hg4:=hs _ _ (i*4+3) x3 (hs _ _ (i*4+2) x2 (hs _ _ (i*4+1) x1 (hs _ _ (i*4) x0 hg)));have hsz':i*4+3<cur.size:=by rw[hsz,e4];omega
 refine Row.of_cells hb hg4 (by simp[hsz]) (by rw[List.length_set];exact hl) h1 h2 fun k y hy j u hu=>?_
 rw[e4];have hj:j<4:=by have:=(yG.1 hu).1;rw[(ekV β).len] at this;exact this
 refine zL hg4 _ _ ?_;by_cases hk:k=i
 ·subst hk;rw[List.getElem?_set_self (by omega)] at hy;cases hy
  rw[he] at hu
  match j,hj,hu with
  | 0,_,hu=>simp at hu;subst hu;rw[oY (by omega),oY (by omega),oY (by omega)];exact gG (by omega)
  | 1,_,hu=>simp at hu;subst hu;rw[oY (by omega),oY (by omega),gG (by simp;omega)]
  | 2,_,hu=>simp at hu;subst hu;rw[oY (by omega),gG (by simp;omega)]
  | 3,_,hu=>simp at hu;subst hu;rw[gG (by simp;omega)]
 rw[List.getElem?_set_ne (fun e=>hk e.symm)] at hy;have:=h.cells hy hu;rw[e4] at this;have:=B1w hg this;rw[oY (by omega),oY (by omega),oY (by omega),oY (by omega)];exact this
end
section
variable {α:Type}{E:EK α}{w:World}{base g n cap:Nat}{l:List α}
theorem eB {g:Nat}{t:TypeId}:∀ (vs:List Value) (o:Nat) (w:World) (cs:Array Value),w.heap[g]?=some (.cells cs t (0,0))→∃ cs',(w.setCells g o vs).heap[g]?=some (.cells cs' t (0,0))∧cs'.size=cs.size
 | [],_,_,cs,h=>⟨cs,h,rfl⟩
 | v::r,o,w,cs,h=>by
  obtain⟨cs',h1,h2⟩:=eB r (o+1) (w.setCell ⟨g,o,none⟩ v) _ (yO w g o cs t v h)
  exact⟨cs',h1,by simpa using h2⟩
theorem Row.cut (h:Row E w base (.slice (some ⟨g,0,none⟩) n cap) l){m o:Nat}(hm:m≤n)(vs:List Value)(ho:m*E.size≤o):Row E (w.setCells g o vs) base (.slice (some ⟨g,0,none⟩) m cap) (l.take m):=by
 obtain⟨hl,hb,h1,h2,cur,hg,hsz⟩:=h.cur;obtain⟨cs',h3,h4⟩:=eB vs o w cur hg;refine Row.of_cells hb h3 (by rw[h4,hsz]) (by rw[vZ];omega) (by omega) h2 fun k y hy j u hu=>?_
 have hk:k<m:=by have:=(yG.1 hy).1;rw[vZ] at this;omega
 rw[oZ,zF hk] at hy;have hj:j<E.size:=by have:=(yG.1 hu).1;rw[E.len] at this;exact this
 rw[lW]
 ·exact h.cells hy hu
 intro _ _;left;show k*E.size+j<o;have:(k+1)*E.size≤m*E.size:=qV _ hk;rw[iC] at this;omega
end
variable{α:Type}{g k m d o:Nat}{F:List Nat}{w:World}{p q:α→Bool}{a:α}{l' l:List α}
theorem C6l {n c:Nat}(hn:0<n)(hc:∀ j,j<n*4→(w.cell? ⟨g,o+j,none⟩).isSome=true)(hf:∀ j,j<n*4→w.frozen? ⟨g,o+j,none⟩=false) :
  ∃ vs:List Value,∀ ty,(Builtin.clear_ #[26] ty #[.slice (some ⟨g,o,none⟩) n c]).run Tryz.prog w = .ok (.tuple #[]) (w.setCells g o vs):=by
 have hz:∀ w,(zeroValue 63).run Tryz.prog w = .ok (.agg #[.int .i64 0,.slice none 0 0,.slice none 0 0,.slice none 0 0]) w:=fun w=>by kernel_rfl
 refine⟨(Builtin.zeroCells (Value.agg #[.int .i64 0,.slice none 0 0,.slice none 0 0,.slice none 0 0]).cells n).toList,fun ty=>?_⟩;have hlen:(Builtin.zeroCells (Value.agg #[.int .i64 0,.slice none 0 0,.slice none 0 0,.slice none 0 0]).cells n).toList.length=n*4:=by
  simp[Builtin.zeroCells,Value.cells]
 have ac:∀ v∈(Builtin.zeroCells (Value.agg #[.int .i64 0,.slice none 0 0,.slice none 0 0,.slice none 0 0]).cells n).toList,v.oneCell'=true:=by
  intro v hv;simp[Builtin.zeroCells,Value.cells] at hv;obtain⟨i,_,rfl⟩:=hv;rcases (by omega:i%4=0∨i%4=1∨i%4=2∨i%4=3) with h|h|h|h <;> rw[h] <;> rfl
 have hst:=run_storeCells_cells (P:=Tryz.prog) g o _ 0 w (by rw[hlen];simpa using hc) (by rw[hlen];simpa using hf) ac;simp only[oX] at hst;obtain⟨m,rfl⟩:∃ m,n=m+1:=⟨n-1,by omega⟩
 simp[Builtin.clear_,run_underlying Tryz.underlying26,hz,hst]
theorem FrB.setCells {g o:Nat}{t:TypeId}:∀ (vs:List Value) (o:Nat){w V:World}{cs:Array Value},FrB [g] w V→V.heap[g]?=some (.cells cs t (0,0))→t≠5→FrB [g] w (V.setCells g o vs)
 | [],_,_,_,_,h,_,_=>h
 | v::r,o,_,V,cs,h,hg,ht=>FrB.setCells (o:=o) r (o+1) (pW h (uW (i:=o) (x:=v) hg ht)) (yO V g o cs t v hg) ht
theorem E1e {i:Nat}{cs:Array Value}{x0 x1 x2 x3:Value}(h:w.heap[g]?=some (.cells cs 63 (0,0))):FrB [g] w ((((w.setCell ⟨g,i,none⟩ x0).setCell ⟨g,i+1,none⟩ x1).setCell ⟨g,i+2,none⟩ x2).setCell ⟨g,i+3,none⟩ x3):=by
 have h1:=yO _ _ i _ _ x0 h;have h2:=yO _ _ (i+1) _ _ x1 h1;have h3:=yO _ _ (i+2) _ _ x2 h2;exact pW (pW (pW (uW h (by decide)) (uW h1 (by decide))) (uW h2 (by decide))) (uW h3 (by decide))
structure Kept {α:Type}(q : α→Bool) (l:List α) (k m:Nat) (l':List α):Prop where
 lt:m<k
 le:k≤l.length
 len:l'.length=l.length
 front:l'.take m=(l.take k).filter q
 rest:l'.drop k=l.drop k
theorem Kept.at (h:Kept q l k m l'):l'[k]?=l[k]?:=by
 have:=congrArg (·[0]?) h.rest;simpa using this
theorem Kept.skip (h:Kept q l k m l')(ha:l[k]?=some a)(hq:q a=false):Kept q l (k+1) m l':=by
 refine⟨by have:=h.lt;omega,(yG.1 ha).1,h.len,?_,?_⟩
 ·rw[vX ha,List.filter_append,h.front];simp[hq]
 have:=congrArg (List.drop 1) h.rest;simpa using this
theorem Kept.keep (h:Kept q l k m l')(ha:l[k]?=some a)(hq:q a=true):Kept q l (k+1) (m+1) (l'.set m a):=by
 have hlt:=h.lt;have hk:=(yG.1 ha).1;have hl:=h.len;refine⟨by omega,hk,by rw[List.length_set];exact hl,?_,?_⟩
 ·have e:(l'.set m a)[m]?=some a:=List.getElem?_set_self (by omega);rw[vX e,List.take_set_of_le (zG _),h.front,vX ha,List.filter_append];simp[hq]
 rw[List.drop_set_of_lt (by omega)];have:=congrArg (List.drop 1) h.rest;simpa using this
theorem Kept.start (ha:l[k]?=some a)(hq:q a=false)(h:∀ b∈l.take k,q b=true):Kept q l (k+1) k l:=by
 refine⟨by omega,(yG.1 ha).1,rfl,?_,rfl⟩;rw[vX ha,List.filter_append,List.filter_eq_self.2 h];simp[hq]
def E1s (d:Nat)(w:World)(B0:Nat)(l:List (VI (BI d)))(x:Int)(e:Ending)(w':World):Prop:=
 ((∀ v∈l,decide (v.nU=x)=false)∧e = .returned (.tuple #[.agg #[.int .i64 0,.slice none 0 0,.slice none 0 0,.slice none 0 0],.bool false]))∨
 ∃ (k:Nat) (v:VI (BI d)),yK (fun v:VI (BI d)=>decide (v.nU=x)) l=(k:Int)∧l[k]?=some v∧v.nU=x∧
  ∃ (y:VL (LB d)) (q0:Int) (x1:Option Addr) (y1 z1:Nat) (x2:Option Addr) (y2 z2:Nat) (x3:Option Addr) (y3 z3:Nat),(ekV (LB d)).enc y = [.int .i64 q0,.slice x1 y1 z1,.slice x2 y2 z2,.slice x3 y3 z3]∧e = .returned (.tuple #[.agg #[.int .i64 q0,.slice x1 y1 z1,.slice x2 y2 z2,.slice x3 y3 z3],.bool true])∧VL.pl (LB.pl d) y=v∧OwnV (ekB d) (OwnB B0 d) w' B0 y∧(∀ k∈VL.fp (LB.fp d) y,w.heap.size≤k)∧(VL.fp (LB.fp d) y).Nodup
theorem B2d (h:l.findIdx? p=none):∀ v∈l,p v=false:=by
 rw[bQ] at h;exact h
theorem SG (h:l.findIdx? p=some k):∃ a,l[k]?=some a∧p a=true:=by
 rw[XG] at h;obtain⟨hk,hp,_⟩:=h;exact⟨_,vG hk,hp⟩
theorem VT {B0:Nat}{v0 v1:Value}{b:BO (BI d)}(hB:B0≤w.heap.size)(h:BRd d w v0 v1 b)(ag:∀ v∈b.vals,VOk (BOk d) v)(x:Int) :
  Calls Tryz.prog 103 #[.agg #[v0,v1],.int .i64 x] w fun e w'=>E1s d w B0 b.vals x e w'∧zB w w':=by
 obtain⟨a0,n0,c0,rfl,Hn,bc⟩:=h.1.sH;obtain⟨a1,n1,c1,rfl,_,_⟩:=h.2.sH;obtain⟨W2,au,hb2,z2,x1,x2⟩:=uD w (.cells #[.slice a0 n0 c0,.slice a1 n1 c1] 29) (.cells #[.int .i64 0,.slice none 0 0,.slice none 0 0,.slice none 0 0] 63);have hi:=B3d (BAt.sT d) (h.1.bL (VAt.sT (BAt.sT d)) hb2) ⟨a1,n1,c1,rfl⟩ x;cases hp:b.vals.findIdx? (fun v=>decide (v.nU=x)) with
 | none=>
  have e1:yK (fun v:VI (BI d)=>decide (v.nU=x)) b.vals = -1:=by unfold yK;rw[hp]
  have HP:=zI (B2d hp);rw[e1] at hi;clear hp e1 ag;go_enter Tryz.func103,Tryz.ntmps103;go_wp2_with fail
  rw[←au.out];refine hi.mono ?_;rintro e w1 ⟨rfl,hb1⟩;have y2:=(zN hb1).trans x2;have s0:=zL y2 0 _ rfl;have s1:=zL y2 1 _ rfl;have s2:=zL y2 2 _ rfl;have s3:=zL y2 3 _ rfl;have f0:=zJ y2 0;have f1:=zJ y2 1;have f2:=zJ y2 2;have f3:=zJ y2 3;go_wp2_with fail
  refine bodyPost_ret (v:=.tuple #[.agg #[.int .i64 0,.slice none 0 0,.slice none 0 0,.slice none 0 0],.bool false]) (by simp[results,Tryz.results103,go_sem, *]) rfl ?_;exact⟨.inl ⟨HP.out,rfl⟩,yL (yL (yL (yL (zP hb2 hb1) (by omega)) (by omega)) (by omega)) (by omega)⟩
 | some k=>
 have e1:yK (fun v:VI (BI d)=>decide (v.nU=x)) b.vals=(k:Int):=by unfold yK;rw[hp]
 obtain⟨v,Hv,hx⟩:=SG hp;have HX:=zI ((show v.nU=x from nS hx));have HF:=zI e1;have HV:=zI Hv;have bk:(k:Int)<(n0:Int):=by have:=(yG.1 Hv).1;have:=Hn.out;omega
 have bh:¬ (k:Int)<0:=by omega
 have ac:=ag v (xV Hv);rw[e1] at hi;clear hp e1 ag hx Hv;go_enter Tryz.func103,Tryz.ntmps103;go_wp2_with fail
 rw[←au.out];refine hi.mono ?_;rintro e w1 ⟨rfl,hb1⟩;have av:=zP hb2 hb1;have hz1:=hb1.size;obtain⟨b0,off,rfl,hat⟩:=(h.1.bL (VAt.sT (BAt.sT d)) av).get VAt.plain HV.out;obtain⟨u1,u2,u3,s0,s1,s2,s3,r1,r2,r3⟩:=hat.at;obtain⟨a4,n4,c4,rfl,_,_⟩:=r1.sH;obtain⟨a2,n2,c2,rfl,_,_⟩:=r2.sH;obtain⟨a3,n3,c3,rfl,_,_⟩:=r3.sH;obtain⟨t0,t1⟩:=zO ((zN hb1).trans x1);have hc:=C2p d w1 B0 v a4 n4 c4 a2 n2 c2 a3 n3 c3 (by omega) r1 r2 r3 ac;have y2:=(zN hb1).trans x2;clear hat r1 r2 r3 ac h x1 x2 hi;go_wp2_with fail
 refine hc.mono ?_;rintro e w2 ⟨y,q0,x1,y1,z1,x2,aj,ak,x3,y3,z3,HE,rfl,hpl,ba,aw,bg,hb3⟩;have HE:=zI HE;have g2:=(zN hb3).trans y2;have bl:=zL g2 0 _ rfl;have bn:=zL g2 1 _ rfl;have bu:=zL g2 2 _ rfl;have cg:=zL g2 3 _ rfl;have f0:=zJ g2 0;have f1:=zJ g2 1;have f2:=zJ g2 2;have f3:=zJ g2 3;have hf:=fr4 g2 (x0:=.int .i64 q0) (x1:=.slice x1 y1 z1) (x2:=.slice x2 aj ak) (x3:=.slice x3 y3 z3);have ah:=OwnV.fr (OwnB.fr d) ba hf fun k hk hm=>by
  rw[zS] at hm;have:=aw k hk;omega
 clear ba hf hc;go_wp2_with fail
 refine bodyPost_ret (v:=.tuple #[.agg #[.int .i64 q0,.slice x1 y1 z1,.slice x2 aj ak,.slice x3 y3 z3],.bool true]) (by simp[results,Tryz.results103,go_sem, *]) rfl ?_;exact⟨.inr ⟨k,v,HF.out,HV.out,HX.out,y,q0,x1,y1,z1,x2,aj,ak,x3,y3,z3,HE.out,rfl,hpl,ah,fun k hk=>by have:=aw k hk;omega,bg⟩,yL (yL (yL (yL (zP av hb3) (by omega)) (by omega)) (by omega)) (by omega)⟩
theorem FrB.blk {w':World}(h:FrB F w w')(hk:k<w.heap.size)(hF:k∉F):w'.heap[k]?=w.heap[k]?:=h.block k hk (.inl hF)
theorem FrB.on {a b c:World}(h:FrB F a b)(hb:zB b c):FrB F a c:=h.trans (.of_below hb:FrB [] _ _) (fun _ hi=>hi) (fun _ hi=>by simp at hi)
theorem D3l {P:World→Addr→BI d→Prop}(hP:fJ P){base:Nat}{v:Value}{l:List (VL (LB d))}{fn:Nat}{av:Array Value}{K:List Nat}{p:Int→Bool}(h:Row (ekV (LB d)) w base v l)(df:RdL 4 (VAt P) w v (l.map (VL.pl (LB.pl d))))
  (cw:∀ (args:Array Value) (w:World),(callFunc fn args).run Tryz.prog w = .ok (.enter fn args) w) (hp:ZG fn av K w p) (hK:∀ k∈K,k<w.heap.size) (dt:∀ k∈K,v.ownBlock≠some k) (hI:∀ a∈l,I64 a.nU) :
  Calls Tryz.prog 215 #[v,.func (.func fn) #[] av] w fun e w'=>∃ q:PV,e = .returned q.v∧q.v.ownBlock=v.ownBlock∧Row (ekV (LB d)) w' base q.v (l.filter fun a=>!p a.nU)∧FrB v.ownBlock.toList w w':=by
 have ag:=D3y hP df cw hp hK (fun a ha=>by
  obtain⟨b,hb,rfl⟩:=vT.1 ha;exact hI b hb)
 rw[show yK (fun v:VI (BI d)=>p v.nU) (l.map (VL.pl (LB.pl d)))=yK (fun v:VL (LB d)=>p v.nU) l by
  unfold yK;rw[List.findIdx?_map];rfl] at ag
 obtain⟨ao,n,cap,rfl,Hn⟩:=h.shape';cases hf:l.findIdx? (fun v:VL (LB d)=>p v.nU) with
 | none=>
  have e1:yK (fun v:VL (LB d)=>p v.nU) l = -1:=by unfold yK;rw[hf]
  have HA:Hid (l.filter (fun a=>!p a.nU)=l):=by
   show _=_;refine List.filter_eq_self.2 fun a ha=>?_
   have:=B2d hf a ha;simp[this]
  rw[e1] at ag;clear hf e1 df hp hI;go_enter Tryz.func215,Tryz.ntmps215;go_wp2_with fail
  refine ag.mono ?_;rintro e w1 ⟨rfl,hb1⟩;go_wp2;go_ret;exact⟨(ao,n,cap),rfl,rfl,by rw[HA.out];exact h.bL hb1,.of_below hb1⟩
 | some k0=>
  have e1:yK (fun v:VL (LB d)=>p v.nU) l=(k0:Int):=by unfold yK;rw[hf]
  obtain⟨a0,ha0,dh⟩:=SG hf;have hst:Kept (fun a:VL (LB d)=>!p a.nU) l (k0+1) k0 l:=Kept.start ha0 (by simp[dh]) fun b hb=>by
   rw[XG] at hf;obtain⟨hk,_,hall⟩:=hf;obtain⟨i,hi,rfl⟩:=List.mem_iff_getElem.1 hb;rw[List.getElem_take];have:=hall i (by rw[vZ] at hi;omega);simp at this;simp[this]
  have d9:k0<n:=by rw[Hn.out];exact(yG.1 ha0).1
  obtain⟨g,rfl⟩:∃ g,ao=some ⟨g,0,none⟩:=by
   rcases h.2 with⟨hv,hn⟩|⟨g,cap',cur,hv,_⟩
   ·have:=Hn.out;omega
   ·cases hv;exact⟨g,rfl⟩
  obtain⟨_,hbg,eu,hcm,dn,hg0,_⟩:=h.cur;have dz:=(zR hg0)
  have bu:∀ k∈K,k∉[g]:=fun k hk hm=>by
   rw[zS] at hm;exact dt k hk (by rw[hm];rfl)
  have dx:((k0:Int) == -1)=false:=beq_eq_false_iff_ne.2 (by omega);unfold maxLen at hcm;rw[e1] at ag;have HR:=zI h;clear hf e1 df ha0 dh hg0 h;go_enter Tryz.func215,Tryz.ntmps215;go_wp2_with fail
  refine ag.mono ?_;rintro e w1 ⟨rfl,hb1⟩;go_wp2_with fail
  go_loopg [5,6,7] n (fun gm s5 s6 _ wr=>∃ (k m:Nat) (l':List (VL (LB d))),k≤n∧n-k≤gm∧s5 = .int .i64 (m:Int)∧s6 = .int .i64 (k:Int)∧Hid (Row (ekV (LB d)) wr base (.slice (some ⟨g,0,none⟩) n cap) l')∧Kept (fun a:VL (LB d)=>!p a.nU) l k m l'∧FrB [g] w wr)
  case atStart=>exact⟨k0+1,k0,l,by omega,by omega,rfl,by go_num,HR.out.bL hb1,hst,.of_below hb1⟩
  case round=>
   obtain⟨k,m,l',eh,hk,rfl,rfl,HL,aj,bc⟩:=hrel;have eo:=aj.lt;have di:=bc.size;by_cases hlt:k<n
   ·obtain⟨a,Ha⟩:=yE (l:=l) (k:=k) (by rw[←Hn.out];exact hlt);have dr:=hI a (uO Ha.out);have bn:Hid (l'[k]?=some a):=by show _=_;rw[aj.at];exact Ha.out
    obtain⟨am,Hm⟩:∃ am,Hid (l'[m]?=some am):=by
     have:=aj.len;have hm:m<l'.length:=by rw[this,←Hn.out];omega
     exact⟨l'[m],vG hm⟩
    obtain⟨nu,bi,dm,su,⟨a1,n1,c1⟩,⟨a2,n2,c2⟩,⟨a3,n3,c3⟩⟩:=a;have s0:wr.cell? ⟨g,k*4,none⟩=some (.int .i64 nu):=HL.out.cells bn.out (j:=0) rfl;have s1:wr.cell? ⟨g,k*4+1,none⟩=some (.slice a1 n1 c1):=HL.out.cells bn.out (j:=1) rfl;have s2:wr.cell? ⟨g,k*4+2,none⟩=some (.slice a2 n2 c2):=HL.out.cells bn.out (j:=2) rfl;have s3:wr.cell? ⟨g,k*4+3,none⟩=some (.slice a3 n3 c3):=HL.out.cells bn.out (j:=3) rfl;have ee:(k:Int)<(n:Int):=by omega
    have ei:(m:Int)<(n:Int):=by omega
    obtain⟨W1,dg,cg,xW,zW⟩:=zV wr (.cells #[.int .i64 nu,.slice a1 n1 c1,.slice a2 n2 c2,.slice a3 n3 c3] 63);have ac:=hp W1 (yN di cg.size) (fun k hk=>(cg.block k (nD (hK k hk) di)).trans (bc.blk (hK k hk) (bu k hk))) nu dr a1 n1 c1 a2 n2 c2 a3 n3 c3;cases hq:p nu with
    | true=>
     have ak:=aj.skip Ha.out (by simp[hq]);rw[hq] at ac;clear hq hp hI ag bu aj;go_wp2_with fail
     rw[←dg.out];refine ac.mono ?_;rintro e w2 ⟨rfl,hb2⟩;have ah:=zP cg hb2;go_wp2_with fail
     go_roundg (n-(k+1))
     case measure=>omega
     case rel=>exact⟨k+1,m,l',by omega,by omega,rfl,by go_num,HL.out.bL ah,ak,bc.on ah⟩
    | false=>
     have ak:=aj.keep Ha.out (by simp[hq]);rw[hq] at ac;clear hq hp hI ag bu aj;go_wp2_with fail
     rw[←dg.out];refine ac.mono ?_;rintro e w2 ⟨rfl,hb2⟩;have ah:=zP cg hb2;have au:=zI (HL.out.bL ah);obtain⟨_,_,_,_,dp,hg2,_⟩:=au.out.cur;have y2:=(zN hb2).trans xW;have t0:=zL y2 0 _ rfl;have t1:=zL y2 1 _ rfl;have t2:=zL y2 2 _ rfl;have t3:=zL y2 3 _ rfl;obtain⟨mu,mi,my,ms,⟨b1,d1,f1⟩,⟨b2,d2,f2⟩,⟨b3,d3,f3⟩⟩:=am;have u0:w2.cell? ⟨g,m*4,none⟩=some (.int .i64 mu):=au.out.cells Hm.out (j:=0) rfl;have u1:w2.cell? ⟨g,m*4+1,none⟩=some (.slice b1 d1 f1):=au.out.cells Hm.out (j:=1) rfl;have u2:w2.cell? ⟨g,m*4+2,none⟩=some (.slice b2 d2 f2):=au.out.cells Hm.out (j:=2) rfl;have u3:w2.cell? ⟨g,m*4+3,none⟩=some (.slice b3 d3 f3):=au.out.cells Hm.out (j:=3) rfl;have q0:=zJ hg2 (m*4);have q1:=zJ hg2 (m*4+1);have q2:=zJ hg2 (m*4+2);have q3:=zJ hg2 (m*4+3);have ba:=au.out.setV (i:=m) (a:=⟨nu,bi,dm,su,(a1,n1,c1),(a2,n2,c2),(a3,n3,c3)⟩) rfl (by omega);have cu:Hid _:=ba;have bg:=E1e hg2 (i:=m*4) (x0:=.int .i64 nu) (x1:=.slice a1 n1 c1) (x2:=.slice a2 n2 c2) (x3:=.slice a3 n3 c3);have bh:=pW (bc.on ah) bg;have dl:Hid _:=bh;clear ba bg bh ac y2 xW hg2;go_wp2_with fail
     go_roundg (n-(k+1))
     case measure=>omega
     case rel=>exact⟨k+1,m+1,_,by omega,by omega,by go_num,by go_num,cu.out,ak,dl.out⟩
   ·obtain rfl:k=n:=by omega
    have dw:m≤k:=by omega
    obtain⟨_,_,_,_,aw,cj,bk⟩:=HL.out.cur;have bl:aw.size=cap*4:=bk;obtain⟨vs,dy⟩:=C6l (w:=wr) (g:=g) (o:=m*4) (n:=k-m) (c:=cap-m) (by omega) (fun j hj=>by
     have:m*4+j<aw.size:=by omega
     rw[zL cj (m*4+j) _ (jT this)];rfl) (fun j _=>zJ cj (m*4+j))
    have HF:Hid (Row (ekV (LB d)) (wr.setCells g (m*4) vs) base (.slice (some ⟨g,0,none⟩) m cap) (l'.take m)):=HL.out.cut dw vs (zG _);have HG:=zI (FrB.setCells (o:=m*4) vs (m*4) bc cj (by show(63:TypeId)≠5;decide));have HE:Hid (l'.take m=l.filter fun a=>!p a.nU):=by
     show _=_;rw[aj.front,uP (by rw[←Hn.out];exact zG _)]
    have dv:¬ (k:Int)<(k:Int):=by omega
    clear bk bl cj ag hp hI bu aj;go_wp2;go_ret;exact⟨some ⟨g,0,none⟩,m,cap,rfl,rfl,by rw[←HE.out];exact HF.out,HG.out⟩
theorem YK {ty:TypeId}{dLen ac:Nat}{a:Addr}{sLen ah:Nat}{cs:List Value}(hm:Nat.min sLen dLen=m)(hl:cs.length=m*4)
  (ag:∀ j v,cs[j]?=some v→w.cell? (a.add j)=some v) (hc:∀ j,j<cs.length→(w.cell? ⟨g,o+j,none⟩).isSome=true) (hf:∀ j,j<cs.length→w.frozen? ⟨g,o+j,none⟩=false) (h1:∀ v∈cs,v.oneCell'=true) :
  (Builtin.copy_ #[26,26] ty #[.slice (some ⟨g,o,none⟩) dLen ac,.slice (some a) sLen ah]).run Tryz.prog w = .ok (goInt m) (w.setCells g o cs):=by
 have aj:=run_loadCells_list (P:=Tryz.prog) w a cs ag;have hst:=run_storeCells_cells (P:=Tryz.prog) g o cs 0 w (by simpa using hc) (by simpa using hf) h1;obtain⟨i,hi,_,hz1,_⟩:=info_parts (ekV Unit).info;have hz1:i.size=4:=hz1;have hi:Tryz.prog.info? 63=some i:=hi;rw[hl] at aj;simp only[oX] at hst;simp[Builtin.copy_,run_underlying Tryz.underlying26,Builtin.lenOf,Builtin.firstCells,sizeOf,typeInfo,hi,hz1,hm,aj,hst]
section
variable {α:Type}{E:EK α}{V:World}{base g n cap i:Nat}{l:List α}{a : α}
theorem D1f {cur:Array Value}(hb:base≤g)(hg:V.heap[g]?=some (.cells cur E.elem (0,0)))(hsz:cur.size=cap*E.size)(hn:l.length=n)(hi:i≤n)(h1:n+1≤cap)(h2:cap≤maxLen)
  (hA:∀ k y,k<i→l[k]?=some y→∀ j u,(E.enc y)[j]?=some u→V.cell? ⟨g,k*E.size+j,none⟩=some u) (hB:∀ j u,(E.enc a)[j]?=some u→V.cell? ⟨g,i*E.size+j,none⟩=some u)
  (hC:∀ j u,(E.flat (l.drop i))[j]?=some u→V.cell? ⟨g,(i+1)*E.size+j,none⟩=some u):Row E V base (.slice (some ⟨g,0,none⟩) (n+1) cap) (l.take i++[a]++l.drop i):=by
 have ac:(l.take i).length=i:=by rw[vZ];omega
 refine Row.of_cells hb hg hsz (by simp;omega) h1 h2 fun k y hy j u hu=>?_
 have hj:j<E.size:=by have:=(yG.1 hu).1;rw[E.len] at this;exact this
 rw[vY] at hy;by_cases h3:k<i
 ·rw[gM (by omega),oZ,zF h3] at hy;exact hA k y h3 hy j u hu
 ·rw[gL (by omega),ac] at hy;by_cases h4:k=i
  ·subst h4;rw[Nat.sub_self] at hy;simp at hy;subst hy;exact hB j u hu
  ·rw[gL (by simp;omega)] at hy;simp only[List.length_singleton] at hy;have:=hC ((k-i-1)*E.size+j) u (by rw[E.flat_at _ _ j y hy hj];exact hu);rw[←Nat.add_assoc,←kC,show i+1+(k-i-1)=k by omega] at this;exact this
end
variable{w:World}
theorem UL {w':World}{v:Value}{F:List Nat}(h:w.grownBy w' v.ownBlock){t:TypeId}(ht:t≠5)(hv:∀ g,v.ownBlock=some g→∃ cs fr,w.heap[g]?=some (.cells cs t fr))(hF:∀ g,v.ownBlock=some g→g∈F):FrB F w w':=
 ⟨h.os,h.tape,h.output,h.size,fun k hk hc=>h.block k hk fun e=>by
  rcases hc with hc|⟨cs',fr',hc⟩
  ·exact hc (hF k e.symm)
  ·obtain⟨cs,fr,hg⟩:=hv k e.symm
   rw[hg] at hc
   simp only[Option.some.injEq,Obj.cells.injEq] at hc
   exact ht hc.2.1⟩
theorem C4z {β:Type}{base:Nat}{ao:Option Addr}{n cap vb:Nat}{l:List (VL β)}{a:VL β}{x0 x1 x2 x3:Value}(h:Row (ekV β) w base (.slice ao n cap) l)(he:(ekV β).enc a = [x0,x1,x2,x3])(hv:w.heap[vb]?=some (.cells #[x0,x1,x2,x3] 63 (0,0)))
  (hlen:(n+1)*80≤140737488355328) (hb:base≤w.heap.size) :
  Calls Tryz.prog 217 #[.slice ao n cap,.int .i64 (n:Int),.slice (some ⟨vb,0,none⟩) 1 1] w fun e w'=>∃ q:PV,e = .returned q.v∧(∀ k,q.v.ownBlock=some k→(Value.slice ao n cap).ownBlock=some k∨w.heap.size≤k)∧Row (ekV β) w' base q.v (l++[a])∧FrB (Value.slice ao n cap).ownBlock.toList w w':=by
 have hn:l.length=n:=by
  obtain⟨ak,cap',e⟩:=h.sH;cases e;rfl
 have ac:=mJ hv (by rw[he]);have hl2:(l.length + [a].length)*(ekV β).bytes≤140737488355328:=by rw[hn];exact hlen
 have ag:n≤cap:=by
  rcases h.2 with⟨e,hn0⟩|⟨g,cap',cur,e,_,_,h1,_⟩
  ·cases e;omega
  ·cases e;exact h1
 have ah:∀ g,(Value.slice ao n cap).ownBlock=some g→∃ cs fr,w.heap[g]?=some (.cells cs 63 fr):=fun g hg=>by
  rcases h.2 with⟨e,_⟩|⟨g',cap',cur,e,_,hg',_⟩
  ·rw[e] at hg;simp[Value.ownBlock] at hg
  ·rw[e] at hg;simp[Value.ownBlock] at hg;subst hg;exact⟨_,_,hg'⟩
 have HN:=zI hn;clear hn;go_enter Tryz.func217,Tryz.ntmps217;go_wp2_with (at_builtin;refine mP rfl (ekV β) _ _ rfl base _ l [a] rfl h (some ⟨vb,0,none⟩) 1 1 rfl rfl (fun h=>by cases h) ac (show 1≤80 by omega) hl2 hb ?_)
 all_goals (
  try subst h
  intro v4 w4 hr4 hg4 hk4;obtain⟨a4,n4,c4,rfl,aj⟩:=hr4.shape';go_wp2;go_ret;exact⟨(a4,n4,c4),rfl,hk4,hr4,UL (t:=63) hg4 (by decide) ah fun g hg=>by rw[hg];simp⟩)
section
variable{base n cap:Nat}
variable {α:Type}{w:World}
theorem Row.src {E:EK α}{ao:Option Addr}{m:List α}(h:Row E w base (.slice ao n cap) m):m.length=n∧(ao=none→n=0∧cap=0)∧∀ ad,ao=some ad→∀ k y,m[k]?=some y→∀ j u,(E.enc y)[j]?=some u→w.cell? (ad.add (k*E.size+j))=some u:=by
 refine⟨h.len.symm,?_,?_⟩
 ·intro e;subst e;rcases h.2 with⟨hv,hn⟩|⟨g,cap',cur,hv,_⟩
  ·cases hv;exact⟨rfl,rfl⟩
  cases hv
 intro ad e k y hy j u hu;subst e;rcases h.2 with⟨hv,hn⟩|⟨g,cap',cur,hv,hbg,hg,hnc,hcm,hcs,htake⟩
 ·cases hv
 cases hv
 rw[xS,tU];exact h.cells hy hu
theorem Row.front {E:EK α}{g:Nat}{l m:List α}{w':World}(h:Row E w' base (.slice (some ⟨g,0,none⟩) (l.length+n) cap) (l++m)):Row E w' base (.slice (some ⟨g,0,none⟩) l.length cap) l:=by
 obtain⟨_,h1,h2,h3,cur,h4,h5⟩:=h.cur;refine Row.of_cells h1 h4 h5 rfl (by omega) h3 fun k y hy j u hu=>?_
 exact h.cells (by rw[gM (yG.1 hy).1];exact hy) hu
theorem D5q (E:EK α)(ty:TypeId)(base:Nat)(p q:PV)(l m:List α)(hY:E.elem≠5)(hown:Row E w base p.v l)(hq:Row E w base q.v m)(hby:1≤E.bytes)(hlen:(l.length+m.length)*E.bytes≤140737488355328)(hb:base≤w.heap.size) :
  ∃ (a':Option Addr) (n' c':Nat) (w':World),(Builtin.append_ #[E.slice,E.slice] ty #[p.v,q.v]).run Tryz.prog w = .ok (.slice a' n' c') w'∧Row E w' base (.slice a' n' c') (l++m)∧Row E w' base p.v l∧FrB (own1 p) w w'∧∀ k∈own1 (a',n',c'),k∈own1 p∨w.heap.size≤k:=by
 obtain⟨ao,n,cap⟩:=q;have hq':Row E w base (.slice ao n cap) m:=hq;obtain⟨hm,hnil,hcell⟩:=hq'.src;obtain⟨v',w',hr,h1,h2,h3⟩:=C3l E ty base p.v l m hown ao n cap hm hnil hcell hby hlen hb;obtain⟨a',c',rfl⟩:=h1.sH;have aj:FrB (own1 p) w w':=UL h2 hY (fun g hg=>by
  rcases hown.2 with⟨hv,hn⟩|⟨g',cap',cur,hv,hbg,hgg,_⟩
  ·rw[hv] at hg;simp[Value.ownBlock] at hg
  rw[hv] at hg;simp only[Value.ownBlock,Option.some.injEq] at hg;subst hg;exact⟨cur,_,hgg⟩) (fun g hg=>rZ.2 hg)
 refine⟨a',_,c',w',hr,h1,?_,aj,fun k hk=>(h3 k (rZ.1 hk)).imp rZ.2 id⟩;obtain⟨i0,hi,hz0,hz1,hz2⟩:=info_parts E.info;have h63:l.length+m.length≤maxLen:=by
  have:l.length+m.length≤(l.length+m.length)*E.bytes:=Nat.le_mul_of_pos_right _ hby;unfold maxLen;omega
 rcases hown.2 with⟨hv,hn⟩|⟨g,cap',cur,hv,hbg,hg,hnc,hcm,hcs,htake⟩
 ·have hl0:=uE hn;rw[hv,hl0];exact Row.nil _ _ _
 cases ao with
 | none=>
  obtain⟨rfl,rfl⟩:=hnil rfl;have hrun:=run_append_owned_none (P:=Tryz.prog) (w:=w) base E.slice ty E.elem i0 E.size E.under hi p.v l.length (E.flat l) hown;have:(Builtin.append_ #[E.slice,E.slice] ty #[p.v,.slice none 0 0]).run Tryz.prog w = .ok (.slice a' (l++m).length c') w':=hr;rw[hrun] at this;simp only[Result.ok.injEq] at this;rw[←this.2];exact hown
 | some ad=>
 have hl:(E.flat m).length=n*E.size:=by rw[E.flat_len,hm]
 have hnews:∀ j u,(E.flat m)[j]?=some u→w.cell? (ad.add j)=some u:=by
  intro j u hu;obtain⟨y,h1,h2⟩:=E.flat_get hu;have:=hcell ad rfl _ y h1 _ u h2
  rwa [mT,gI] at this
 have h1c:∀ u∈E.flat m,u.oneCell'=true:=by
  intro y hy;simp only[EK.flat,vL] at hy;obtain⟨p,hp,hy⟩:=hy;exact E.one p y hy
 have ac:(Builtin.append_ #[E.slice,E.slice] ty #[.slice (some ⟨g,0,none⟩) l.length cap',.slice (some ad) n cap]).run Tryz.prog w = .ok (.slice a' (l++m).length c') w':=by rw[←hv];exact hr
 by_cases hroom:l.length+n≤cap'
 ·have ag:l.length*i0.size+(E.flat m).length≤cur.size:=by rw[hl,hcs,hz1,←kC];exact qV _ hroom
  have hr2:=run_append_room (P:=Tryz.prog) w E.slice ty E.elem i0 E.under hi g l.length cap' cur hg ad n cap (E.flat m) (by rw[hl,hz1]) hnews h1c hroom ag;rw[hr2] at ac;simp only[Result.ok.injEq,Value.slice.injEq] at ac;obtain⟨⟨rfl,_,rfl⟩,_⟩:=ac;have ah:Row E w' base (.slice (some ⟨g,0,none⟩) (l.length+m.length) cap') (l++m):=by
   have:=h1
   rwa [yQ] at this
  rw[hv];exact ah.front
 have holds:=World.ownsRow.cells (show w.ownsRow base E.elem E.size (.slice (some ⟨g,0,none⟩) l.length cap') l.length (E.flat l) by rw[←hv];exact hown) (g:=g) rfl;have hr2:=run_append_grow (P:=Tryz.prog) w E.slice ty E.elem i0 _ E.under hi hz0 ⟨g,0,none⟩ l.length cap' (E.flat l) (by rw[hz1];exact hown.1) holds ad n cap (E.flat m) (by rw[hl,hz1]) hnews (by omega) (by unfold maxLen at h63;omega) (growslice_fits (by omega) (by rw[hz2,←hm];exact hlen));rw[hr2] at ac;simp only[Result.ok.injEq] at ac;rw[←ac.2];exact hown.keep fun k _ hk=>by
  rw[wT _ _ _ (show k<w.drew.heap.size from hk)];rfl
end
variable{k:Nat}{A:List Nat}
def From (w:World)(L L':List Nat):Prop:=∀ k,L'.count k≤1∧(k<w.heap.size→L'.count k≤L.count k)
theorem From.mem {w:World}{L L':List Nat}(h:From w L L')(hk:k∈L'):k∈L∨w.heap.size≤k:=by
 by_cases hs:k<w.heap.size
 ·left;have:=(h k).2 hs;have h1:=yD.2 hk;exact yD.1 (by omega)
 right;omega
theorem VC {B:List Nat}(h:A.count k+B.count k≤1)(ha:k∈A):k∉B:=fun hb=>by
 have:=yD.2 ha
 have:=yD.2 hb
 omega
theorem D3k {n:Nat}(h:∀ i∈A,i<n)(hk:n≤k):A.count k=0:=XF fun hm=>by have:=h k hm;omega
section
variable {α:Type}(f : α→List Nat)
theorem bD (l m:List α)(k:Nat):((l++m).flatMap f).count k=(l.flatMap f).count k+(m.flatMap f).count k:=by rw[kA,tR]
theorem pZ (a : α)(l:List α)(k:Nat):((a::l).flatMap f).count k=(f a).count k+(l.flatMap f).count k:=by rw[rC,tR]
theorem XD (p : α→Bool)(k:Nat):∀ l:List α,((l.filter p).flatMap f).count k≤(l.flatMap f).count k
 | []=>zG _
 | a::l=>by
  have:=XD p k l
  rw[jV,pZ]
  split
  ·rw[pZ];omega
  ·omega
theorem A8b {p : α→Bool}{a : α}(hp:p a=false)(k:Nat):∀ {l:List α},a∈l→(f a).count k+((l.filter p).flatMap f).count k≤(l.flatMap f).count k
 | b::l,h=>by
  rw[jV,pZ]
  rcases yY.1 h with rfl|h
  ·have:=XD f p k l
   rw[hp]
   simp only[mS,if_false]
   omega
  ·have:=A8b hp k h
   split
   ·rw[pZ];omega
   ·omega
theorem eA {a : α}(k:Nat):∀ {l:List α},a∈l→(f a).count k≤(l.flatMap f).count k
 | b::l,h=>by
  rw[pZ]
  rcases yY.1 h with rfl|h
  ·omega
  ·have:=eA k h
   omega
theorem B3n (l:List α)(i:Nat)(a : α)(k:Nat):((l.take i++[a]++l.drop i).flatMap f).count k=(f a).count k+(l.flatMap f).count k:=by
 rw[bD,bD,pZ];have:=bD f (l.take i) (l.drop i) k;rw[nX] at this;simp only[mE,List.count_nil];omega
end
variable{β:Type}{x3 x1 x2 x0:Value}{base d i vb g cap n:Nat}{w' w:World}
theorem sO (f : β→List Nat)(v:VL β)(k:Nat):(VL.fp f v).count k=(own1 v.p1).count k+(own1 v.p2).count k+(own1 v.p3).count k+(v.subs.flatMap f).count k:=by
 unfold VL.fp;rw[tR,tR,tR]
theorem YS (f : β→List Nat)(b:BL β)(k:Nat):(BL.fp f b).count k=(own1 b.q0).count k+(own1 b.q1).count k+(b.vals.flatMap (VL.fp f)).count k:=by
 unfold BL.fp;rw[tR,tR]
theorem mM (p:PV)(k:Nat):(own1 p).count k≤1:=by
 unfold own1;cases p.v.ownBlock with
 | none=>simp
 | some b=>simp[List.count_cons];split <;> omega
theorem C1z {α:Type}(E:EK α)(l:List α):∀ u∈E.flat l,u.oneCell'=true:=by
 intro y hy;simp only[EK.flat,vL] at hy;obtain⟨p,_,hy⟩:=hy;exact E.one p y hy
theorem ZU {o j:Nat}{vs:List Value}{u:Value}(hc:∀ j,j<vs.length→(w.cell? ⟨g,o+j,none⟩).isSome=true)(hu:vs[j]?=some u):(w.setCells g o vs).cell? ⟨g,o+j,none⟩=some u:=by
 obtain⟨hj,e⟩:=yG.1 hu;rw[World.cell?_setCells_in g vs o w hc j hj,e]
theorem B7p {l:List (VL β)}{a:VL β}(h:Row (ekV β) w base (.slice (some ⟨g,0,none⟩) n cap) l)(he:(ekV β).enc a = [x0,x1,x2,x3])(hv:w.heap[vb]?=some (.cells #[x0,x1,x2,x3] 63 (0,0)))
  (aw:vb≠g) (hi:i<n) (hroom:n+1≤cap) :
  Calls Tryz.prog 217 #[.slice (some ⟨g,0,none⟩) n cap,.int .i64 (i:Int),.slice (some ⟨vb,0,none⟩) 1 1] w fun e w'=>e = .returned (.slice (some ⟨g,0,none⟩) (n+1) cap)∧Row (ekV β) w' base (.slice (some ⟨g,0,none⟩) (n+1) cap) (l.take i++[a]++l.drop i)∧FrB [g] w w':=by
 obtain⟨hl,hbg,cw,hcm,cur,hg,hsz⟩:=h.cur;replace hsz:cur.size=cap*4:=hsz;have hsp:∀ j,j<(n+1)*4→(w.cell? ⟨g,j,none⟩).isSome=true:=fun j hj=>by
  have:j<cur.size:=by omega
  rw[zL hg j _ (jT this)];rfl
 have bc:∀ j,w.frozen? ⟨g,j,none⟩=false:=fun j=>zJ hg j
 have ba:((ekV β).flat (l.drop i)).length=(n-i)*4:=by rw[(ekV β).flat_len,vE,hl];rfl
 have bg:w.shape? vb=some (63,4):=by simp[World.shape?,hv]
 have bh:w.shape? g=some (63,cur.size):=by simp only[World.shape?,hg];rfl
 have cj:∀ lb cb o,(callFunc 228 #[.slice (some ⟨vb,0,none⟩) 1 1,.slice (some ⟨g,o,none⟩) lb cb]).run Tryz.prog w = .ok (.value (.bool false)) w:=fun lb cb o=>by
  rw[run_callFunc_extern Tryz.func228 (by kernel_rfl) (by kernel_rfl) (by kernel_rfl) (e:=Extern.SlicesOverlaps.overlaps #[26,26] #[4]) (by kernel_rfl),
   Lib.run_overlaps_apart w 26 4 63 Tryz.underlying26 4 (fun w=>by kernel_rfl) ⟨vb,0,none⟩ ⟨g,o,none⟩ 1 1 lb cb aw _ _ _ _ bg bh (by omega) (zJ hv 0) (zJ hv _)]
  rfl
 have hcs:∀ j v,((ekV β).flat (l.drop i))[j]?=some v→w.cell? ⟨g,i*4+j,none⟩=some v:=fun j v hj=>by
  obtain⟨y,h1,h2⟩:=(ekV β).flat_get hj;rw[jX] at h1;have:=h.cells h1 h2;have e4:(ekV β).size=4:=rfl;rw[e4] at this;rw[show i*4+j=(i+j / 4)*4+j%4 by omega];exact this
 have ah:∀ ty dc sc,(Builtin.copy_ #[26,26] ty #[.slice (some ⟨g,(i+1)*4,none⟩) (n-i) dc,.slice (some ⟨g,i*4,none⟩) (n+1-i) sc]).run Tryz.prog w.drew = .ok (goInt ((n-i:Nat):Int)) (w.drew.setCells g ((i+1)*4) ((ekV β).flat (l.drop i))):=fun ty dc sc=>
  YK (w:=w.drew) (g:=g) (o:=(i+1)*4) (dLen:=n-i) (sLen:=n+1-i) (m:=n-i) (by simp only[Nat.min_def];split <;> omega) ba (fun j v hj=>by rw[xS];exact hcs j v hj) (fun j hj=>hsp _ (by omega)) (fun j _=>bc _) (C1z _ _)
 obtain⟨W1,hW1⟩:∃ W1,W1=w.drew.setCells g ((i+1)*4) ((ekV β).flat (l.drop i)):=⟨_,rfl⟩
 obtain⟨ac,hg1,aj⟩:=eB ((ekV β).flat (l.drop i)) ((i+1)*4) w.drew cur hg;rw[←hW1] at hg1;have bk:∀ j v,([x0,x1,x2,x3]:List Value)[j]?=some v→W1.cell? ⟨vb,j,none⟩=some v:=fun j v hj=>by
  rw[hW1,lW g _ _ _ _ (fun h _=>absurd h aw)];exact zL (w:=w) hv j v (by simpa using hj)
 have au:∀ (W:World),(∀ x,W.cell? x=W1.cell? x)→(∀ x,W.frozen? x=W1.frozen? x)→∀ ty dc,(Builtin.copy_ #[26,26] ty #[.slice (some ⟨g,i*4,none⟩) (n+1-i) dc,.slice (some ⟨vb,0,none⟩) 1 1]).run Tryz.prog W = .ok (goInt 1) (W.setCells g (i*4) [x0,x1,x2,x3]):=fun W ag bu ty dc=>
  YK (g:=g) (o:=i*4) (dLen:=n+1-i) (sLen:=1) (m:=1) (by simp only[Nat.min_def];split <;> omega) rfl (fun j v hj=>by rw[xS,tU,ag];exact bk j v hj)
   (fun j hj=>by
    have hj:j<4:=hj;have:i*4+j<ac.size:=by omega
    rw[ag,zL hg1 _ _ (jT this)];rfl) (fun j _=>by rw[bu];exact zJ hg1 _)
   (fun v hv=>by rw[←he] at hv;exact(ekV β).one a v hv)
 have ak:∀ W:World,(∀ x,W.cell? x=W1.cell? x)→W.heap=W1.heap→Hid (Row (ekV β) (W.setCells g (i*4) [x0,x1,x2,x3]) base (.slice (some ⟨g,0,none⟩) (n+1) cap) (l.take i++[a]++l.drop i)):=fun W ag cg=>by
  obtain⟨bn,hg2,av⟩:=eB [x0,x1,x2,x3] (i*4) W ac (by rw[cg];exact hg1);have e4:(ekV β).size=4:=rfl;refine D1f hbg hg2 (by rw[av,aj,hsz,e4]) hl (by omega) hroom hcm ?_ ?_ ?_
  ·intro k y hk hy j u hu;have hj:j<4:=by have:=(yG.1 hu).1;rw[(ekV β).len] at this;exact this
   rw[e4,lW g _ _ _ _ (fun _ _=>by left;show k*4+j<i*4;omega),ag,hW1,lW g _ _ _ _ (fun _ _=>by left;show k*4+j<(i+1)*4;omega)];exact h.cells hy hu
  ·intro j u hu;rw[he] at hu;rw[e4];refine ZU (w:=W) (g:=g) (o:=i*4) (vs:=[x0,x1,x2,x3]) (fun j hj=>?_) hu;have hj:j<4:=hj;have:i*4+j<ac.size:=by omega
   rw[ag,zL hg1 _ _ (jT this)];rfl
  ·intro j u hu;rw[e4,lW g _ _ _ _ (fun _ _=>by right;show i*4+4≤(i+1)*4+j;omega),ag,hW1];exact ZU (w:=w.drew) (g:=g) (o:=(i+1)*4) (fun j hj=>hsp _ (by omega)) hu
 have bl:∀ W:World,W.heap=W1.heap→W.os=W1.os→W.tape=W1.tape→W.output=W1.output→Hid (FrB [g] w (W.setCells g (i*4) [x0,x1,x2,x3])):=fun W e1 e2 e3 e4=>by
  have f0:FrB [g] w w.drew:=.of_below (zH _ _).drew;have f1:FrB [g] w W1:=by rw[hW1];exact FrB.setCells (o:=0) _ _ f0 hg (by show(63:TypeId)≠5;decide)
  have f2:FrB [g] w W:=⟨e2.trans f1.os,e3.trans f1.tape,e4.trans f1.output,by rw[e1];exact f1.size,fun k hk hc=>by rw[e1];exact f1.block k hk hc⟩
  exact FrB.setCells (o:=0) _ _ f2 (by rw[e1];exact hg1) (by show(63:TypeId)≠5;decide)
 have mixed:Tryz.prog.follows Departure.mixedOrders=true:=by kernel_rfl
 have hz2:¬ ((i:Int)=(n:Int)):=by omega
 unfold maxLen at hcm;have dg:IntKind.i64.wrap ((i:Int)+1)=(i:Int)+1:=by rw[IntKind.wrap_i64];omega
 have hb1:(0:Int)≤(i:Int)+1:=by omega
 have cu:i≤n:=by omega
 have df:((i:Int)+1).toNat=i+1:=by omega
 have hb2:¬ (cap=i+1):=by omega
 have hb3:(i:Int)≤(n:Int)+1:=by omega
 have hb4:¬ (cap=i):=by omega
 rw[←hW1] at ah;clear bg bh hsz hsp bc ba hg hcs bk hg1 aj h hl hbg he hv hW1 aw cur ac;go_enter Tryz.func217,Tryz.ntmps217;go_wp2_with (simp only[cj])
 go_region_law_o (refine step_copy_runI rfl _ _ 26 26 rfl _ _ (by simp[Act.eval,Act.put]) (by simp[Act.eval,Act.put]) (ah _ _ _) ?_)
 go_wp2_with (at_builtin;refine wpList_copy_runI _ rfl _ _ 26 26 rfl _ _ rfl rfl (au _ (fun _=>rfl) (fun _=>rfl) _ _) ?_)
 go_ret;exact⟨rfl,(ak _ (fun _=>rfl) rfl).out,(bl _ rfl rfl rfl rfl).out⟩
theorem TO {B b:Nat}(hb:B≤b):∀ (vs:List Value) (o:Nat){a w:World},Below B a w→Below B a (w.setCells b o vs)
 | [],_,_,_,h=>h
 | _::r,o,_,_,h=>TO hb r (o+1) (yL h hb)
theorem B9k (n:Nat):(Builtin.zeroCells (Value.agg #[.int .i64 0,.slice none 0 0,.slice none 0 0,.slice none 0 0]).cells n).size=n*4:=by
 simp[Builtin.zeroCells,Value.cells]
theorem C0i {l:List (VL β)}{a:VL β}(h:Row (ekV β) w base (.slice (some ⟨g,0,none⟩) n cap) l)(he:(ekV β).enc a = [x0,x1,x2,x3])(hv:w.heap[vb]?=some (.cells #[x0,x1,x2,x3] 63 (0,0)))
  (hi:i<n) (hroom:cap<n+1) (bn:(n+1)*80≤140737488355328) (hB:base≤w.heap.size) :
  Calls Tryz.prog 217 #[.slice (some ⟨g,0,none⟩) n cap,.int .i64 (i:Int),.slice (some ⟨vb,0,none⟩) 1 1] w fun e w'=>∃ G,e = .returned (.slice (some ⟨w.heap.size,0,none⟩) (n+1) G)∧Row (ekV β) w' base (.slice (some ⟨w.heap.size,0,none⟩) (n+1) G) (l.take i++[a]++l.drop i)∧zB w w':=by
 obtain⟨hl,hbg,fd,hcm,cur,hg,hsz⟩:=h.cur;have ee:=(zR hg)
 have ei:=(zR hv)
 obtain⟨i0,dh,hz0,hzs,hzb⟩:=info_parts (ekV β).info;replace hzs:i0.size=4:=hzs;replace hzb:i0.bytes=80:=hzb;have e4:(ekV β).size=4:=rfl;have bg:((ekV β).flat (l.take i)).length=i*4:=by rw[(ekV β).flat_len,vZ,hl,e4];omega
 have dg:((ekV β).flat (l.drop i)).length=(n-i)*4:=by rw[(ekV β).flat_len,vE,hl];rfl
 have bu:∀ j v,((ekV β).flat l)[j]?=some v→w.cell? ⟨g,j,none⟩=some v:=fun j v hj=>by
  obtain⟨y,h1,h2⟩:=(ekV β).flat_get hj;have:=h.cells h1 h2;rw[mT,gI] at this;exact this
 have hsp:(ekV β).flat l=(ekV β).flat (l.take i)++(ekV β).flat (l.drop i):=by rw[←(ekV β).flat_append,nX]
 have df:∀ j v,((ekV β).flat (l.take i))[j]?=some v→w.cell? ⟨g,j,none⟩=some v:=fun j v hj=>bu j v (by
  rw[hsp,gM (yG.1 hj).1];exact hj)
 have hcs:∀ j v,((ekV β).flat (l.drop i))[j]?=some v→w.cell? ⟨g,i*4+j,none⟩=some v:=fun j v hj=>bu _ v (by
  rw[hsp,gL (by omega),bg,kD];exact hj)
 have di:(n:Int)+1-(i:Int)=((n+1-i:Nat):Int):=by omega
 have hik:i+(n+1-i)=n+1:=by omega
 have hold:(Builtin.firstCells i0.size i (.slice (some ⟨g,0,none⟩) i cap)).run Tryz.prog w.drew = .ok ((ekV β).flat (l.take i)).toArray w.drew:=by
  rw[hzs];exact run_firstCells_some w.drew 4 i ⟨g,0,none⟩ i cap ((ekV β).flat (l.take i)) bg (fun j v hj=>by rw[xS,tU];exact df j v hj)
 obtain⟨G,hG⟩:∃ G,G=grownCap w (n+1) cap 63:=⟨_,rfl⟩
 obtain⟨ROW,ac⟩:∃ ROW:Array Value,ROW=((ekV β).flat (l.take i)).toArray++Builtin.zeroCells (Value.agg #[.int .i64 0,.slice none 0 0,.slice none 0 0,.slice none 0 0]).cells (n+1-i)++Builtin.zeroCells (Value.agg #[.int .i64 0,.slice none 0 0,.slice none 0 0,.slice none 0 0]).cells (G-(n+1)):=⟨_,rfl⟩
 have dl:∀ ty,(Builtin.append_ #[26,3] ty #[.slice (some ⟨g,0,none⟩) i cap,.int .i64 ((n:Int)+1-(i:Int))]).run Tryz.prog w = .ok (.slice (some ⟨w.heap.size,0,none⟩) (n+1) G) (w.drew.alloc (.cells ROW 63)):=fun ty=>by
  have h:=Lib.run_append_grow_zeros w 26 3 ty 63 i0 _ .i64 .i64 Tryz.underlying26 Tryz.underlying3 dh hz0 (some ⟨g,0,none⟩) i cap ((ekV β).flat (l.take i)) hold (n+1-i) (by omega) (by omega) (by omega) (by omega) (by rw[hzb];omega) (by rw[hzb,hik];exact growslice_fits hroom bn);rw[hik] at h;rw[di,ac,hG];exact h
 have dw:n+1≤G:=by rw[hG];exact grownCap_ge w _ _ _
 have ak:G≤maxLen:=by rw[hG];exact grownCap_le_maxLen w (n+1) cap _ (by unfold maxLen;omega)
 have cw:ROW.size=G*4:=by
  rw[ac,eK,eK,B9k,B9k,gF,bg];omega
 have cu:∀ j v,((ekV β).flat (l.take i))[j]?=some v→ROW[j]?=some v:=fun j v hj=>by
  have eh:=(yG.1 hj).1;rw[ac,Array.getElem?_append_left (by rw[eK,gF];omega),Array.getElem?_append_left (by rw[gF];exact eh)];simpa using hj
 obtain⟨W1,hW1⟩:∃ W1,W1=w.drew.alloc (.cells ROW 63):=⟨_,rfl⟩
 have au:W1.heap[w.heap.size]?=some (.cells ROW 63 (0,0)):=by rw[hW1];exact yM w.drew _
 have hb1:zB w W1:=by rw[hW1];exact((zH _ _).drew).alloc (zG _) _
 have bh:∀ j,j<G*4→(W1.cell? ⟨w.heap.size,j,none⟩).isSome=true:=fun j hj=>by
  rw[zL au j _ (jT (by omega))];rfl
 have dy:∀ j v,w.cell? ⟨g,j,none⟩=some v→W1.cell? ⟨g,j,none⟩=some v:=fun j v h=>zQ hb1 h
 have dm:∀ j v,([x0,x1,x2,x3]:List Value)[j]?=some v→W1.cell? ⟨vb,j,none⟩=some v:=fun j v hj=>zQ hb1 (zL hv j v (by simpa using hj))
 have aw:∀ (W:World),(∀ x,W.cell? x=W1.cell? x)→(∀ x,W.frozen? x=W1.frozen? x)→∀ ty dc,(Builtin.copy_ #[26,26] ty #[.slice (some ⟨w.heap.size,i*4,none⟩) (n+1-i) dc,.slice (some ⟨vb,0,none⟩) 1 1]).run Tryz.prog W = .ok (goInt 1) (W.setCells w.heap.size (i*4) [x0,x1,x2,x3]):=fun W ag bl ty dc=>
  YK (g:=w.heap.size) (o:=i*4) (dLen:=n+1-i) (sLen:=1) (m:=1) (by simp only[Nat.min_def];split <;> omega) rfl (fun j v hj=>by rw[xS,tU,ag];exact dm j v hj)
   (fun j hj=>by have hj:j<4:=hj;rw[ag];exact bh _ (by omega)) (fun j _=>by rw[bl];exact zJ au _)
   (fun v hv=>by rw[←he] at hv;exact(ekV β).one a v hv)
 obtain⟨W2,hW2⟩:∃ W2,W2=W1.setCells w.heap.size (i*4) [x0,x1,x2,x3]:=⟨_,rfl⟩
 obtain⟨aj,av,bc⟩:=eB [x0,x1,x2,x3] (i*4) W1 ROW au;rw[←hW2] at av;have hb2:zB w W2:=by rw[hW2];exact TO (zG _) _ _ hb1
 have bk:∀ j,j<G*4→(W2.cell? ⟨w.heap.size,j,none⟩).isSome=true:=fun j hj=>by
  rw[zL av j _ (jT (by omega))];rfl
 have ba:∀ (W:World),(∀ x,W.cell? x=W2.cell? x)→(∀ x,W.frozen? x=W2.frozen? x)→∀ ty dc sc,(Builtin.copy_ #[26,26] ty #[.slice (some ⟨w.heap.size,(i+1)*4,none⟩) (n-i) dc,.slice (some ⟨g,i*4,none⟩) (n-i) sc]).run Tryz.prog W = .ok (goInt ((n-i:Nat):Int)) (W.setCells w.heap.size ((i+1)*4) ((ekV β).flat (l.drop i))):=fun W ag bl ty dc sc=>
  YK (g:=w.heap.size) (o:=(i+1)*4) (dLen:=n-i) (sLen:=n-i) (m:=n-i) (by simp only[Nat.min_def];split <;> omega) dg (fun j v hj=>by rw[xS,ag];exact zQ hb2 (hcs j v hj))
   (fun j hj=>by rw[ag];exact bk _ (by omega)) (fun j _=>by rw[bl];exact zJ av _) (C1z _ _)
 have ah:∀ W:World,(∀ x,W.cell? x=W2.cell? x)→W.heap=W2.heap→Hid (Row (ekV β) (W.setCells w.heap.size ((i+1)*4) ((ekV β).flat (l.drop i))) base (.slice (some ⟨w.heap.size,0,none⟩) (n+1) G) (l.take i++[a]++l.drop i)):=fun W ag dz=>by
  obtain⟨dr,dx,cg⟩:=eB ((ekV β).flat (l.drop i)) ((i+1)*4) W aj (by rw[dz];exact av);refine D1f hB dx (by rw[cg,bc,cw,e4]) hl (by omega) dw ak ?_ ?_ ?_
  ·intro k y hk hy j u hu;have hj:j<4:=by have:=(yG.1 hu).1;rw[(ekV β).len] at this;exact this
   rw[e4,lW _ _ _ _ _ (fun _ _=>by left;show k*4+j<(i+1)*4;omega),ag,hW2,lW _ _ _ _ _ (fun _ _=>by left;show k*4+j<i*4;omega)];refine zL au _ _ (cu _ _ ?_);have:=(ekV β).flat_at (l.take i) k j y (by rw[oZ,zF hk];exact hy) hj;rw[e4] at this;rw[this];exact hu
  ·intro j u hu;rw[he] at hu;have hj:j<4:=(yG.1 hu).1;rw[e4,lW _ _ _ _ _ (fun _ _=>by left;show i*4+j<(i+1)*4;omega),ag,hW2];exact ZU (w:=W1) (g:=w.heap.size) (o:=i*4) (vs:=[x0,x1,x2,x3]) (fun j hj=>bh _ (by have hj:j<4:=hj;omega)) hu
  ·intro j u hu;rw[e4];exact ZU (w:=W) (g:=w.heap.size) (o:=(i+1)*4) (fun j hj=>by rw[ag];exact bk _ (by omega)) hu
 have cj:∀ W:World,W.heap=W2.heap→W.os=W2.os→W.tape=W2.tape→W.output=W2.output→Hid (zB w (W.setCells w.heap.size ((i+1)*4) ((ekV β).flat (l.drop i)))):=fun W e1 e2 e3 e4=>
  TO (zG _) _ _ ⟨e2.trans hb2.os,e3.trans hb2.tape,e4.trans hb2.output,by rw[e1];exact hb2.size,fun k hk=>by rw[e1];exact hb2.block k hk⟩
 have mixed:Tryz.prog.follows Departure.mixedOrders=true:=by kernel_rfl
 have hz2:¬ ((i:Int)=(n:Int)):=by omega
 have hz3:(cap:Int)<(n:Int)+1:=by omega
 unfold maxLen at hcm ak;have fh:IntKind.i64.wrap ((i:Int)+1)=(i:Int)+1:=by rw[IntKind.wrap_i64];omega
 have d9:(0:Int)≤(i:Int)+1:=by omega
 have ew:i≤n:=by omega
 have fe:((i:Int)+1).toNat=i+1:=by omega
 have hb3:(i:Int)≤(n:Int):=by omega
 have eo:¬ (G=i):=by omega
 have dv:¬ (G=i+1):=by omega
 have eu:¬ (cap=i):=by omega
 have hA:∀ ty dc,(Builtin.copy_ #[26,26] ty #[.slice (some ⟨w.heap.size,i*4,none⟩) (n+1-i) dc,.slice (some ⟨vb,0,none⟩) 1 1]).run Tryz.prog W1 = .ok (goInt 1) W2:=fun ty dc=>by rw[hW2];exact aw W1 (fun _=>rfl) (fun _=>rfl) ty dc
 have dt:=ba W2.drew (fun _=>rfl) (fun _=>rfl);have dn:=ah W2.drew (fun _=>rfl) rfl;have dp:=cj W2.drew rfl rfl rfl rfl;rw[←hW1] at dl;clear ah cj aw ba hW1 hW2;clear hsz hg hold ac hG cw cu au av bh bk dy dm hb1 hb2 df hcs bu hsp bg dg h hl hbg he hv di hik dh hz0 hzs hzb bc e4 ee ei cur aj ROW;go_enter Tryz.func217,Tryz.ntmps217;go_wp2_with (first
  | (at_builtin;refine Lib.wpList_append_run _ rfl _ _ _ _ rfl _ _ rfl rfl _ _ (dl _) ?_)
  | (at_builtin;refine wpList_copy_runI _ rfl _ _ 26 26 rfl _ _ rfl rfl (hA _ _) ?_))
 go_region_law_o (refine step_copy_runI rfl _ _ 26 26 rfl _ _ (by simp[Act.eval,Act.put]) (by simp[Act.eval,Act.put]) (dt _ _ _) ?_)
 go_wp2;go_ret;exact⟨G,rfl,dn.out,dp.out⟩
theorem D8f {ao:Option Addr}{l:List (VL β)}{a:VL β}(h:Row (ekV β) w base (.slice ao n cap) l)(he:(ekV β).enc a = [x0,x1,x2,x3])(hv:w.heap[vb]?=some (.cells #[x0,x1,x2,x3] 63 (0,0)))
  (ac:(Value.slice ao n cap).ownBlock≠some vb) (hi:i≤l.length) (hlen:(l.length+1)*80≤140737488355328) (hb:base≤w.heap.size) :
  Calls Tryz.prog 217 #[.slice ao n cap,.int .i64 (i:Int),.slice (some ⟨vb,0,none⟩) 1 1] w fun e w'=>∃ q:PV,e = .returned q.v∧(∀ k,q.v.ownBlock=some k→(Value.slice ao n cap).ownBlock=some k∨w.heap.size≤k)∧Row (ekV β) w' base q.v (l.take i++[a]++l.drop i)∧FrB (Value.slice ao n cap).ownBlock.toList w w':=by
 have hn:l.length=n:=by
  obtain⟨ag,cap',e⟩:=h.sH;cases e;rfl
 rw[hn] at hi hlen;by_cases he1:i=n
 ·subst he1;refine(C4z h he hv hlen hb).mono fun e w' ⟨q,h1,h2,h3,h4⟩=>⟨q,h1,h2,?_,h4⟩
  rw[uP (by omega),nC (by omega),tT];exact h3
 ·have hi':i<n:=by omega
  obtain⟨g,rfl⟩:∃ g,ao=some ⟨g,0,none⟩:=by
   rcases h.2 with⟨e,hn0⟩|⟨g,cap',cur,e,_⟩
   ·omega
   ·cases e;exact⟨g,rfl⟩
  by_cases hr:n+1≤cap
  ·exact(B7p h he hv (fun e=>ac (by rw[e];rfl)) hi' hr).mono fun e w' ⟨h1,h2,h3⟩=>⟨(some ⟨g,0,none⟩,n+1,cap),h1,fun k hk=>.inl hk,h2,h3⟩
  ·refine(C0i h he hv hi' (by omega) hlen hb).mono fun e w' ⟨G,h1,h2,h3⟩=>⟨(some ⟨w.heap.size,0,none⟩,n+1,G),h1,fun k hk=>.inr ?_,h2,.of_below h3⟩
   have hk:w.heap.size=k:=by simpa [PV.v,Value.ownBlock] using hk
   omega
theorem ZK (w:World)(o1 o2 o3 o4:Obj):((((w.alloc o1).alloc o2).alloc o3).alloc o4).heap[w.heap.size]?=some o1∧((((w.alloc o1).alloc o2).alloc o3).alloc o4).heap[w.heap.size+1]?=some o2∧((((w.alloc o1).alloc o2).alloc o3).alloc o4).heap[w.heap.size+2]?=some o3∧((((w.alloc o1).alloc o2).alloc o3).alloc o4).heap[w.heap.size+3]?=some o4∧((((w.alloc o1).alloc o2).alloc o3).alloc o4).heap.size=w.heap.size+4:=by
 have z1:(w.alloc o1).heap.size=w.heap.size+1:=by simp
 have z2:((w.alloc o1).alloc o2).heap.size=w.heap.size+2:=by simp
 have z3:(((w.alloc o1).alloc o2).alloc o3).heap.size=w.heap.size+3:=by simp
 refine⟨?_,?_,?_,?_,by simp⟩
 ·rw[wT _ _ _ (by omega),wT _ _ _ (by omega),wT _ _ _ (by omega)];exact yM w o1
 ·rw[wT _ _ _ (by omega),wT _ _ _ (by omega),←z1];exact yM _ o2
 ·rw[wT _ _ _ (by omega),←z2];exact yM _ o3
 rw[←z3];exact yM _ o4
abbrev OT (d:Nat):World→LB d→Prop:=fun _ _=>True
abbrev fT (d:Nat):LB d→List Nat:=fun _=>[]
def PT (d:Nat):World→Addr→BI d→Prop:=fun _ _ _=>True
theorem PT.sT (d:Nat):fJ (PT d):=fun _ _ _ _ _ _=>trivial
theorem OT.fr (d:Nat):∀ (F:List Nat) (w w':World) (b:LB d),OT d w b→FrB F w w'→(∀ k∈fT d b,k∉F)→OT d w' b:=fun _ _ _ _ _ _ _=>trivial
theorem OwnV.shy {O:World→LB d→Prop}{y:VL (LB d)}(h:OwnV (ekB d) O w base y):OwnV (ekB d) (OT d) w base y:=⟨h.r1,h.r2,h.r2y,h.r3,fun _ _=>trivial⟩
theorem OwnL.shy {O:World→LB d→Prop}{b:BL (LB d)}(h:OwnL (ekB d) O w base b):OwnL (ekB d) (OT d) w base b:=⟨h.r0,fun v hv=>(h.r0v v hv).shy,h.r1,h.r1y⟩
theorem OwnV.belowT {y:VL (LB d)}(h:OwnV (ekB d) (OT d) w base y)(hb:zB w w'):OwnV (ekB d) (OT d) w' base y:=OwnV.fr (F:=[]) (OT.fr d) h (.of_below hb) (fun _ _=>xP)
theorem OwnL.belowT {b:BL (LB d)}(h:OwnL (ekB d) (OT d) w base b)(hb:zB w w'):OwnL (ekB d) (OT d) w' base b:=OwnL.fr (F:=[]) (OT.fr d) h (.of_below hb) (fun _ _=>xP)
theorem OwnV.rdT {O:World→LB d→Prop}{y:VL (LB d)}(h:OwnV (ekB d) O w base y):RdL 2 (PT d) w y.p3.v (y.subs.map (LB.pl d)):=
 RdL.mapB (P:=fun _ (_:Addr) (_:LB d)=>True) _ (h.r3.rd _ fun _ _ _ _=>trivial) fun _ _ _ _=>trivial
theorem OwnL.rdT {O:World→LB d→Prop}{b:BL (LB d)}(h:OwnL (ekB d) O w base b):RdL 4 (VAt (PT d)) w b.q0.v (b.vals.map (VL.pl (LB.pl d))):=by
 refine RdL.mapB _ (h.r0.rd (fun w x (v:VL (LB d))=>w.cell? x=some (.int .i64 v.nU)∧w.cell? (x.add 1)=some v.p1.v∧w.cell? (x.add 2)=some v.p2.v∧w.cell? (x.add 3)=some v.p3.v) fun g i a hc=>?_) ?_
 ·exact Qe1
 rintro x v hv ⟨h0,h1,h2,h3⟩;have ho:=h.r0v v hv;exact⟨v.p1.v,v.p2.v,v.p3.v,h0,h1,h2,h3,ho.r1.rdU,ho.r2.rdZ ho.r2y,ho.rdT⟩
structure PutIn (d:Nat) (w:World) (base:Nat) (fs:List FI) (vf:Value) (b:BL (LB d)) (y:VL (LB d)):Prop where
 hf:RdL 6 FAt w vf fs
 fok:∀ f∈fs,I64 f.nU∧I64 f.cE
 fl:fs.length≤140737488355328
 hb:OwnL (ekB d) (OT d) w base b
 hy:OwnV (ekB d) (OT d) w base y
 apart:∀ k∈own1 b.q0,k∉own1 b.q1∧(∀ a∈b.vals,k∉VL.fp (fT d) a)∧k∉VL.fp (fT d) y
 num:∀ a∈b.vals,I64 a.nU
 len:(b.vals.length+1)*80≤140737488355328
 base:base≤w.heap.size
section
variable{x:FI}{fs:List FI}
variable {β:Type}
def sU (fs:List FI)(x:FI)(y:VI β):Bool→List (VI β)→List (VI β)
 | put,[]=>if put then [y] else []
 | put,a::l=>(if put&&decide (y.nU<a.nU) then [y] else [])++((if uX fs x a.nU then [] else [a])++sU fs x y (put&&!decide (y.nU<a.nU)) l)
theorem SE {fs:List FI}{x:FI}{y:VI β}:∀ l:List (VI β),sU fs x y false l=l.filter fun a=>!uX fs x a.nU
 | []=>rfl
 | a::l=>by
  unfold sU
  rw[Bool.false_and,Bool.false_and,SE l,jV]
  cases uX fs x a.nU <;> rfl
theorem D0c {y:VI β}{l:List (VI β)}(h:∀ a∈l,y.nU<a.nU):vW y.nU l=0:=by
 cases l with
 | nil=>rfl
 | cons a l=>
 unfold vW;rw[oW,zF (by simpa using h a (vF ..))];rfl
theorem C5u {y a:VI β}{l:List (VI β)}(h:¬ y.nU<a.nU):vW y.nU (a::l)=vW y.nU l+1:=by
 unfold vW;rw[oW,zC (by simpa using h)];cases l.findIdx? fun v=>decide (y.nU<v.nU) with
 | none=>rfl
 | some k=>rfl
theorem B4x {fs:List FI}{x:FI}{y:VI β}:∀ {l:List (VI β)},(l.Pairwise fun a b=>a.nU<b.nU)→
  sU fs x y true l=(l.filter fun a=>!uX fs x a.nU).take (vW y.nU (l.filter fun a=>!uX fs x a.nU))++[y]++(l.filter fun a=>!uX fs x a.nU).drop (vW y.nU (l.filter fun a=>!uX fs x a.nU))
 | [],_=>rfl
 | a::l,h=>by
  have h1:=(sP.1 h).1
  have h2:=(sP.1 h).2
  by_cases hlt:y.nU<a.nU
  ·have hall:∀ b∈(a::l).filter (fun a=>!uX fs x a.nU),y.nU<b.nU:=by
    intro b hb;rcases yY.1 (sC.1 hb).1 with rfl|hb
    ·exact hlt
    ·have:=h1 b hb;omega
   rw[D0c hall];unfold sU;rw[xU hlt,Bool.true_and,zF rfl,Bool.not_true,Bool.and_false,SE,jV];cases uX fs x a.nU <;> rfl
  ·unfold sU;rw[yC hlt,Bool.and_false,jS,Bool.and_true,B4x h2,jV];cases uX fs x a.nU with
   | true=>rfl
   | false=>
    simp only[jS,if_true,mS,if_false,tH];rw[C5u hlt,List.take_succ_cons,List.drop_succ_cons];rfl
theorem D1k {y:VI β}{l:List (VI β)}(h:l.Pairwise fun a b=>a.nU<b.nU):sU fs x y (!xQ x y) l=putN fs x l y:=by
 unfold putN;cases xQ x y with
 | true=>rw[zF rfl];exact SE l
 | false=>rw[zC (by simp)];exact B4x h
theorem D5t {y a:VI β}{l:List (VI β)}{k:Nat}(p:Bool)(h:l[k]?=some a):sU fs x y p (l.drop k)=(if p&&decide (y.nU<a.nU) then [y] else [])++((if uX fs x a.nU then [] else [a])++sU fs x y (p&&!decide (y.nU<a.nU)) (l.drop (k+1))):=by
 obtain⟨hk,rfl⟩:=yG.1 h;rw[uQ hk];rfl
theorem B9a {fs:List FI}{x:FI}{y:VI β}:∀ (p:Bool) (l:List (VI β)),(sU fs x y p l).length≤l.length+if p then 1 else 0
 | p,[]=>by cases p <;> simp[sU]
 | p,a::l=>by
  have:=B9a (fs:=fs) (x:=x) (y:=y) (p&&!decide (y.nU<a.nU)) l
  unfold sU
  revert this
  generalize decide (y.nU<a.nU)=D
  intro this
  cases p <;> cases D <;> cases uX fs x a.nU <;> simp at this ⊢ <;> omega
theorem D4w {n m:Int}(hx:fs.find? (isF n)=some x):uX fs x m=(decide (m=n)||(decide (0<x.cE)&&match fs.find? (fun f=>decide (f.nU=m)) with|some z=>decide (z.cE=x.cE)|none=>false)):=by
 have hn:=qI hx;unfold uX;by_cases hc:x.cE≤0
 ·rw[zF hc,hn,yC (by omega:¬ 0<x.cE),Bool.false_and,Bool.or_false]
 rw[zC hc,xU (by omega:0<x.cE),Bool.true_and];by_cases e:m=n
 ·subst e;have:fs.find? (fun f=>decide (f.nU=m))=some x:=hx;unfold wU;rw[this];simp
 rw[yC e,lU];unfold wU;cases fs.find? (fun f=>decide (f.nU=m)) with
 | none=>exact yC fun e=>by have e:(0:Int)=x.cE:=e;omega
 | some z=>rfl
end
variable{α β:Type}{a1 v1 v0 a3 nm a2 vb ub a0 ua va:Value}{k d g cap n:Nat}{u a w' V u' b w:World}{l:List FI}{F G:List Nat}{ao:Option Addr}{x:Addr}{t:TypeId}
def yI (k:Int):Int:=if k=6 then 1 else if k=7 then 5 else if k=8∨k=9∨k=10 then 2 else 0
def lC (m:MI):List Int:=(m.fD.map FI.nU).mergeSort fun x y=>decide (x≤y)
def E1z:FI:=⟨[],0,0,[],false,0⟩
def xE (l:List FI)(n:Int):FI:=(l.find? fun f=>decide (f.nU=n)).getD E1z
theorem D3s {n:Int}(h:∃ f∈l,f.nU=n):∃ k:Nat,yK (fun f=>decide (f.nU=n)) l=(k:Int)∧l[k]?=some (xE l n)∧(xE l n).nU=n∧xE l n∈l:=by
 unfold yK xE
 induction l with
 | nil=>obtain⟨f,hf,_⟩:=h;cases hf
 | cons a r ih=>
 by_cases ha:a.nU=n
 ·refine⟨0,?_,?_,?_,?_⟩ <;> simp[oW,ha]
 have h':∃ f∈r,f.nU=n:=by
  obtain⟨f,hf,hn⟩:=h;rcases yY.1 hf with rfl|hf
  ·exact absurd hn ha
  exact⟨f,hf,hn⟩
 obtain⟨k,h1,h2,h3,h4⟩:=ih h';have e:(a::r).find? (fun f=>decide (f.nU=n))=r.find? fun f=>decide (f.nU=n):=by simp[ha]
 rw[e];refine⟨k+1,?_,by simpa using h2,h3,wW _ h4⟩;rw[oW];simp only[ha,decide_false,mS,if_false];cases hx:r.findIdx? (fun f=>decide (f.nU=n)) with
 | none=>rw[hx] at h1;simp at h1
 | some j=>rw[hx] at h1;simp at h1 ⊢;omega
def rY {β:Type}(x:FI)(v:VI β):Bool:=
 if x.many=true∨0<x.cE∨x.kind=10 then false
 else decide (v.bits = [0])||decide (v.bytes = [[]])
theorem A8x {x:FI}{v:VI β}(h:x.many=false→yS v=1):rY x v=xQ x v:=by
 unfold rY xQ;by_cases c:x.many=true∨0<x.cE∨x.kind=10
 ·rw[zF c,zF c]
 rw[zC c,zC c,zC];have:x.many=false:=by
  cases hm:x.many with
  | false=>rfl
  | true=>exact absurd (.inl hm) c
 simp[h this]
theorem Qd1{P:Prop}(h:P:=by
 go_enter Tryz.func116,Tryz.ntmps116;go_wp2;go_ret;exact⟨by rw[HR.out];rfl,hb⟩):P:=h
theorem eX{P:Prop}(h:P:=by
 rcases ac with⟨rfl,b2,o2,ay,ny,cy,z,rfl,hz,hny,hcz⟩|⟨hn2,hd2⟩
 ·by_cases hz0:ny=0
  ·have e5:((ny:Int)==0)=true:=by simp;omega
   have HR:Hid (rY x v=true):=by
    show _=_;have:z = []:=uE (by omega);rw[HE.out,hz,this];simp
   clear hny hz hz0;exact Qd1
  have e5:((ny:Int)==0)=false:=by simp;omega
  have HR:Hid (rY x v=false):=by
   show _=_;rw[HE.out,ah,hz,lU];refine yC fun e=>hz0 ?_
   have:z = []:=by simpa using e
   rw[hny,this];rfl
  clear hny hz hz0;exact Qd1
 have e5:((n2:Int)==1)=false:=by simp;omega
 have HR:Hid (rY x v=false):=by
  show _=_;rw[HE.out,ah,hd2];rfl
 clear hn2;go_enter Tryz.func116,Tryz.ntmps116;go_wp2;go_ret;exact⟨by rw[HR.out];rfl,hb⟩):P:=h
theorem B4t {P:World→Addr→β→Prop}{bx ox:Nat}{x:FI}(hx:FAt w ⟨bx,ox,none⟩ x)(v:VI β){a1 a2 a3:Option Addr}{n1 n2 n3 c1 c2 c3:Nat}(h1:RdL 1 UAt w (.slice a1 n1 c1) v.bits)(h2:RdL 1 ZAt w (.slice a2 n2 c2) v.bytes) :
  Calls Tryz.prog 116 #[.pointer (some ⟨bx,ox,none⟩),.agg #[.int .i64 v.nU,.slice a1 n1 c1,.slice a2 n2 c2,.slice a3 n3 c3]] w fun e w'=>e = .returned (.bool (rY x v))∧zB w w':=by
 have hb:zB w (w.alloc (.cells #[.int .i64 v.nU,.slice a1 n1 c1,.slice a2 n2 c2,.slice a3 n3 c3] 63)):=(zH _ _).alloc (zG _) _;obtain⟨y0,y1,y2,y3,y4,y5⟩:=FAt.sT _ _ _ _ hb hx;rw[xS] at y1 y2 y3 y4 y5;have r1:=h1.bL UAt.sT hb;have r2:=h2.bL ZAt.sT hb;have l1:=h1.len.1;have l2:=h2.len.1;cases hm:x.many with
 | true=>
  have HR:Hid (rY x v=false):=by show _=_;unfold rY;rw[zF (.inl hm)]
  rw[hm] at y4;clear l1 l2 r1 r2;exact Qd1
 | false=>
 rw[hm] at y4;by_cases hc:0<x.cE
 ·have e1:=xU hc;have HR:Hid (rY x v=false):=by show _=_;unfold rY;rw[zF (.inr (.inl hc))]
  clear l1 l2 r1 r2 hc;exact Qd1
 have e1:=yC hc;by_cases hk:x.kind=10
 ·have e2:=beq_iff_eq.2 hk;have HR:Hid (rY x v=false):=by show _=_;unfold rY;rw[zF (.inr (.inr hk))]
  clear l1 l2 r1 r2 hc hk;exact Qd1
 have e2:=beq_eq_false_iff_ne.2 hk;have HE:Hid (rY x v=(decide (v.bits = [0])||decide (v.bytes = [[]]))):=by
  show _=_;unfold rY;rw[zC];rintro(h|h|h)
  ·rw[hm] at h;cases h
  ·exact hc h
  exact hk h
 clear hc hk;have ag:(n1=1∧∃ (b:Nat) (o u:Nat),a1=some ⟨b,o,none⟩∧v.bits = [u]∧(w.alloc (.cells #[.int .i64 v.nU,.slice a1 n1 c1,.slice a2 n2 c2,.slice a3 n3 c3] 63)).cell? ⟨b,o,none⟩=some (.int .u64 (u:Int)))∨(n1≠1∧decide (v.bits = [0])=false):=by
  by_cases h:n1=1
  ·left;obtain⟨u,hu⟩:=jR.1 (by rw[←l1];exact h:v.bits.length=1);obtain⟨b,o,e,hy⟩:=r1.get UAt.plain (k:=0) (a:=u) (by rw[hu];rfl);exact⟨h,b,o,u,e,hu,by simpa [UAt] using hy⟩
  refine .inr ⟨h,yC fun e=>h ?_⟩;rw[l1,e];rfl
 have ac:(n2=1∧∃ (b o:Nat) (ay:Option Addr) (ny cy:Nat) (z:List UInt8),a2=some ⟨b,o,none⟩∧v.bytes = [z]∧ny=z.length∧(w.alloc (.cells #[.int .i64 v.nU,.slice a1 n1 c1,.slice a2 n2 c2,.slice a3 n3 c3] 63)).cell? ⟨b,o,none⟩=some (.slice ay ny cy))∨(n2≠1∧decide (v.bytes = [[]])=false):=by
  by_cases h:n2=1
  ·left;obtain⟨z,hz⟩:=jR.1 (by rw[←l2];exact h:v.bytes.length=1);obtain⟨b,o,e,vy,ak,au⟩:=r2.get ZAt.plain (k:=0) (a:=z) (by rw[hz];rfl);obtain⟨ay,ny,cy,rfl,aj,_⟩:=au.sH;exact⟨h,b,o,ay,ny,cy,z,e,hz,aj.out,by simpa using ak⟩
  refine .inr ⟨h,yC fun e=>h ?_⟩;rw[l2,e];rfl
 clear l1 l2 r1 r2;rcases ag with⟨rfl,b1,o1,u,rfl,hu,hcu⟩|⟨hn1,ah⟩
 ·by_cases hu0:u=0
  ·subst hu0;have HR:Hid (rY x v=true):=by
    show _=_;rw[HE.out,hu];simp
   clear ac hu;exact Qd1
  have e4:((u:Int)==0)=false:=by simp;omega
  have ah:decide (v.bits = [0])=false:=yC fun e=>hu0 (by rw[hu] at e;simpa using e)
  clear hu hu0;exact eX
 have e3:((n1:Int)==1)=false:=by simp;omega
 clear hn1;exact eX
theorem YW (h:RdL 6 FAt w (.slice ao n cap) l)(aj:∃ ao n cap,vb = .slice ao n cap)(ah:∃ s:List UInt8,nm = .string (S s))(num:Int)(hno:∀ a∈l,decide (a.nU=num)=false) :
  Calls Tryz.prog 34 #[.agg #[nm,.slice ao n cap,vb],.int .i64 num] w fun e w'=>e = .returned (.pointer none)∧zB w w':=by
 obtain⟨_,_,_,e0,Hn,ag⟩:=h.sH;cases e0
 obtain⟨ae,ne,ce,rfl⟩:=aj;obtain⟨s,rfl⟩:=ah;obtain⟨W0,ac,hb0,x0,-⟩:=zV w (.cells #[.string (S s),.slice ao n cap,.slice ae ne ce] 35);obtain⟨t0,t1,t2⟩:=uG x0;go_enter Tryz.func34,Tryz.ntmps34;go_wp2_with fail
 rw[←ac.out];go_loopg [9] n (fun m i wr=>∃ k:Nat,k+m=n∧i = .int .i64 k∧W0=wr)
 case atStart=>exact⟨0,by omega,rfl,rfl⟩
 obtain⟨k,hk,rfl,rfl⟩:=hrel;by_cases hlt:k<n
 ·obtain⟨a,Ha⟩:=yE (l:=l) (k:=k) (by rw[←Hn.out];exact hlt);obtain⟨b',off',e',hat⟩:=(h.bL FAt.sT hb0).get FAt.plain Ha.out;subst e';obtain⟨s0,s1,s2,s3,s4,s5⟩:=hat.at;have ak:(k:Int)<(n:Int):=by omega
  clear hat;have au:(a.nU==num)=false:=by simpa using hno a (xV Ha.out)
  go_wp2_with fail
  go_roundg (n-(k+1))
  case measure=>omega
  case rel=>exact⟨k+1,by omega,by go_num,rfl⟩
 go_wp2;go_ret;exact⟨rfl,hb0⟩
theorem fR (h:RdL 6 FAt w (.slice ao n cap) l)(au:∃ ao n cap,vb = .slice ao n cap)(aj:∃ s:List UInt8,nm = .string (S s))(num:Int){j:Nat}{f:FI}(hj:l[j]?=some f)(hf:f.nU=num)(hno:∀ a∈l.take j,decide (a.nU=num)=false) :
  Calls Tryz.prog 34 #[.agg #[nm,.slice ao n cap,vb],.int .i64 num] w fun e w'=>(∃ b off,ao=some ⟨b,off,none⟩∧e = .returned (.pointer (some ⟨b,off+j*6,none⟩)))∧zB w w':=by
 obtain⟨_,_,_,e0,Hn,ah⟩:=h.sH;cases e0
 obtain⟨ae,ne,ce,rfl⟩:=au;obtain⟨s,rfl⟩:=aj;have av:j<n:=by rw[Hn.out];exact(yG.1 hj).1
 obtain⟨b,off,rfl,_⟩:=h.get FAt.plain hj;obtain⟨W0,ag,hb0,x0,-⟩:=zV w (.cells #[.string (S s),.slice (some ⟨b,off,none⟩) n cap,.slice ae ne ce] 35);obtain⟨t0,t1,t2⟩:=uG x0;go_enter Tryz.func34,Tryz.ntmps34;go_wp2_with fail
 rw[←ag.out];go_loopg [9] n (fun m i wr=>∃ k:Nat,k+m=n∧i = .int .i64 k∧k≤j∧W0=wr)
 case atStart=>exact⟨0,by omega,rfl,by omega,rfl⟩
 obtain⟨k,hk,rfl,hkj,rfl⟩:=hrel;have hlt:k<n:=by omega
 obtain⟨a,Ha⟩:=yE (l:=l) (k:=k) (by rw[←Hn.out];exact hlt);obtain⟨b',off',e',hat⟩:=(h.bL FAt.sT hb0).get FAt.plain Ha.out;cases e'
 obtain⟨s0,s1,s2,s3,s4,s5⟩:=hat.at;have aw:(k:Int)<(n:Int):=by omega
 clear hat;by_cases hkj':k=j
 ·subst hkj';have ac:a=f:=by have:=Ha.out.symm.trans hj;simpa using this
  have ak:(a.nU==num)=true:=by rw[ac];simpa using hf
  clear ac;go_wp2;go_ret;exact⟨⟨b,off,rfl,rfl⟩,hb0⟩
 have hq:=hno a (xV (i:=k) (by rw[oZ,zF (by omega)];exact Ha.out));have ak:(a.nU==num)=false:=by simpa using hq
 clear hq;go_wp2_with fail
 go_roundg (n-(k+1))
 case measure=>omega
 case rel=>exact⟨k+1,by omega,by go_num,by omega,rfl⟩
def Sub (u w:World):Prop:=∀ x v,u.cell? x=some v→w.cell? x=some v
theorem Sub.trans {c:World}(h:Sub a b)(k:Sub b c):Sub a c:=fun x v e=>k x v (h x v e)
theorem Sub.of (h:zB w w'):Sub w w':=fun _ _ e=>zQ h e
def E0w {α:Type}(P:World→Addr→α→Prop):Prop:=∀ (w w':World) (x:Addr) (a : α),Sub w w'→P w x a→P w' x a
theorem RdL.sub {sz:Nat}{P:World→Addr→α→Prop}(hP:E0w P){v:Value}{l:List α}(h:RdL sz P w v l)(hb:Sub w w'):RdL sz P w' v l:=by
 obtain⟨ao,n,cap,rfl,h1,h2,h3,h4,h5⟩:=h;exact⟨ao,n,cap,rfl,h1,h2,h3,h4,fun x hx k a ha=>hP w w' _ a hb (h5 x hx k a ha)⟩
theorem UAt.gW:E0w UAt:=fun _ _ _ _ hb h=>hb _ _ h
theorem YAt.gW:E0w YAt:=fun _ _ _ _ hb h=>hb _ _ h
theorem ZAt.gW:E0w ZAt:=fun _ _ _ _ hb ⟨v,h1,h2⟩=>⟨v,hb _ _ h1,h2.sub YAt.gW hb⟩
theorem RAt.gW:E0w RAt:=fun _ _ _ _ hb ⟨v,h1,h2,h3,h4,h5⟩=>⟨v,hb _ _ h1,hb _ _ h2,hb _ _ h3,hb _ _ h4,h5.sub YAt.gW hb⟩
theorem VAt.gW {P:World→Addr→β→Prop}(hP:E0w P):E0w (VAt P):=fun _ _ _ _ hb ⟨v1,v2,v3,h1,h2,h3,h4,h5,h6,h7⟩=>⟨v1,v2,v3,hb _ _ h1,hb _ _ h2,hb _ _ h3,hb _ _ h4,h5.sub UAt.gW hb,h6.sub ZAt.gW hb,h7.sub hP hb⟩
theorem BAt.gW:∀ d,E0w (BAt d)
 | 0=>fun _ _ _ _ _ h=>h
 | d+1=>fun _ _ _ _ hb ⟨v0,v1,h1,h2,h3,h4⟩=>⟨v0,v1,hb _ _ h1,hb _ _ h2,h3.sub (VAt.gW (BAt.gW d)) hb,h4.sub RAt.gW hb⟩
theorem BRd.sub {b:BO (BI d)}(h:BRd d w v0 v1 b)(hb:Sub w w'):BRd d w' v0 v1 b:=⟨h.1.sub (VAt.gW (BAt.gW d)) hb,h.2.sub RAt.gW hb⟩
structure Over (u w w' u':World):Prop where
 sub:Sub u u'
 new:∀ k,w.heap.size≤k→k<w'.heap.size→u'.heap[k]?=w'.heap[k]?
theorem Over.self (h:zB w w'):Over w w w' w':=⟨Sub.of h,fun _ _ _=>rfl⟩
theorem Row.over {E:EK α}{base:Nat}{v:Value}{l:List α}(h:Row E w' base v l)(ho:Over u w w' u')(hb:w.heap.size≤base):Row E u' base v l:=h.keep fun k hk hl=>ho.new k (yN hb hk) hl
theorem Over.back {v v':World}(h:Over u w w' u')(hv:w.heap.size≤v.heap.size)(hs:v'.heap.size≤w'.heap.size)(hb:∀ k,v.heap.size≤k→k<v'.heap.size→w'.heap[k]?=v'.heap[k]?):Over u v v' u':=
 ⟨h.sub,fun k h1 h2=>(h.new k (by omega) (by omega)).trans (hb k h1 h2)⟩
theorem BQ.at:∀ (d:Nat){w:World}{v0 v1:Value}{x:BI d}{g i:Nat},BQ d w v0 v1 x→w.cell? ⟨g,i,none⟩=some v0→w.cell? ⟨g,i+1,none⟩=some v1→BAt d w ⟨g,i,none⟩ x
 | 0,_,_,_,_,_,_,h,_,_=>h
 | _+1,_,_,_,_,_,_,h,h0,h1=>⟨_,_,h0,by rw[xS];exact h1,h.1,h.2⟩
theorem BQ.shapeT:∀ (d:Nat){w:World}{v0 v1:Value}{x:BI d},BQ d w v0 v1 x→∃ a0 n0 c0 a1 n1 c1,v0 = .slice a0 n0 c0∧v1 = .slice a1 n1 c1
 | 0,_,_,_,_,h=>h.elim
 | _+1,_,_,_,_,h=>BRd.sH h
theorem tQ (h:w.heap[g]?=some (.cells #[a0,a1,a2,a3] t (0,0))) :
  w.cell? ⟨g,0,none⟩=some a0∧w.cell? ⟨g,1,none⟩=some a1∧w.cell? ⟨g,2,none⟩=some a2∧w.cell? ⟨g,3,none⟩=some a3:=⟨zL h 0 _ rfl,zL h 1 _ rfl,zL h 2 _ rfl,zL h 3 _ rfl⟩
theorem C4r {x:List (VI β)}{n:Int}{v:VI β}(h:x[k]?=some v):(x.drop k).find? (fun v=>decide (v.nU=n))=if v.nU=n then some v else(x.drop (k+1)).find? fun v=>decide (v.nU=n):=by
 obtain⟨hk,rfl⟩:=yG.1 h;rw[uQ hk,List.find?_cons];by_cases e:(x[k]).nU=n <;> simp[e]
def D7o (d:Nat)(w:World)(r:Option (VI (BI d)))(e:Ending):Prop:=
 match r with
 | none=>∃ v,e = .returned (.tuple #[v,.bool false])∧v = .agg #[.int .i64 0,.slice none 0 0,.slice none 0 0,.slice none 0 0]
 | some v=>∃ a1 n1 c1 a2 n2 c2 a3 n3 c3,e = .returned (.tuple #[.agg #[.int .i64 v.nU,.slice a1 n1 c1,.slice a2 n2 c2,.slice a3 n3 c3],.bool true])∧RdL 1 UAt w (.slice a1 n1 c1) v.bits∧RdL 1 ZAt w (.slice a2 n2 c2) v.bytes∧RdL 2 (BAt d) w (.slice a3 n3 c3) v.subs
theorem B8o {x:List (VI (BI d))}(h:RdL 4 (VAt (BAt d)) u v0 x)(hu:Sub u w)(au:∃ ao n cap,v1 = .slice ao n cap)(num:Int) :
  Calls Tryz.prog 53 #[.agg #[v0,v1],.int .i64 num] w fun e w'=>D7o d u (x.find? fun v=>decide (v.nU=num)) e∧zB w w':=by
 obtain⟨ao,n,cap,rfl,Hn,aj⟩:=h.sH;obtain⟨ae,ne,ce,rfl⟩:=au;obtain⟨R,HR⟩:∃ R,Hid (x.find? (fun v=>decide (v.nU=num))=R):=⟨_,rfl⟩
 rw[HR.out];obtain⟨W0,ah,hb0,hz0,-,x1⟩:=uD w (.cells #[.slice ao n cap,.slice ae ne ce] 29) (.cells #[.int .i64 0,.slice none 0 0,.slice none 0 0,.slice none 0 0] 63);go_enter Tryz.func53,Tryz.ntmps53;go_wp2_with fail
 rw[←ah.out];go_loopg [11] n (fun m i wr=>∃ k:Nat,k+m=n∧i = .int .i64 k∧Hid ((x.drop k).find? (fun v=>decide (v.nU=num))=R)∧zB W0 wr)
 case atStart=>exact⟨0,by omega,rfl,HR,zH _ _⟩
 obtain⟨k,hk,rfl,HK,hb⟩:=hrel;have ac:=zP hb0 hb;have aw:=hb.size;have x2:=(zN hb).trans x1;by_cases hlt:k<n
 ·obtain⟨v,Hv⟩:=yE (l:=x) (k:=k) (by rw[←Hn.out];exact hlt);obtain⟨b,off,rfl,hat⟩:=h.get VAt.plain Hv.out;obtain⟨y1,y2,y3,z0,z1,z2,z3,r1,r2,r3⟩:=hat.at;obtain⟨b1,m1,d1,rfl,_,_⟩:=r1.sH;obtain⟨b2,m2,d2,rfl,_,_⟩:=r2.sH;obtain⟨b3,m3,d3,rfl,_,_⟩:=r3.sH;have z0:=zQ ac (hu _ _ z0);have z1:=zQ ac (hu _ _ z1);have z2:=zQ ac (hu _ _ z2);have z3:=zQ ac (hu _ _ z3);have av:(k:Int)<(n:Int):=by omega
  have HS:=C4r (n:=num) Hv.out;have hb1:zB wr (wr.alloc (.cells #[.int .i64 v.nU,.slice b1 m1 d1,.slice b2 m2 d2,.slice b3 m3 d3] 63)):=(zH _ _).alloc (zG _) _;clear hat;by_cases hq:v.nU=num
  ·have ak:(v.nU==num)=true:=by simpa using hq
   have HF:Hid (R=some v):=by show _=_;rw[←HK.out,HS,zF hq]
   have x3:=(zN hb1).trans x2;have f0:=zJ x3;obtain⟨q0,q1,q2,q3⟩:=tQ x3;clear hq HS;go_wp2_with fail
   refine bodyPost_ret (v:=.tuple #[.agg #[.int .i64 v.nU,.slice b1 m1 d1,.slice b2 m2 d2,.slice b3 m3 d3],.bool true]) (by simp[results,Tryz.results53,go_sem, *]) rfl ?_;refine⟨?_,yL (yL (yL (yL (zP ac hb1) (oU _)) (oU _)) (oU _)) (oU _)⟩;rw[HF.out];exact⟨_,_,_,_,_,_,_,_,_,rfl,r1,r2,r3⟩
  have ak:(v.nU==num)=false:=by simpa using hq
  have ag:Hid ((x.drop (k+1)).find? (fun v=>decide (v.nU=num))=R):=by show _=_;rw[←HK.out,HS,zC hq]
  clear hq HS;go_wp2_with fail
  go_roundg (n-(k+1))
  case measure=>omega
  case rel=>exact⟨k+1,by omega,by go_num,ag,zP hb hb1⟩
 have HF:Hid (R=none):=by
  show _=_;rw[←HK.out,nC (by rw[←Hn.out];omega)];rfl
 have f0:=zJ x2;obtain⟨q0,q1,q2,q3⟩:=tQ x2;go_wp2_with fail
 refine bodyPost_ret (v:=.tuple #[.agg #[.int .i64 0,.slice none 0 0,.slice none 0 0,.slice none 0 0],.bool false]) (by simp[results,Tryz.results53,go_sem, *]) rfl ?_;refine⟨?_,yL (yL (yL (yL ac (oU _)) (oU _)) (oU _)) (oU _)⟩;rw[HF.out];exact⟨_,rfl,rfl⟩
theorem kI{P:Prop}(h:P:=by
 go_enter Tryz.func150,Tryz.ntmps150;go_wp2;go_ret;exact⟨by rw[HR.out];rfl,rfl⟩):P:=h
theorem D0y (kind:Int)(n:Nat) :
  Calls Tryz.prog 150 #[.int .i64 kind,.int .u64 (n:Int)] w fun e w'=>e = .returned (.int .i64 (yU kind n))∧w=w':=by
 by_cases h5:kind=5
 ·subst h5;by_cases q1:n<2147483648
  ·have HR:Hid (yU 5 n=0):=by show _=_;unfold yU kQ;simp[q1]
   have e1:decide ((n:Int)≤2147483647)=true:=by simp;omega
   clear q1;exact kI
  have e1:decide ((n:Int)≤2147483647)=false:=by simp;omega
  by_cases q2:18446744071562067968≤n
  ·have HR:Hid (yU 5 n=0):=by show _=_;unfold yU kQ;simp[q2]
   have e2:decide (18446744071562067968≤(n:Int))=true:=by simp;omega
   clear q1 q2;exact kI
  have HR:Hid (yU 5 n=3):=by show _=_;unfold yU kQ;simp[q1,q2]
  have e2:decide (18446744071562067968≤(n:Int))=false:=by simp;omega
  clear q1 q2;exact kI
 by_cases h4:kind=4
 ·subst h4;by_cases q0:n=0
  ·subst q0;have HR:Hid (yU 4 0=0):=by show _=_;decide
   exact kI
  have e0:((n:Int)==0)=false:=by simp;omega
  by_cases q1:n=1
  ·subst q1;have HR:Hid (yU 4 1=0):=by show _=_;decide
   exact kI
  have e1:((n:Int)==1)=false:=by simp;omega
  have HR:Hid (yU 4 n=3):=by
   show _=_;unfold yU;rw[zC (by omega),zF rfl,zC (by omega)]
  clear q0 q1;exact kI
 by_cases h7:kind=7
 ·subst h7;by_cases hq:n≤4294967295
  ·have HR:Hid (yU 7 n=0):=by show _=_;unfold yU;simp[hq]
   have hq':decide ((n:Int)<4294967296)=true:=by simp;omega
   clear hq;exact kI
  have HR:Hid (yU 7 n=3):=by show _=_;unfold yU;simp[hq]
  have hq':decide ((n:Int)<4294967296)=false:=by simp;omega
  clear hq;exact kI
 by_cases h0:kind=1∨kind=2∨kind=3∨kind=6
 ·have HR:Hid (yU kind n=0):=by show _=_;unfold yU;rw[zF h0]
  clear h5 h4 h7;rcases h0 with rfl|rfl|rfl|rfl
  all_goals
   exact kI
 have HR:Hid (yU kind n=1):=by show _=_;unfold yU;rw[zC h0,zC h4,zC h5,zC h7]
 have e1:(kind==1)=false:=by simp;omega
 have e2:(kind==2)=false:=by simp;omega
 have e3:(kind==3)=false:=by simp;omega
 have e4:(kind==4)=false:=by simpa using h4
 have e5:(kind==5)=false:=by simpa using h5
 have e6:(kind==6)=false:=by simp;omega
 have e7:(kind==7)=false:=by simpa using h7
 clear h0 h4 h5 h7;exact kI
theorem fU {len:Nat}{l:List UInt8}(h:RdL 1 YAt w (.slice ao len cap) l):(convert 30 9 (.slice ao len cap)).run Tryz.prog w = .ok (.string ⟨l.toArray⟩) w:=by
 obtain⟨ac,n',cap',e,h1,h2,h3,h4,h5⟩:=h;cases e
 cases ao with
 | none=>
  have hc0:=(h4 rfl).1;have hm:l = []:=uE (by omega);subst hm;rw[run_convert_bytes_nil w 30 5 Tryz.underlying30 Tryz.underlying5 len cap 9 Tryz.underlying9];rfl
 | some x=>
 have hl:(loadCells x len).run Tryz.prog w = .ok ((l.map fun c=>((c.toNat:Nat):Int)).map (Value.int .u8)).toArray w:=by
  have:=run_loadCells_list (P:=Tryz.prog) w x ((l.map fun c=>((c.toNat:Nat):Int)).map (Value.int .u8)) (fun j v hj=>by
   rw[sE,sE] at hj;cases hc:l[j]? with
   | none=>rw[hc] at hj;cases hj
   | some c=>
   rw[hc] at hj;have:=h5 x rfl j c hc;rw[tS] at this;rw[show w.cell? (x.add j)=_ from this];exact hj)
  simpa [h1] using this
 rw[run_convert_bytes_string w 30 9 5 _ len cap Tryz.underlying30 Tryz.underlying5 Tryz.underlying9,run_bytesToString w _ len cap _ hl,foldl_push_bytes];have e:∀ l:List UInt8,(l.map fun c=>((c.toNat:Nat):Int)).map (fun n:Int=>UInt8.ofNat n.toNat)=l:=by
  intro l;rw[jQ]
  conv=>rhs;rw[←List.map_id l]
  apply List.map_congr_left;intro c _;simp
 rw[e];simp[ByteArray.empty,ByteArray.emptyWithCapacity];rfl
theorem gU{P:Prop}(h:P:=by
 clear HE;go_enter Tryz.func85,Tryz.ntmps85;go_wp2;go_ret;exact⟨oA HF.out.symm,fin _⟩):P:=h
theorem eW{P:Prop}(h:P:=by
 have HF:Hid (E=3):=by show _=_;rw[HE.out,yW,zC (mQ (by omega)),zC (by omega),zF (by omega)]
 exact gU):P:=h
theorem mF{P:Prop}(h:P:=by
 by_cases h1:0<len
 ·have HF:Hid (E=8):=by show _=_;rw[HE.out,yW,zC (mQ (by omega)),zC (by omega),zC (by omega),zC (by omega),zC (by omega),zF (by omega)]
  exact gU
 have HF:Hid (E=0):=by show _=_;rw[HE.out,yW,zC (mQ (by omega)),zC (by omega),zC (by omega),zC (by omega),zC (by omega),zC (by omega)]
 exact gU):P:=h
theorem B6r (num how:Int)(bits:Nat)(ao:Option Addr)(len cap:Nat)(w:World)(ac:len≤9223372036854775807) :
  Calls Tryz.prog 85 #[.agg #[.int .i64 num,.int .i64 how,.int .u64 (bits:Int),.slice ao len cap]] w fun e w'=>e = .returned (.int .i64 (yW num how bits len))∧zB w w':=by
 have fin:∀ (o:Obj),zB w (w.alloc o):=fun o=>(zH _ _).alloc (zG _) o
 obtain⟨E,HE⟩:=zM (yW num how bits len);rw[←HE.out];by_cases hk:how=0∨how=1∨how=2∨how=5
 ·rcases hk with rfl|rfl|rfl|rfl
  ·by_cases h3:num<1
   ·exact eW
   by_cases h2:536870912≤num
   ·exact eW
   exact mF
  ·by_cases h3:num<1
   ·exact eW
   by_cases h2:536870912≤num
   ·exact eW
   exact mF
  ·by_cases h4:4000<len
   ·have HF:Hid (E=4):=by show _=_;rw[HE.out,yW,zC (mQ (by omega)),zF (by omega)]
    exact gU
   by_cases h3:num<1
   ·exact eW
   by_cases h2:536870912≤num
   ·exact eW
   by_cases h1:0<bits
   ·have HF:Hid (E=8):=by show _=_;rw[HE.out,yW,zC (mQ (by omega)),zC (by omega),zC (by omega),zC (by omega),zF (by omega)]
    exact gU
   have HF:Hid (E=0):=by show _=_;rw[HE.out,yW,zC (mQ (by omega)),zC (by omega),zC (by omega),zC (by omega),zC (by omega),zC (by omega)]
   exact gU
  by_cases h3:num<1
  ·exact eW
  by_cases h2:536870912≤num
  ·exact eW
  by_cases h5:4294967295<bits
  ·have HF:Hid (E=3):=by show _=_;rw[HE.out,yW,zC (mQ (by omega)),zC (by omega),zC (by omega),zF (by omega)]
   exact gU
  exact mF
 have HF:Hid (E=1):=by show _=_;rw[HE.out,B5a (iT hk).symm]
 have b0:(how==0)=false:=by simp;omega
 have b1:(how==1)=false:=by simp;omega
 have b2:(how==2)=false:=by simp;omega
 have b5:(how==5)=false:=by simp;omega
 have c0:(how != 0)=true:=by simp;omega
 have c1:(how != 1)=true:=by simp;omega
 have c2:(how != 2)=true:=by simp;omega
 have c5:(how != 5)=true:=by simp;omega
 clear HE hk;go_enter Tryz.func85,Tryz.ntmps85;go_wp2;go_ret;exact⟨oA HF.out.symm,fin _⟩
structure OverF (F:List Nat) (u w w' u':World):Prop where
 sub:Sub u u'
 new:∀ k,w.heap.size≤k→k<w'.heap.size→k∉F→u'.heap[k]?=w'.heap[k]?
theorem OverF.of (h:Over u w w' u'):OverF F u w w' u':=⟨h.sub,fun k h1 h2 _=>h.new k h1 h2⟩
theorem OverF.back {v:World}(h:OverF G u w w' u')(hs:v.heap.size≤w'.heap.size)(hb:∀ k,w.heap.size≤k→k<v.heap.size→k∉F→k∉G∧w'.heap[k]?=v.heap[k]?):OverF F u w v u':=
 ⟨h.sub,fun k h1 h2 h3=>(h.new k h1 (by omega) (hb k h1 h2 h3).1).trans (hb k h1 h2 h3).2⟩
def tL (u w:World)(F:List Nat)(V:World):World:={ V with heap:=V.heap.mapIdx fun k o=>if k<w.heap.size then(u.heap[k]?).getD (.cells #[] 0 (0,0)) else if k∈F then .cells #[] 0 (0,0) else o }
theorem iW (h:w.heap.size≤k)(hF:k∉F):(tL u w F V).heap[k]?=V.heap[k]?:=by
 unfold tL;rw[Array.getElem?_mapIdx];cases V.heap[k]? with
 | none=>rfl
 | some o=>simp[hF,Nat.not_lt.2 h]
theorem C2s (h:k<w.heap.size)(hV:k<V.heap.size):(tL u w F V).heap[k]?=some ((u.heap[k]?).getD (.cells #[] 0 (0,0))):=by
 unfold tL;rw[Array.getElem?_mapIdx,jT hV];simp[h]
theorem D4z (h:w.heap.size≤k)(hF:k∈F)(hx:x.block=k):(tL u w F V).cell? x=none:=by
 unfold World.cell? tL;rw[hx,Array.getElem?_mapIdx];cases V.heap[k]? with
 | none=>rfl
 | some o=>simp[hF,Nat.not_lt.2 h]
theorem B8k (hV:w.heap.size≤V.heap.size){v:Value}(h:(tL u w F V).cell? x=some v):u.cell? x=some v∨(w.heap.size≤x.block∧x.block<V.heap.size∧x.block∉F∧V.cell? x=some v):=by
 by_cases h1:x.block<w.heap.size
 ·left;unfold World.cell? at h ⊢;rw[C2s h1 (by omega)] at h;cases e:u.heap[x.block]? with
  | none=>rw[e] at h;simp at h
  | some o=>rw[e] at h;exact h
 right;by_cases h2:x.block∈F
 ·rw[D4z (by omega) h2 rfl] at h;cases h
 have h3:(tL u w F V).heap[x.block]?=V.heap[x.block]?:=iW (by omega) h2;have h4:V.cell? x=some v:=by
  unfold World.cell? at h ⊢;rw[h3] at h;exact h
 exact⟨by omega,mD V x h4,h2,h4⟩
theorem B5j {v:Value}(e:b.heap[x.block]?=a.heap[x.block]?)(h:a.cell? x=some v):b.cell? x=some v:=by
 unfold World.cell? at h ⊢;rw[e];exact h
theorem kZ (hu:Sub u w)(hV:zB w V):Sub (tL u w F V) V:=by
 intro x v h;rcases B8k hV.size h with h|⟨_,_,_,h⟩
 ·exact zQ hV (hu _ _ h)
 exact h
theorem cI (hu:Sub u w)(hV:w.heap.size≤V.heap.size):OverF F u w V (tL u w F V):=by
 refine⟨fun x v h=>?_,fun k h1 _ h3=>iW h1 h3⟩;have hb:=mD w x (hu _ _ h);unfold World.cell? at h ⊢;rw[C2s hb (by omega)];cases e:u.heap[x.block]? with
 | none=>rw[e] at h;simp at h
 | some o=>rw[e] at h;exact h
theorem dO (h:OverF G u w w' u')(hw:w.heap.size≤V.heap.size)(hs:V.heap.size≤w'.heap.size)(hb:∀ k,w.heap.size≤k→k<V.heap.size→k∉F→k∉G∧w'.heap[k]?=V.heap[k]?):Sub (tL u w F V) u':=by
 intro x v hx;rcases B8k hw hx with hx|⟨h1,h2,h3,hx⟩
 ·exact h.sub _ _ hx
 exact B5j ((h.new _ h1 (by omega) (hb _ h1 h2 h3).1).trans (hb _ h1 h2 h3).2) hx
theorem SH (B:Nat)(w:World):Below B w (w.drewN n):=⟨rfl,rfl,rfl,zG _,fun _ _=>rfl⟩
theorem XB {v:Value}{l:List UInt8}(h:RdL 1 YAt w v l)(n:Nat):RdL 1 YAt (w.drewN n) v l:=h
theorem D0u {rs:List RI}(ha:RdL 4 RAt w va rs)(hb:RdL 4 RAt w vb rs) :
  Calls Tryz.prog 23 #[va,vb] w fun e w'=>e = .returned (.bool true)∧zB w w':=by
 obtain⟨ao,n,ca,rfl,Ha,bc⟩:=ha.sH;obtain⟨bo,n',cb,rfl,Hb,_⟩:=hb.sH;obtain rfl:n=n':=by rw[Ha.out,Hb.out]
 go_enter Tryz.func23,Tryz.ntmps23;go_wp2_with fail
 go_loopg [13] n (fun m i wr=>∃ (k d:Nat),k+m=n∧i = .int .i64 (k:Int)∧wr=w.drewN d)
 case atStart=>exact⟨0,0,by omega,rfl,rfl⟩
 obtain⟨k,d,hk,rfl,rfl⟩:=hrel;by_cases hlt:k<n
 ·obtain⟨r,Hr⟩:=yE (l:=rs) (k:=k) (by rw[←Ha.out];exact hlt);obtain⟨b,off,rfl,hat⟩:=ha.get RAt.plain Hr.out;obtain⟨b',off',rfl,hat'⟩:=hb.get RAt.plain Hr.out;obtain⟨v1,c0,c1,c2,c3,aj⟩:=hat.at;obtain⟨v2,d0,d1,d2,d3,ac⟩:=hat'.at;obtain⟨av,ak,ag,rfl,_,_⟩:=aj.sH;obtain⟨aw,au,ah,rfl,_,_⟩:=ac.sH;have s1:∀ n,(convert 30 9 (.slice av ak ag)).run Tryz.prog (w.drewN n) = .ok (.string ⟨r.bytes.toArray⟩) (w.drewN n):=fun n=>fU (XB aj n)
  have s2:∀ n,(convert 30 9 (.slice aw au ah)).run Tryz.prog (w.drewN n) = .ok (.string ⟨r.bytes.toArray⟩) (w.drewN n):=fun n=>fU (XB ac n)
  have ba:(k:Int)<(n:Int):=by omega
  clear aj ac ha hb hat hat';go_wp2_with fail
  go_quiet (fail);go_wp2_with fail
  go_roundg (n-(k+1))
  case measure=>omega
  case rel=>exact⟨k+1,_,by omega,by go_num,rfl⟩
 go_wp2;go_ret;exact⟨rfl,SH _ _⟩
theorem fH (h:w.heap[g]?=some (.cells #[a0,a1,a2,a3] t (0,0))) :
  w.cell? ⟨g,0,none⟩=some a0∧w.cell? ⟨g,1,none⟩=some a1∧w.cell? ⟨g,2,none⟩=some a2∧w.cell? ⟨g,3,none⟩=some a3:=
 ⟨zL h 0 _ rfl,zL h 1 _ rfl,zL h 2 _ rfl,zL h 3 _ rfl⟩
theorem E1r {W V':World}(h:zB W V)(k:zB V V'):zB W V':=h.trans (k.mono h.size)
def C7f (d:Nat):Prop:=∀ (s:BI d) (w:World) (b1 o1 b2 o2:Nat),BAt d w ⟨b1,o1,none⟩ s→BAt d w ⟨b2,o2,none⟩ s→
 ∃ (x0 x1 y0 y1:Option Addr) (n0 n1 m0 m1 c0 c1 e0 e1:Nat),w.cell? ⟨b1,o1,none⟩=some (.slice x0 n0 c0)∧w.cell? ⟨b1,o1+1,none⟩=some (.slice x1 n1 c1)∧w.cell? ⟨b2,o2,none⟩=some (.slice y0 m0 e0)∧w.cell? ⟨b2,o2+1,none⟩=some (.slice y1 m1 e1)∧
  ∀ V,zB w V→Calls Tryz.prog 12 #[.agg #[.slice x0 n0 c0,.slice x1 n1 c1],.agg #[.slice y0 m0 e0,.slice y1 m1 e1]] V fun e w'=>e = .returned (.bool true)∧zB V w'
theorem B8z (cu:C7f d){b:BO (BI d)}(h1:BRd d w va ua b)(h2:BRd d w vb ub b) :
  Calls Tryz.prog 12 #[.agg #[va,ua],.agg #[vb,ub]] w fun e w'=>e = .returned (.bool true)∧zB w w':=by
 obtain⟨aa,n,ca,rfl,d9,i7⟩:=h1.1.sH;obtain⟨ab,n',cb,rfl,fq,_⟩:=h2.1.sH;obtain⟨ea,ne,ga,rfl,fj,ie⟩:=h1.2.sH;obtain⟨eb,il,gb,rfl,fk,_⟩:=h2.2.sH;obtain rfl:n=n':=by rw[d9.out,fq.out]
 obtain rfl:ne=il:=by rw[fj.out,fk.out]
 obtain⟨W0,dy,bk,hz0,hx1,hx2⟩:=uD w (.cells #[.slice aa n ca,.slice ea ne ga] 29) (.cells #[.slice ab n cb,.slice eb ne gb] 29);have fh:=D0u (h1.2.bL RAt.sT bk) (h2.2.bL RAt.sT bk);go_enter Tryz.func12,Tryz.ntmps12;go_wp2_with fail
 rw[←dy.out];refine fh.mono ?_;rintro e w1 ⟨rfl,hb1⟩;clear fh;have y1:=(hb1.block w.heap.size (by omega)).trans hx1;have y2:=(hb1.block (w.heap.size+1) (by omega)).trans hx2;obtain⟨dt,dv⟩:=zO y1;obtain⟨dw,dx⟩:=zO y2;go_wp2_with fail
 clear dt dv dw dx y1 y2;go_loopg [29] n (fun m i wr=>∃ k:Nat,k+m=n∧i = .int .i64 k∧Below (w.heap.size+2) W0 wr)
 case atStart=>exact⟨0,by omega,rfl,hb1.mono (by omega)⟩
 clear hb1;obtain⟨k,hk,rfl,hb⟩:=hrel;obtain⟨wo,fz⟩:∃ wo,wo=wr:=⟨_,rfl⟩
 subst fz;have bl:=bk.trans (hb.mono (by omega));have fd:=h1.bL bl;have hf2:=h2.bL bl;have y1:=(hb.block w.heap.size (by omega)).trans hx1;have y2:=(hb.block (w.heap.size+1) (by omega)).trans hx2;obtain⟨dt,dv⟩:=zO y1;obtain⟨dw,dx⟩:=zO y2;have ig:w.heap.size+2≤wo.heap.size:=by have:=hb.size;omega
 by_cases hlt:k<n
 ·obtain⟨vv,Hp⟩:=yE (l:=b.vals) (k:=k) (by rw[←d9.out];exact hlt);obtain⟨g1,o1,rfl,av⟩:=fd.1.get VAt.plain Hp.out;obtain⟨g2,o2,rfl,aw⟩:=hf2.1.get VAt.plain Hp.out;obtain⟨p1,p2,p3,e0,e1,e2,e3,cw,df,dg⟩:=av.at;obtain⟨q1,q2,q3,t0,t1,t2,t3,dh,di,dl⟩:=aw.at;obtain⟨gg,m1,c11,rfl,ee,iz⟩:=cw.sH;obtain⟨gh,m2,c12,rfl,eh,i5⟩:=df.sH;obtain⟨gi,m3,c13,rfl,ei,i6⟩:=dg.sH;obtain⟨a21,ii,gp,rfl,f6,_⟩:=dh.sH;obtain⟨a22,ij,gq,rfl,f9,_⟩:=di.sH;obtain⟨a23,ik,eo,rfl,gc,_⟩:=dl.sH;obtain rfl:m1=ii:=by rw[ee.out,f6.out]
  obtain rfl:m2=ij:=by rw[eh.out,f9.out]
  obtain rfl:m3=ik:=by rw[ei.out,gc.out]
  have iy:(k:Int)<(n:Int):=by omega
  have z0:w.heap.size<wo.heap.size:=by omega
  have z1:w.heap.size+1<wo.heap.size:=by omega
  have z2:=mD wo _ t0;clear av aw fd hf2 y1 y2;obtain⟨W1,dz,au,hz1,v1,v2⟩:=uD wo (.cells #[.int .i64 vv.nU,.slice gg m1 c11,.slice gh m2 c12,.slice gi m3 c13] 63) (.cells #[.int .i64 vv.nU,.slice a21 m1 gp,.slice a22 m2 gq,.slice a23 m3 eo] 63);go_wp2_with fail
  rw[←dz.out];clear dt dv dw dx e0 e1 e2 e3 t0 t1 t2 t3;go_loopg [74] m1 (fun m i wi=>∃ j:Nat,j+m=m1∧i = .int .i64 j∧Below (wo.heap.size+2) W1 wi)
  case atStart=>exact⟨0,by omega,rfl,zH _ _⟩
  obtain⟨j,hj,rfl,aj⟩:=hrel;have cg:=au.trans (aj.mono (by omega));obtain⟨_,ba,bc,ag⟩:=fH ((aj.block wo.heap.size (by omega)).trans v1);obtain⟨_,bg,bh,ah⟩:=fH ((aj.block (wo.heap.size+1) (by omega)).trans v2);by_cases hjl:j<m1
  ·obtain⟨f,Hf⟩:=yE (l:=vv.bits) (k:=j) (by rw[←ee.out];exact hjl);obtain⟨gz,ip,rfl,u1⟩:=(cw.bL UAt.sT cg).get UAt.plain Hf.out;obtain⟨g7,iq,rfl,u2⟩:=(dh.bL UAt.sT cg).get UAt.plain Hf.out;have s0:wr.cell? ⟨gz,ip+j,none⟩=some (.int .u64 (f:Int)):=by simpa [UAt] using u1
   have p0:wr.cell? ⟨g7,iq+j,none⟩=some (.int .u64 (f:Int)):=by simpa [UAt] using u2
   have fe:(j:Int)<(m1:Int):=by omega
   clear u1 u2;go_wp2_with fail
   go_quiet (fail);go_wp2_with fail
   go_roundg (m1-(j+1))
   case measure=>omega
   case rel=>exact⟨j+1,by omega,by go_num,aj.trans (SH _ _)⟩
  go_wp2_with fail
  obtain⟨wi,fu⟩:∃ wi,wi=wr:=⟨_,rfl⟩
  subst fu;clear ba bc ag bg bh ah cg;go_loopg [92] m2 (fun m i wj=>∃ j:Nat,j+m=m2∧i = .int .i64 j∧Below (wo.heap.size+2) W1 wj)
  case atStart=>exact⟨0,by omega,rfl,aj⟩
  clear aj;obtain⟨j2,iw,rfl,ak⟩:=hrel;have cj:=au.trans (ak.mono (by omega));obtain⟨_,ba,bc,ag⟩:=fH ((ak.block wo.heap.size (by omega)).trans v1);obtain⟨_,bg,bh,ah⟩:=fH ((ak.block (wo.heap.size+1) (by omega)).trans v2);by_cases hjl2:j2<m2
  ·obtain⟨y,Hy⟩:=yE (l:=vv.bytes) (k:=j2) (by rw[←eh.out];exact hjl2);obtain⟨ir,ja,rfl,u1⟩:=(df.bL ZAt.sT cj).get ZAt.plain Hy.out;obtain⟨iu,jb,rfl,u2⟩:=(di.bL ZAt.sT cj).get ZAt.plain Hy.out;obtain⟨f1,u1,dm⟩:=u1.at;obtain⟨f2,u2,dn⟩:=u2.at;obtain⟨gj,im,gu,rfl,_,_⟩:=dm.sH;obtain⟨gl,io,gw,rfl,_,_⟩:=dn.sH;rw[tS] at u1 u2;have s1:∀ n,(convert 30 9 (.slice gj im gu)).run Tryz.prog (wr.drewN n) = .ok (.string ⟨y.toArray⟩) (wr.drewN n):=fun n=>fU (XB dm n)
   have s2:∀ n,(convert 30 9 (.slice gl io gw)).run Tryz.prog (wr.drewN n) = .ok (.string ⟨y.toArray⟩) (wr.drewN n):=fun n=>fU (XB dn n)
   have fe:(j2:Int)<(m2:Int):=by omega
   clear dm dn;go_wp2_with fail
   go_quiet (fail);go_wp2_with fail
   go_roundg (m2-(j2+1))
   case measure=>omega
   case rel=>exact⟨j2+1,by omega,by go_num,ak.trans (SH _ _)⟩
  go_wp2_with fail
  obtain⟨wj,fw⟩:∃ wj,wj=wr:=⟨_,rfl⟩
  subst fw;clear ba bc ag bg bh ah cj;go_loopg [112] m3 (fun m i wj=>∃ j:Nat,j+m=m3∧i = .int .i64 j∧Below (wo.heap.size+2) W1 wj)
  case atStart=>exact⟨0,by omega,rfl,ak⟩
  clear ak;obtain⟨j3,ix,rfl,hbl⟩:=hrel;obtain⟨wl,fy⟩:∃ wl,wl=wr:=⟨_,rfl⟩
  subst fy;have hBl:=au.trans (hbl.mono (by omega));obtain⟨_,ba,bc,ag⟩:=fH ((hbl.block wo.heap.size (by omega)).trans v1);obtain⟨_,bg,bh,ah⟩:=fH ((hbl.block (wo.heap.size+1) (by omega)).trans v2);by_cases hjl3:j3<m3
  ·obtain⟨s,Hs⟩:=yE (l:=vv.subs) (k:=j3) (by rw[←ei.out];exact hjl3);obtain⟨bn,os1,rfl,u1⟩:=(dg.bL (BAt.sT d) hBl).get (BAt.plain d) Hs.out;obtain⟨bu,os2,rfl,u2⟩:=(dl.bL (BAt.sT d) hBl).get (BAt.plain d) Hs.out;obtain⟨i0,i1,l0,l1,n0,n1,q0,q1,c0,c1,f0,f1,s0,s1,p0,p1,ac⟩:=cu s wl _ _ _ _ u1 u2;have fe:(j3:Int)<(m3:Int):=by omega
   have ew:=fun V (hV:zB wl V)=>yH hV (yH (zQ hV ag) (yH (zQ hV ah) (yH (zQ hV s0) (yH (zQ hV s1) (yH (zQ hV p0) (zQ hV p1))))))
   clear u1 u2 ba bc bg bh;go_wp2_with fail
   go_cut [112,126] from 112 to 127 (fun dp dr wc=>dp = .int .i64 j3∧dr = .bool false∧zB wl wc)
   case first=>
    clear h1 h2 dy bk hx1 hx2 dz au v1 v2 cw df dg dh di dl hBl bl hb hbl ag ah s0 s1 p0 p1;go_region_held3 (fun V=>zB wl V∧V.cell? ⟨wo.heap.size,3,none⟩=some (.slice (some ⟨bn,os1,none⟩) m3 c13)∧V.cell? ⟨wo.heap.size+1,3,none⟩=some (.slice (some ⟨bu,os2,none⟩) m3 eo)∧V.cell? ⟨bn,os1+j3*2,none⟩=some (.slice i0 n0 c0)∧V.cell? ⟨bn,os1+j3*2+1,none⟩=some (.slice i1 n1 c1)∧V.cell? ⟨bu,os2+j3*2,none⟩=some (.slice l0 q0 f0)∧V.cell? ⟨bu,os2+j3*2+1,none⟩=some (.slice l1 q1 f1)) ((refine ew _ ?_;first|exact(zH _ _).drew|exact eu)) ((go_at_call 12;go_split_ands;refine(ac _ (by assumption)).mono ?_;rintro e wn ⟨rfl,g9⟩;have eu:=E1r (by assumption) g9))
    all_goals go_wp2_with fail
    all_goals go_meet
    all_goals exact⟨rfl,rfl,eu⟩
   obtain⟨rfl,rfl,g8⟩:=hcut;have i9:=hbl.size;clear ew ac s0 s1 p0 p1 ag ah;go_wp2_with fail
   go_roundg (m3-(j3+1))
   case measure=>omega
   case rel=>exact⟨j3+1,by omega,by go_num,hbl.trans (g8.mono (by omega))⟩
  go_wp2_with fail
  go_roundg (n-(k+1))
  case measure=>omega
  case rel=>exact⟨k+1,by omega,by go_num,hb.trans ((au.mono ig).trans (hbl.mono (by omega)))⟩
 go_wp2;go_ret;exact⟨rfl,bl⟩
theorem D1r:∀ d,C7f d
 | 0=>fun s=>s.elim
 | d+1=>fun s w b1 o1 b2 o2 h1 h2=>by
  obtain⟨v0,v1,e0,e1,r1⟩:=BAt.at h1
  obtain⟨u0,u1,t0,t1,r2⟩:=BAt.at h2
  obtain⟨x0,n0,c0,rfl,_,_⟩:=r1.1.sH
  obtain⟨x1,n1,c1,rfl,_,_⟩:=r1.2.sH
  obtain⟨y0,m0,f0,rfl,_,_⟩:=r2.1.sH
  obtain⟨y1,m1,f1,rfl,_,_⟩:=r2.2.sH
  exact⟨x0,x1,y0,y1,n0,n1,m0,m1,c0,c1,f0,f1,e0,e1,t0,t1,fun V hV=>B8z (D1r d) (r1.bL hV) (r2.bL hV)⟩
theorem C7o {b:BO (BI d)}(h1:BRd d w va ua b)(h2:BRd d w vb ub b) :
  Calls Tryz.prog 12 #[.agg #[va,ua],.agg #[vb,ub]] w fun e w'=>e = .returned (.bool true)∧zB w w':=B8z (D1r d) h1 h2
theorem vI {w:World}{g:Nat}{a0 a1 a2 a3:Value}{t:TypeId}(h:w.heap[g]?=some (.cells #[a0,a1,a2,a3] t (0,0))) :
    w.cell? ⟨g,0,none⟩=some a0∧w.cell? ⟨g,1,none⟩=some a1∧w.cell? ⟨g,2,none⟩=some a2∧w.cell? ⟨g,3,none⟩=some a3:=
  ⟨zL h 0 _ rfl,zL h 1 _ rfl,zL h 2 _ rfl,zL h 3 _ rfl⟩
end L
end Go.Proofs.YthcomdofaaeihaaGreatDoor
