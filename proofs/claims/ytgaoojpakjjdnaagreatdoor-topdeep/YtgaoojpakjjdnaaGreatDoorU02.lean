import Derived.Test.YtgaoojpakjjdnaaGreatDoorU01
import Derived.Lib.ValidAsc
import Derived.Lib.Endian
import Derived.Lib.EndianBits
import Derived.Deep.DeepBigQuietO
set_option maxHeartbeats 32000000
set_option maxRecDepth 100000
namespace Go.Proofs.YtgaoojpakjjdnaaGreatDoor
namespace L
open Go.RowKit
def A0m {α:Type}(p : α→Bool) (l:List α):Int:=match l.findIdx? p with|some k=>(k:Int)|none=>-1
theorem A5r {α:Type}{p : α→Bool}{l:List α}{k:Nat}{a : α}(ha:l[k]?=some a) (h:∀ b∈l.take k,p b=false) (hp:p a=true):A0m p l=(k:Int):=by
 have e:l.findIdx? p=some k:=by
  rw[List.findIdx?_eq_some_iff_getElem]
  obtain⟨hk,e⟩:=List.getElem?_eq_some_iff.1 ha
  refine⟨hk,by rw[e];exact hp,?_⟩
  intro j hj
  rw[h _ (List.mem_take_iff_getElem.2 ⟨j,by omega,rfl⟩)]
  simp
 unfold A0m
 rw[e]
theorem A3l {α:Type}{p : α→Bool}{l:List α}(h:∀ b∈l,p b=false):A0m p l = -1:=by
 have e:l.findIdx? p=none:=by rw[List.findIdx?_eq_none_iff];exact h
 unfold A0m
 rw[e]
theorem C1x {w:World}{c:Nat}{x:List UInt8}(hc:w.heap[c]?=some (.cells #[.string (S x)] 9 (0,0))) (a:List UInt8) (a1:Option Addr) (n1 c1:Nat) (a2:Option Addr) (n2 c2:Nat) :
  Calls Tryz.prog 82 #[.agg #[.string (S a),.slice a1 n1 c1,.slice a2 n2 c2],.pointer (some ⟨c,0,none⟩)] w fun e w'=>e = .returned (.bool (decide (a=x)))∧Below w.heap.size w w':=by
 have c0:w.cell? ⟨c,0,none⟩=some (.string (S x)):=A0a hc 0 _ rfl
 have ag:c < w.heap.size:=(Array.getElem?_eq_some_iff.1 hc).1
 have ah:=A1x a
 have hlx:=A1x x
 have ac:=(Below.refl w.heap.size w).alloc (Nat.le_refl _) (.cells #[.string (S a),.slice a1 n1 c1,.slice a2 n2 c2] 38)
 obtain⟨q,Hq⟩:∃ q,Hid (q=decide (a=x)):=⟨_,rfl⟩
 have hq:(a == x)=q:=by rw[Hq.out,Bool.eq_iff_iff];simp
 rw[←Hq.out]
 go_enter Tryz.func82,Tryz.ntmps82
 go_wp2
 go_ret
 exact⟨rfl,ac⟩
theorem B8y {v:Value}{l:List MI}{w:World}{c:Nat}{x:List UInt8}(h:RdL 3 MAt w v l) (hc:w.heap[c]?=some (.cells #[.string (S x)] 9 (0,0))) :
  Calls Tryz.prog 81 #[v,.func (.func 82) #[] #[.pointer (some ⟨c,0,none⟩)]] w fun e w'=>e = .returned (.int .i64 (A0m (fun m=>decide (m.name=x)) l))∧Below w.heap.size w w':=by
 obtain⟨ao,n,cap,rfl,Hn,ag⟩:=h.shape
 go_enter Tryz.func81,Tryz.ntmps81
 go_wp2_with fail
 go_loopg [8] n (fun m i wr=>∃ k:Nat,k+m=n∧i = .int .i64 k∧Hid (∀ a∈l.take k,decide (a.name=x)=false)∧Below w.heap.size w wr)
 case atStart=>exact⟨0,by omega,rfl,by show ∀ a∈_,_;simp,Below.refl _ _⟩
 case round=>
  obtain⟨k,hk,rfl,HK,hb⟩:=hrel
  have ah:=(hb.block c (Array.getElem?_eq_some_iff.1 hc).1).trans hc
  by_cases hlt:k < n
  ·obtain⟨a,Ha⟩:∃ a,Hid (l[k]?=some a):=⟨l[k]'(by rw[←Hn.out];exact hlt),List.getElem?_eq_getElem (by rw[←Hn.out];exact hlt)⟩
   obtain⟨b,off,rfl,hat⟩:=(h.below MAt.stays hb).get MAt.plain Ha.out
   obtain⟨vf,vb,s0,s1,s2,ak,aj⟩:=hat.at
   obtain⟨af,nf,cf,rfl,_,_⟩:=ak.shape
   obtain⟨ab,nb,cb,rfl,_,_⟩:=aj.shape
   have au:(k:Int) < (n:Int):=by omega
   have ac:=C1x ah a.name af nf cf ab nb cb
   cases hq:decide (a.name=x) with
   | true=>
    have HF:Hid (A0m (fun m=>decide (m.name=x)) l=(k:Int)):=A5r Ha.out HK.out hq
    rw[hq] at ac
    clear hq
    go_wp2_with fail
    refine ac.mono ?_
    rintro e w1 ⟨rfl,hb1⟩
    go_wp2
    go_ret
    exact⟨by rw[HF.out];rfl,hb.trans (hb1.mono hb.size)⟩
   | false=>
    have HX:Hid (∀ a∈l.take (k+1),decide (a.name=x)=false):=by
     show ∀ a∈_,_
     rw[A0w Ha.out]
     intro y hy
     rcases List.mem_append.1 hy with hy|hy
     ·exact HK.out y hy
     ·rw[List.mem_singleton] at hy;rw[hy];exact hq
    rw[hq] at ac
    clear hq
    go_wp2_with fail
    refine ac.mono ?_
    rintro e w1 ⟨rfl,hb1⟩
    go_wp2_with fail
    go_roundg (n - (k+1))
    case measure=>omega
    case rel=>exact⟨k+1,by omega,by go_num,HX,hb.trans (hb1.mono hb.size)⟩
  ·have HF:Hid (A0m (fun m=>decide (m.name=x)) l = -1):=by
    have:=HK.out
    rw[List.take_of_length_le (by rw[←Hn.out];omega)] at this
    exact A3l this
   go_wp2
   go_ret
   exact⟨by rw[HF.out];rfl,hb⟩
theorem A2c {vm ve:Value}{l:List MI}{w:World}(h:RdL 3 MAt w vm l) (ag:∃ ao n cap,ve = .slice ao n cap) (x:List UInt8) :
  Calls Tryz.prog 35 #[.agg #[vm,ve],.string (S x)] w fun e w'=>e = .returned (.int .i64 (A0m (fun m=>decide (m.name=x)) l))∧Below w.heap.size w w':=by
 obtain⟨ao,n,cap,rfl,Hn,ac⟩:=h.shape
 obtain⟨ae,ne,ce,rfl⟩:=ag
 have ah:=A3i
 have hb2:Below w.heap.size w ((w.alloc (.cells #[.slice ao n cap,.slice ae ne ce] 25)).alloc (.cells #[.string (S x)] 9)):=((Below.refl _ _).alloc (Nat.le_refl _) _).alloc (by simp) _
 have hi:=B8y (h.below MAt.stays hb2) (A0i w _ _)
 go_enter Tryz.func35,Tryz.ntmps35
 go_wp2_with fail
 refine hi.mono ?_
 rintro e w1 ⟨rfl,hb1⟩
 go_wp2
 go_ret
 exact⟨rfl,hb2.trans (hb1.mono hb2.size)⟩
theorem C0v {w:World}{c:Nat}{x:List UInt8}(hc:w.heap[c]?=some (.cells #[.string (S x)] 9 (0,0))) (a:List UInt8) (a1:Option Addr) (n1 c1:Nat) :
  Calls Tryz.prog 117 #[.agg #[.string (S a),.slice a1 n1 c1],.pointer (some ⟨c,0,none⟩)] w fun e w'=>e = .returned (.bool (decide (a=x)))∧Below w.heap.size w w':=by
 have c0:w.cell? ⟨c,0,none⟩=some (.string (S x)):=A0a hc 0 _ rfl
 have ag:c < w.heap.size:=(Array.getElem?_eq_some_iff.1 hc).1
 have ah:=A1x a
 have hlx:=A1x x
 have ac:=(Below.refl w.heap.size w).alloc (Nat.le_refl _) (.cells #[.string (S a),.slice a1 n1 c1] 100)
 obtain⟨q,Hq⟩:∃ q,Hid (q=decide (a=x)):=⟨_,rfl⟩
 have hq:(a == x)=q:=by rw[Hq.out,Bool.eq_iff_iff];simp
 rw[←Hq.out]
 go_enter Tryz.func117,Tryz.ntmps117
 go_wp2
 go_ret
 exact⟨rfl,ac⟩
theorem B8d {v:Value}{l:List EI}{w:World}{c:Nat}{x:List UInt8}(h:RdL 2 EAt w v l) (hc:w.heap[c]?=some (.cells #[.string (S x)] 9 (0,0))) :
  Calls Tryz.prog 116 #[v,.func (.func 117) #[] #[.pointer (some ⟨c,0,none⟩)]] w fun e w'=>e = .returned (.int .i64 (A0m (fun m=>decide (m.name=x)) l))∧Below w.heap.size w w':=by
 obtain⟨ao,n,cap,rfl,Hn,ag⟩:=h.shape
 go_enter Tryz.func116,Tryz.ntmps116
 go_wp2_with fail
 go_loopg [8] n (fun m i wr=>∃ k:Nat,k+m=n∧i = .int .i64 k∧Hid (∀ a∈l.take k,decide (a.name=x)=false)∧Below w.heap.size w wr)
 case atStart=>exact⟨0,by omega,rfl,by show ∀ a∈_,_;simp,Below.refl _ _⟩
 case round=>
  obtain⟨k,hk,rfl,HK,hb⟩:=hrel
  have ah:=(hb.block c (Array.getElem?_eq_some_iff.1 hc).1).trans hc
  by_cases hlt:k < n
  ·obtain⟨a,Ha⟩:∃ a,Hid (l[k]?=some a):=⟨l[k]'(by rw[←Hn.out];exact hlt),List.getElem?_eq_getElem (by rw[←Hn.out];exact hlt)⟩
   obtain⟨b,off,rfl,hat⟩:=(h.below EAt.stays hb).get EAt.plain Ha.out
   obtain⟨vi,s0,s1,aj⟩:=hat.at
   obtain⟨ai,ni,ci,rfl,_,_⟩:=aj.shape
   have ak:(k:Int) < (n:Int):=by omega
   have ac:=C0v ah a.name ai ni ci
   cases hq:decide (a.name=x) with
   | true=>
    have HF:Hid (A0m (fun m=>decide (m.name=x)) l=(k:Int)):=A5r Ha.out HK.out hq
    rw[hq] at ac
    clear hq
    go_wp2_with fail
    refine ac.mono ?_
    rintro e w1 ⟨rfl,hb1⟩
    go_wp2
    go_ret
    exact⟨by rw[HF.out];rfl,hb.trans (hb1.mono hb.size)⟩
   | false=>
    have HX:Hid (∀ a∈l.take (k+1),decide (a.name=x)=false):=by
     show ∀ a∈_,_
     rw[A0w Ha.out]
     intro y hy
     rcases List.mem_append.1 hy with hy|hy
     ·exact HK.out y hy
     ·rw[List.mem_singleton] at hy;rw[hy];exact hq
    rw[hq] at ac
    clear hq
    go_wp2_with fail
    refine ac.mono ?_
    rintro e w1 ⟨rfl,hb1⟩
    go_wp2_with fail
    go_roundg (n - (k+1))
    case measure=>omega
    case rel=>exact⟨k+1,by omega,by go_num,HX,hb.trans (hb1.mono hb.size)⟩
  ·have HF:Hid (A0m (fun m=>decide (m.name=x)) l = -1):=by
    have:=HK.out
    rw[List.take_of_length_le (by rw[←Hn.out];omega)] at this
    exact A3l this
   go_wp2
   go_ret
   exact⟨by rw[HF.out];rfl,hb⟩
theorem A6x {vm ve:Value}{l:List EI}{w:World}(h:RdL 2 EAt w ve l) (ag:∃ ao n cap,vm = .slice ao n cap) (x:List UInt8) :
  Calls Tryz.prog 54 #[.agg #[vm,ve],.string (S x)] w fun e w'=>e = .returned (.int .i64 (A0m (fun m=>decide (m.name=x)) l))∧Below w.heap.size w w':=by
 obtain⟨ao,n,cap,rfl,Hn,ac⟩:=h.shape
 obtain⟨ae,ne,ce,rfl⟩:=ag
 have ah:=A3i
 have hb2:Below w.heap.size w ((w.alloc (.cells #[.slice ae ne ce,.slice ao n cap] 25)).alloc (.cells #[.string (S x)] 9)):=((Below.refl _ _).alloc (Nat.le_refl _) _).alloc (by simp) _
 have hi:=B8d (h.below EAt.stays hb2) (A0i w _ _)
 go_enter Tryz.func54,Tryz.ntmps54
 go_wp2_with fail
 refine hi.mono ?_
 rintro e w1 ⟨rfl,hb1⟩
 go_wp2
 go_ret
 exact⟨rfl,hb2.trans (hb1.mono hb2.size)⟩
open Go.RowKit
structure RI where
 number:Int
 how:Int
 bits:Nat
 bytes:List UInt8
deriving DecidableEq
structure VI (β:Type) where
 number:Int
 bits:List Nat
 bytes:List (List UInt8)
 subs:List β
structure BO (β:Type) where
 vals:List (VI β)
 unk:List RI
def BI:Nat→Type
 | 0=>Empty
 | d+1=>BO (BI d)
def UAt (w:World) (x:Addr) (n:Nat):Prop:=w.cell? x=some (.int .u64 (n:Int))
def YAt (w:World) (x:Addr) (b:UInt8):Prop:=w.cell? x=some (.int .u8 (b.toNat:Int))
def ZAt (w:World) (x:Addr) (l:List UInt8):Prop:=∃ v,w.cell? x=some v∧RdL 1 YAt w v l
def RAt (w:World) (x:Addr) (r:RI):Prop:=∃ v,w.cell? x=some (.int .i64 r.number)∧w.cell? (x.add 1)=some (.int .i64 r.how)∧w.cell? (x.add 2)=some (.int .u64 (r.bits:Int))∧w.cell? (x.add 3)=some v∧RdL 1 YAt w v r.bytes
def VAt {β:Type}(P:World→Addr→β→Prop) (w:World) (x:Addr) (v:VI β):Prop:=∃ v1 v2 v3,w.cell? x=some (.int .i64 v.number)∧w.cell? (x.add 1)=some v1∧w.cell? (x.add 2)=some v2∧w.cell? (x.add 3)=some v3∧RdL 1 UAt w v1 v.bits∧RdL 1 ZAt w v2 v.bytes∧RdL 2 P w v3 v.subs
def BAt:(d:Nat)→World→Addr→BI d→Prop
 | 0=>fun _ _ _=>False
 | d+1=>fun w x b=>∃ v0 v1,w.cell? x=some v0∧w.cell? (x.add 1)=some v1∧RdL 4 (VAt (BAt d)) w v0 (BO.vals b)∧RdL 4 RAt w v1 (BO.unk b)
def BRd (d:Nat) (w:World) (v0 v1:Value) (b:BO (BI d)):Prop:=RdL 4 (VAt (BAt d)) w v0 b.vals∧RdL 4 RAt w v1 b.unk
theorem UAt.stays:A3x UAt:=fun _ _ _ _ hb h=>A0c hb h
theorem YAt.stays:A3x YAt:=fun _ _ _ _ hb h=>A0c hb h
theorem ZAt.stays:A3x ZAt:=fun _ _ _ _ hb ⟨v,h1,h2⟩=>⟨v,A0c hb h1,h2.below YAt.stays hb⟩
theorem RAt.stays:A3x RAt:=fun _ _ _ _ hb ⟨v,h1,h2,h3,h4,h5⟩=>⟨v,A0c hb h1,A0c hb h2,A0c hb h3,A0c hb h4,h5.below YAt.stays hb⟩
theorem VAt.stays {β:Type}{P:World→Addr→β→Prop}(hP:A3x P):A3x (VAt P):=fun _ _ _ _ hb ⟨v1,v2,v3,h1,h2,h3,h4,h5,h6,h7⟩=>⟨v1,v2,v3,A0c hb h1,A0c hb h2,A0c hb h3,A0c hb h4,h5.below UAt.stays hb,h6.below ZAt.stays hb,h7.below hP hb⟩
theorem BAt.stays:∀ d,A3x (BAt d)
 | 0=>fun _ _ _ _ _ h=>h
 | d+1=>fun _ _ _ _ hb ⟨v0,v1,h1,h2,h3,h4⟩=>⟨v0,v1,A0c hb h1,A0c hb h2,h3.below (VAt.stays (BAt.stays d)) hb,h4.below RAt.stays hb⟩
theorem BRd.below {d:Nat}{w w':World}{v0 v1:Value}{b:BO (BI d)}(h:BRd d w v0 v1 b) (hb:Below w.heap.size w w'):BRd d w' v0 v1 b:=⟨h.1.below (VAt.stays (BAt.stays d)) hb,h.2.below RAt.stays hb⟩
theorem UAt.plain:A6s UAt:=fun _ _ _ _ _ h=>A1l h
theorem YAt.plain:A6s YAt:=fun _ _ _ _ _ h=>A1l h
theorem ZAt.plain:A6s ZAt:=fun _ _ _ _ _ ⟨_,h,_⟩=>A1l h
theorem RAt.plain:A6s RAt:=fun _ _ _ _ _ ⟨_,h,_⟩=>A1l h
theorem VAt.plain {β:Type}{P:World→Addr→β→Prop}:A6s (VAt P):=fun _ _ _ _ _ ⟨_,_,_,h,_⟩=>A1l h
theorem BAt.plain:∀ d,A6s (BAt d)
 | 0=>fun _ _ _ _ _ h=>h.elim
 | _+1=>fun _ _ _ _ _ ⟨_,_,h,_⟩=>A1l h
theorem ZAt.at {w:World}{b o:Nat}{l:List UInt8}(h:ZAt w ⟨b,o,none⟩ l):∃ v,w.cell? ⟨b,o,none⟩=some v∧RdL 1 YAt w v l:=h
theorem RAt.at {w:World}{b o:Nat}{r:RI}(h:RAt w ⟨b,o,none⟩ r):∃ v,w.cell? ⟨b,o,none⟩=some (.int .i64 r.number)∧w.cell? ⟨b,o+1,none⟩=some (.int .i64 r.how)∧w.cell? ⟨b,o+2,none⟩=some (.int .u64 (r.bits:Int))∧w.cell? ⟨b,o+3,none⟩=some v∧RdL 1 YAt w v r.bytes:=by
 simp only[RAt,A0d] at h;exact h
theorem VAt.at {β:Type}{P:World→Addr→β→Prop}{w:World}{b o:Nat}{v:VI β}(h:VAt P w ⟨b,o,none⟩ v):∃ v1 v2 v3,w.cell? ⟨b,o,none⟩=some (.int .i64 v.number)∧w.cell? ⟨b,o+1,none⟩=some v1∧w.cell? ⟨b,o+2,none⟩=some v2∧w.cell? ⟨b,o+3,none⟩=some v3∧RdL 1 UAt w v1 v.bits∧RdL 1 ZAt w v2 v.bytes∧RdL 2 P w v3 v.subs:=by
 simp only[VAt,A0d] at h;exact h
theorem BAt.at {d:Nat}{w:World}{b o:Nat}{x:BI (d+1)}(h:BAt (d+1) w ⟨b,o,none⟩ x):∃ v0 v1,w.cell? ⟨b,o,none⟩=some v0∧w.cell? ⟨b,o+1,none⟩=some v1∧BRd d w v0 v1 x:=by
 simp only[BAt,A0d] at h;exact h
open Go.RowKit
def YCells (w:World) (b o:Nat) (l:List UInt8):Prop:=∀ (i:Nat) (x:UInt8),l[i]?=some x→w.cell? ⟨b,o+i,none⟩=some (.int .u8 (x.toNat:Int))
theorem YCells.drop {w:World}{b o:Nat}{l:List UInt8}(h:YCells w b o l) (k:Nat):YCells w b (o+k) (l.drop k):=by
 intro i x hx
 rw[List.getElem?_drop] at hx
 have:=h (k+i) x hx
 rwa [←Nat.add_assoc] at this
theorem YCells.below {w w':World}{b o:Nat}{l:List UInt8}(h:YCells w b o l) (hb:Below w.heap.size w w'):YCells w' b o l:=fun i x hx=>A0c hb (h i x hx)
theorem C3o {w:World}{b o n cap:Nat}{x0 x1 x2 x3 x4 x5 x6 x7:UInt8}{r:List UInt8}(h:YCells w b o (x0::x1::x2::x3::x4::x5::x6::x7::r)) (hn:8≤n) (ac:n≤9223372036854775807) :
  Calls Tryz.prog 180 #[.slice (some ⟨b,o,none⟩) n cap] w fun e w'=>e = .returned (.int .u64 (Lib.leNat [x0,x1,x2,x3,x4,x5,x6,x7]:Nat))∧∃ q,w'=w.drewN q:=by
 have h0:=x0.toNat_lt;have h1:=x1.toNat_lt;have h2:=x2.toNat_lt;have h3:=x3.toNat_lt
 have h4:=x4.toNat_lt;have h5:=x5.toNat_lt;have h6:=x6.toNat_lt;have h7:=x7.toNat_lt
 have hv:((Lib.leNat [x0,x1,x2,x3,x4,x5,x6,x7]:Nat):Int)=(x0.toNat:Int)+(x1.toNat:Int)*256+(x2.toNat:Int)*65536+(x3.toNat:Int)*16777216+(x4.toNat:Int)*4294967296+(x5.toNat:Int)*1099511627776+(x6.toNat:Int)*281474976710656+(x7.toNat:Int)*72057594037927936:=by
  simp only[Lib.leNat]
  push_cast
  omega
 have c0:w.cell? ⟨b,o,none⟩=some (.int .u8 (x0.toNat:Int)):=h 0 x0 rfl
 have c1:=h 1 x1 rfl
 have c2:=h 2 x2 rfl
 have c3:=h 3 x3 rfl
 have c4:=h 4 x4 rfl
 have c5:=h 5 x5 rfl
 have c6:=h 6 x6 rfl
 have c7:=h 7 x7 rfl
 clear h
 have q0:(0:Int) < (n:Int):=by omega
 have q1:(1:Int) < (n:Int):=by omega
 have q2:(2:Int) < (n:Int):=by omega
 have q3:(3:Int) < (n:Int):=by omega
 have q4:(4:Int) < (n:Int):=by omega
 have q5:(5:Int) < (n:Int):=by omega
 have q6:(6:Int) < (n:Int):=by omega
 have q7:(7:Int) < (n:Int):=by omega
 have mixed:Tryz.prog.follows Departure.mixedOrders=true:=by kernel_rfl
 go_enter Tryz.func180,Tryz.ntmps180
 go_wp2
 go_big_quiet_o (fail)
 go_wp2
 go_ret
 refine⟨?_,_,rfl⟩
 simp (disch:=omega) only[u64_or8,u64_or16,u64_or24,u64_or32,u64_or40,u64_or48,u64_or56]
 rw[hv]
 rfl
theorem B7h {w:World}{b o n cap:Nat}{l:List UInt8}(h:YCells w b o l) (hl:8≤l.length) (hn:8≤n) (ac:n≤9223372036854775807) :
  Calls Tryz.prog 180 #[.slice (some ⟨b,o,none⟩) n cap] w fun e w'=>e = .returned (.int .u64 (Lib.leNat (l.take 8):Nat))∧∃ q,w'=w.drewN q:=by
 match l,hl,h with
 | x0::x1::x2::x3::x4::x5::x6::x7::r,_,h=>exact C3o h hn ac
theorem B4k {l:List UInt8}(hl:8≤l.length):Lib.leNat (l.take 8)&&& 9259542123273814144=0↔∀ b∈l.take 8,b.toNat < 128:=by
 have:=Lib.leNat_mask (l.take 8)
 rwa [List.length_take,Nat.min_eq_left hl,Lib.maskN8] at this
theorem B7i (l:List UInt8):Lib.leNat (l.take 8) < 18446744073709551616:=by
 have h:=Lib.leNat_lt (l.take 8)
 have:256 ^ (l.take 8).length≤256 ^ 8:=Nat.pow_le_pow_right (by decide) (by rw[List.length_take];omega)
 exact Nat.lt_of_lt_of_le h (by simpa using this)
theorem A8r {l:List UInt8}{a c:Nat}(ha:∀ b∈l.take a,b.toNat < 128) (hc:∀ b∈(l.drop a).take c,b.toNat < 128):∀ b∈l.take (a+c),b.toNat < 128:=by
 rw[List.take_add]
 intro x hx
 rcases List.mem_append.1 hx with h|h
 ·exact ha x h
 ·exact hc x h
end L
end Go.Proofs.YtgaoojpakjjdnaaGreatDoor
