import Derived.Test.YtelmjekjohbmjaaGreatDoorRows
import Derived.Test.YtelmjekjohbmjaaGreatDoorY09
import Derived.Test.YtelmjekjohbmjaaGreatDoorY14
import Derived.Test.YtelmjekjohbmjaaGreatDoorY03
import Derived.Test.YtelmjekjohbmjaaGreatDoorY12
namespace Go.Proofs.YtelmjekjohbmjaaGreatDoor
namespace L
open Go.ChangeShapes Go.WideShapes Go.ChangeAt Go.RowKit
set_option linter.unusedVariables false
section
variable {H:Type}{enc:TypeId×Value→H}{w:World}{base:Nat}{spare:Nat→Bool}{held:Bool}
theorem A5h (d:DataW H):1≤Rows.uptoBulk d:=by
 cases d with
 | lit l=>cases l <;> simp[Rows.uptoBulk]
 | nil=>simp[Rows.uptoBulk]
 | ptr d=>simp[Rows.uptoBulk]
 | slice elems spare=>simp[Rows.uptoBulk]
 | agg parts=>simp[Rows.uptoBulk]
 | iface t d=>simp[Rows.uptoBulk]
 | map entries=>simp[Rows.uptoBulk]
 | held h=>simp[Rows.uptoBulk]
theorem B2e (l r:List (DataW H)):Rows.uptoBulkAll (l++r)=Rows.uptoBulkAll l+Rows.uptoBulkAll r:=by
 induction l with
 | nil=>simp[Rows.uptoBulkAll]
 | cons x l ih=>simp only[List.cons_append,Rows.uptoBulkAll,ih];omega
theorem bulk_mem {d:DataW H}{l:List (DataW H)}(h:d∈l):Rows.uptoBulk d≤Rows.uptoBulkAll l:=by
 induction l with
 | nil=>cases h
 | cons x r ih=>
  simp only[Rows.uptoBulkAll]
  cases List.mem_cons.1 h with
  | inl e=>subst e;omega
  | inr e=>have:=ih e;omega
theorem B6g {α:Type}{R:Nat→α→Prop}{f : α→Nat}{D:Nat→DataW H}:∀ len:Nat,(∀ i,i < len→∃ y,R i y∧f y≤60*Rows.uptoBulk (D i))→∃ l:List α,l.length=len∧(∀ k y,l[k]?=some y→R k y)∧(l.map f).sum≤60*Rows.uptoBulkAll ((List.range len).map D)∧len≤Rows.uptoBulkAll ((List.range len).map D)
 | 0,_=>⟨[],rfl,fun k y h=>by simp at h,by simp[Rows.uptoBulkAll],by simp⟩
 | len+1,h=>by
  obtain⟨l,h1,h2,h3,h4⟩:=B6g len fun i hi=>h i (by omega)
  obtain⟨y,hy,hf⟩:=h len (by omega)
  have hb:=A5h (D len)
  refine⟨l++[y],by simp[h1],fun k z hz=>?_,?_,?_⟩
  ·by_cases hk:k < l.length
   ·rw[List.getElem?_append_left hk] at hz;exact h2 k z hz
   ·have hk':k=l.length:=by
     have:=(List.getElem?_eq_some_iff.1 hz).1
     rw[List.length_append,List.length_singleton] at this
     omega
    subst hk'
    rw[List.getElem?_append_right (Nat.le_refl _),Nat.sub_self] at hz
    have:y=z:=by simpa using hz
    subst this
    rw[h1]
    exact hy
  ·rw[List.range_succ,List.map_append,List.map_append,B2e,List.sum_append]
   simp only[List.map_cons,List.map_nil,List.sum_cons,List.sum_nil,Rows.uptoBulkAll]
   omega
  ·rw[List.range_succ,List.map_append,B2e]
   simp only[List.map_cons,List.map_nil,Rows.uptoBulkAll]
   omega
theorem A2e {α:Type}{P:World→Addr→α→Prop}{Q : α→Prop}{f : α→Nat}{sz:Nat}{t e:TypeId}(ht:Tryz.prog.underlying t=some (.slice e)) (hc:Tryz.prog.cellsOf e=sz)
  {fuel:Nat}{cs:List Value}{d:DataW H}{pl:List MemPlace}(h:DataW.trod enc Tryz.prog w base spare held fuel t cs=some (d,pl)) (hB:Rows.uptoBulk d≤1048576)
  (hel:∀ (fuel:Nat) (a:Addr) (cs:List Value) (d':DataW H) (pl:List MemPlace),SizeOf.sizeOf d' < SizeOf.sizeOf d→w.cells? base a sz=some cs→DataW.trod enc Tryz.prog w base spare held fuel e cs=some (d',pl)→Rows.uptoBulk d'≤1048576→∃ y,P w a y∧Q y∧f y≤60*Rows.uptoBulk d') :
  ∃ v l,cs = [v]∧RdL sz P w v l∧(∀ y∈l,Q y)∧(l.map f).sum+60≤60*Rows.uptoBulk d∧l.length+1≤Rows.uptoBulk d:=by
 rcases Go.Deep.open_slice ht h with⟨hcs,hx⟩|⟨a,len,cap,m,n,D,Pl,hcs,_,hl,hm,hmm,hx,hels⟩
 ·have hb:=A5h d
  exact⟨_,[],hcs,RdL.nil _ _ _,fun y hy=>by simp at hy,by simp;omega,by simpa using hb⟩
 ·rw[hc] at hels
  have hd:=(Prod.mk.inj hx).1
  have hm':len≤m:=by rw[hmm];split <;> omega
  have hbd:Rows.uptoBulkAll ((List.range len).map D)+1≤Rows.uptoBulk d:=by rw[hd];simp only[Rows.uptoBulk];omega
  obtain⟨l,h1,h2,h3,h4⟩:=B6g (R:=fun i y=>P w (a.add (i*sz)) y∧Q y) (f:=f) (D:=D) len fun i hi=>by
   obtain⟨cs',g1,g2⟩:=hels i (by omega)
   have hmem:D i∈(List.range len).map D:=List.mem_map.2 ⟨i,List.mem_range.2 hi,rfl⟩
   obtain⟨y,q1,q2,q3⟩:=hel n _ cs' (D i) (Pl i) (by
    have:=List.sizeOf_lt_of_mem hmem
    rw[hd,DataW.slice.sizeOf_spec]
    omega) g1 g2 (by have:=bulk_mem hmem;omega)
   exact⟨y,⟨q1,q2⟩,q3⟩
  refine⟨_,l,hcs,⟨some a,len,cap,rfl,h1,hl,hm,fun h=>(by cases h),fun x hx' k y hy=>?_⟩,fun y hy=>?_,by omega,by omega⟩
  ·cases hx'
   exact(h2 k y hy).1
  ·obtain⟨k,hk⟩:=List.getElem?_of_mem hy
   exact(h2 k y hk).2
theorem B0e {fuel:Nat}{c:Value}{x:DataW H×List MemPlace}(h:DataW.trod enc Tryz.prog w base spare held fuel 35 [c]=some x):∃ n:Nat,c = .int .u64 (n:Int)∧n≤18446744073709551615:=by
 obtain⟨n,h1,_,h2⟩:=DataW.trod_int Tryz.underlying35 h
 simp at h1
 have:=bounds_u64 h2
 exact⟨n.toNat,by rw[h1,Int.toNat_of_nonneg (by omega)],by omega⟩
theorem B0c (fuel:Nat) (a:Addr) (cs:List Value) (d:DataW H) (pl:List MemPlace) (hc:w.cells? base a 1=some cs) (h:DataW.trod enc Tryz.prog w base spare held fuel 35 cs=some (d,pl)):∃ y,UAt w a y∧y≤18446744073709551615∧0≤60*Rows.uptoBulk d:=by
 obtain⟨_,hlen,hcell⟩:=World.cells?_some hc
 match cs,hlen with
 | [v0],_=>
  obtain⟨n1,rfl,z1⟩:=B0e h
  refine⟨n1,?_,z1,Nat.zero_le _⟩
  have:=hcell 0 (by omega)
  simpa [Addr.add,UAt] using this
theorem B4c (fuel:Nat) (a:Addr) (cs:List Value) (d:DataW H) (pl:List MemPlace) (hc:w.cells? base a 1=some cs) (h:DataW.trod enc Tryz.prog w base spare held fuel 5 cs=some (d,pl)):∃ y,YAt w a y∧True∧0≤60*Rows.uptoBulk d:=by
 obtain⟨_,hlen,hcell⟩:=World.cells?_some hc
 match cs,hlen with
 | [v0],_=>
  obtain⟨n,h1,_,h2⟩:=DataW.trod_int Tryz.underlying5 h
  simp at h1
  subst h1
  have hb:=bounds_u8 h2
  refine⟨UInt8.ofNat n.toNat,?_,trivial,Nat.zero_le _⟩
  have:=hcell 0 (by omega)
  have e:(((UInt8.ofNat n.toNat).toNat:Nat):Int)=n:=by
   rw[UInt8.toNat_ofNat',Nat.mod_eq_of_lt (by omega),Int.toNat_of_nonneg (by omega)]
  show w.cell? a=some (.int .u8 (((UInt8.ofNat n.toNat).toNat:Nat):Int))
  rw[e]
  simpa [Addr.add] using this
theorem B0d {fuel:Nat}{cs:List Value}{d:DataW H}{pl:List MemPlace}(h:DataW.trod enc Tryz.prog w base spare held fuel 68 cs=some (d,pl)) (hB:Rows.uptoBulk d≤1048576):∃ v l,cs = [v]∧RdL 1 YAt w v l∧l.length+1≤Rows.uptoBulk d:=by
 obtain⟨v,l,e,r,_,_,b⟩:=A2e (P:=YAt) (Q:=fun _=>True) (f:=fun _=>0) (sz:=1) Tryz.underlying68 (by kernel_rfl) h hB fun fuel a cs d' pl _ hc h' _=>B4c fuel a cs d' pl hc h'
 exact⟨v,l,e,r,b⟩
theorem A8l (fuel:Nat) (a:Addr) (cs:List Value) (d:DataW H) (pl:List MemPlace) (hc:w.cells? base a 1=some cs) (h:DataW.trod enc Tryz.prog w base spare held fuel 68 cs=some (d,pl)) (hB:Rows.uptoBulk d≤1048576):∃ y,ZAt w a y∧y.length*1≤reachBytes∧1≤60*Rows.uptoBulk d:=by
 obtain⟨_,hlen,hcell⟩:=World.cells?_some hc
 obtain⟨v,l,e,r,b⟩:=B0d h hB
 subst e
 refine⟨l,⟨v,?_,r⟩,by unfold reachBytes;omega,by omega⟩
 have:=hcell 0 (by omega)
 simpa [Addr.add] using this
theorem B6r {xs:List (DataW H×List MemPlace)}{i:Nat}(hi:i < xs.length):Rows.uptoBulk (xs[i]'hi).1+1≤Rows.uptoBulk (DataW.agg (xs.map (·.1))):=by
 have hm:(xs[i]'hi).1∈xs.map (·.1):=List.mem_map.2 ⟨_,List.getElem_mem hi,rfl⟩
 have:=bulk_mem hm
 simp only[Rows.uptoBulk]
 omega
theorem A9e {xs:List (DataW H×List MemPlace)}{i:Nat}(hi:i < xs.length):SizeOf.sizeOf (xs[i]'hi).1 < SizeOf.sizeOf (DataW.agg (xs.map (·.1))):=by
 have:(xs[i]'hi).1∈xs.map (·.1):=List.mem_map.2 ⟨_,List.getElem_mem hi,rfl⟩
 have:=List.sizeOf_lt_of_mem this
 rw[DataW.agg.sizeOf_spec]
 omega
theorem C1c {xs:List (DataW H×List MemPlace)}(h:xs.length=4):Rows.uptoBulk (DataW.agg (xs.map (·.1)))=Rows.uptoBulk (xs[0]'(by omega)).1+Rows.uptoBulk (xs[1]'(by omega)).1+Rows.uptoBulk (xs[2]'(by omega)).1+Rows.uptoBulk (xs[3]'(by omega)).1+1:=by
 match xs,h with
 | [a,b,c,d],_=>simp[Rows.uptoBulk,Rows.uptoBulkAll];omega
theorem C2b {xs:List (DataW H×List MemPlace)}(h:xs.length=2):Rows.uptoBulk (DataW.agg (xs.map (·.1)))=Rows.uptoBulk (xs[0]'(by omega)).1+Rows.uptoBulk (xs[1]'(by omega)).1+1:=by
 match xs,h with
 | [a,b],_=>simp[Rows.uptoBulk,Rows.uptoBulkAll]
set_option maxRecDepth 100000 in
theorem B6p (fuel:Nat) (a:Addr) (cs:List Value) (d:DataW H) (pl:List MemPlace) (hc:w.cells? base a 4=some cs) (h:DataW.trod enc Tryz.prog w base spare held fuel 73 cs=some (d,pl)) (hB:Rows.uptoBulk d≤1048576):∃ y,RAt w a y∧B2w y∧1≤60*Rows.uptoBulk d:=by
 obtain⟨_,hlen,hcell⟩:=World.cells?_some hc
 obtain⟨xs,n,_,hx,_,hxl,hf⟩:=DataW.trod_struct Tryz.underlying73 h
 have hd:=(Prod.mk.inj hx).1
 match cs,hlen with
 | [v0,v1,v2,v3],_=>
  have hxs:xs.length=4:=hxl
  have f0:DataW.trod enc Tryz.prog w base spare held n 3 [v0]=xs[0]?:=hf 0 _ rfl
  have f1:DataW.trod enc Tryz.prog w base spare held n 3 [v1]=xs[1]?:=hf 1 _ rfl
  have f2:DataW.trod enc Tryz.prog w base spare held n 35 [v2]=xs[2]?:=hf 2 _ rfl
  have f3:DataW.trod enc Tryz.prog w base spare held n 68 [v3]=xs[3]?:=hf 3 _ rfl
  rw[List.getElem?_eq_getElem (by omega)] at f0 f1 f2 f3
  have g3:=B6r (xs:=xs) (i:=3) (by omega)
  rw[←hd] at g3
  obtain⟨n0,rfl,z0⟩:=A3a f0
  obtain⟨n1,rfl,z1⟩:=A3a f1
  obtain⟨n2,rfl,z2⟩:=B0e f2
  obtain⟨u3,l3,e3,r3,b3⟩:=B0d (d:=(xs[3]'(by omega)).1) (pl:=(xs[3]'(by omega)).2) f3 (by omega)
  simp at e3
  subst e3
  refine⟨⟨n0,n1,n2,l3⟩,⟨v3,?_,hcell 1 (by omega),hcell 2 (by omega),hcell 3 (by omega),r3⟩,⟨z0,z1,by show n2 < 18446744073709551616;omega,by show l3.length*1≤reachBytes;unfold reachBytes;omega⟩,by have:=A5h d;omega⟩
  have:=hcell 0 (by omega)
  simpa [Addr.add] using this
set_option maxRecDepth 100000 in
theorem B6q {β:Type}{P:World→Addr→β→Prop}{Q : β→Prop}{f : β→Nat}(fuel:Nat) (a:Addr) (cs:List Value) (d:DataW H) (pl:List MemPlace) (hc:w.cells? base a 4=some cs) (h:DataW.trod enc Tryz.prog w base spare held fuel 34 cs=some (d,pl)) (hB:Rows.uptoBulk d≤1048576)
  (hel:∀ (fuel:Nat) (a:Addr) (cs:List Value) (d':DataW H) (pl:List MemPlace),SizeOf.sizeOf d' < SizeOf.sizeOf d→w.cells? base a 2=some cs→DataW.trod enc Tryz.prog w base spare held fuel 29 cs=some (d',pl)→Rows.uptoBulk d'≤1048576→∃ y,P w a y∧Q y∧1+f y≤60*Rows.uptoBulk d'):∃ y,VAt P w a y∧VOk Q y∧jW f y≤60*Rows.uptoBulk d:=by
 obtain⟨_,hlen,hcell⟩:=World.cells?_some hc
 obtain⟨xs,n,_,hx,_,hxl,hf⟩:=DataW.trod_struct Tryz.underlying34 h
 have hd:=(Prod.mk.inj hx).1
 match cs,hlen with
 | [v0,v1,v2,v3],_=>
  have hxs:xs.length=4:=hxl
  have f0:DataW.trod enc Tryz.prog w base spare held n 3 [v0]=xs[0]?:=hf 0 _ rfl
  have f1:DataW.trod enc Tryz.prog w base spare held n 30 [v1]=xs[1]?:=hf 1 _ rfl
  have f2:DataW.trod enc Tryz.prog w base spare held n 31 [v2]=xs[2]?:=hf 2 _ rfl
  have f3:DataW.trod enc Tryz.prog w base spare held n 32 [v3]=xs[3]?:=hf 3 _ rfl
  rw[List.getElem?_eq_getElem (by omega)] at f0 f1 f2 f3
  have hb4:=C1c hxs
  rw[←hd] at hb4
  have g0:=A5h (xs[0]'(by omega)).1
  have g3:=A9e (xs:=xs) (i:=3) (by omega)
  rw[←hd] at g3
  obtain⟨n0,rfl,z0⟩:=A3a f0
  obtain⟨u1,l1,e1,r1,k1,_,b1⟩:=A2e (P:=UAt) (Q:=fun n=>n≤18446744073709551615) (f:=fun _=>0) (sz:=1) Tryz.underlying30 (by kernel_rfl) (d:=(xs[1]'(by omega)).1) (pl:=(xs[1]'(by omega)).2) f1 (by omega) fun fuel a cs d' pl _ hc h' _=>B0c fuel a cs d' pl hc h'
  obtain⟨u2,l2,e2,r2,k2,w2,b2⟩:=A2e (P:=ZAt) (Q:=fun l=>l.length*1≤reachBytes) (f:=fun _=>1) (sz:=1) Tryz.underlying31 (by kernel_rfl) (d:=(xs[2]'(by omega)).1) (pl:=(xs[2]'(by omega)).2) f2 (by omega) fun fuel a cs d' pl _ hc h' hs=>A8l fuel a cs d' pl hc h' hs
  obtain⟨u3,l3,e3,r3,k3,w3,b3⟩:=A2e (P:=P) (Q:=Q) (f:=fun s=>1+f s) (sz:=2) Tryz.underlying32 (by kernel_rfl) (d:=(xs[3]'(by omega)).1) (pl:=(xs[3]'(by omega)).2) f3 (by omega) fun fuel a cs d' pl hlt hc h' hs=>hel fuel a cs d' pl (Nat.lt_trans hlt g3) hc h' hs
  simp at e1 e2 e3
  subst e1 e2 e3
  refine⟨⟨n0,l1,l2,l3⟩,⟨v1,v2,v3,?_,hcell 1 (by omega),hcell 2 (by omega),hcell 3 (by omega),r1,r2,r3⟩,⟨z0,fun n hn=>by have:=k1 n hn;omega,by show l1.length*8≤reachBytes;unfold reachBytes;omega,k2,by show l2.length*24≤reachBytes;unfold reachBytes;omega,k3,by show l3.length*48≤reachBytes;unfold reachBytes;omega⟩,?_⟩
  ·have:=hcell 0 (by omega)
   simpa [Addr.add] using this
  ·show 1+l1.length+l2.length+(l3.map fun s=>1+f s).sum≤_
   omega
set_option maxRecDepth 100000 in
theorem A7i {N:Nat}(hel:∀ (fuel:Nat) (a:Addr) (cs:List Value) (d':DataW H) (pl:List MemPlace),SizeOf.sizeOf d' < N→w.cells? base a 2=some cs→DataW.trod enc Tryz.prog w base spare held fuel 29 cs=some (d',pl)→Rows.uptoBulk d'≤1048576→∃ y,BAt N w a y∧BOk N y∧1+jWB N y≤60*Rows.uptoBulk d')
  {fuel:Nat}{cs:List Value}{d:DataW H}{pl:List MemPlace}(hN:SizeOf.sizeOf d≤N) (h:DataW.trod enc Tryz.prog w base spare held fuel 29 cs=some (d,pl)) (hl:cs.length=2) (hB:Rows.uptoBulk d≤1048576):∃ v0 v1 y,cs = [v0,v1]∧BRd N w v0 v1 y∧BOk (N+1) y∧1+jWB (N+1) y≤60*Rows.uptoBulk d:=by
 obtain⟨xs,n,_,hx,_,hxl,hf⟩:=DataW.trod_struct Tryz.underlying29 h
 have hd:=(Prod.mk.inj hx).1
 match cs,hl with
 | [v0,v1],_=>
  have hxs:xs.length=2:=hxl
  have f0:DataW.trod enc Tryz.prog w base spare held n 26 [v0]=xs[0]?:=hf 0 _ rfl
  have f1:DataW.trod enc Tryz.prog w base spare held n 27 [v1]=xs[1]?:=hf 1 _ rfl
  rw[List.getElem?_eq_getElem (by omega)] at f0 f1
  have hb2:=C2b hxs
  have g0:=A9e (xs:=xs) (i:=0) (by omega)
  rw[←hd] at hb2 g0
  obtain⟨u0,l0,e0,r0,k0,w0,b0⟩:=A2e (P:=VAt (BAt N)) (Q:=VOk (BOk N)) (f:=jW (jWB N)) (sz:=4) Tryz.underlying26 (by kernel_rfl) (d:=(xs[0]'(by omega)).1) (pl:=(xs[0]'(by omega)).2) f0 (by omega) fun fuel a cs d' pl hlt hc h' hs=>B6q fuel a cs d' pl hc h' hs fun fuel a cs d'' pl hlt2 hc h'' hs2=>hel fuel a cs d'' pl (Nat.lt_of_lt_of_le (Nat.lt_trans hlt2 (Nat.lt_trans hlt g0)) hN) hc h'' hs2
  obtain⟨u1,l1,e1,r1,k1,w1,b1⟩:=A2e (P:=RAt) (Q:=B2w) (f:=fun _=>1) (sz:=4) Tryz.underlying27 (by kernel_rfl) (d:=(xs[1]'(by omega)).1) (pl:=(xs[1]'(by omega)).2) f1 (by omega) fun fuel a cs d' pl _ hc h' hs=>B6p fuel a cs d' pl hc h' hs
  simp at e0 e1
  subst e0 e1
  refine⟨v0,v1,⟨l0,l1⟩,rfl,⟨r0,r1⟩,⟨k0,by show l0.length*80≤reachBytes;unfold reachBytes;omega,k1,by show l1.length*48≤reachBytes;unfold reachBytes;omega⟩,?_⟩
  show 1+((l0.map (jW (jWB N))).sum+l1.length)≤_
  omega
theorem A7j:∀ (N fuel:Nat) (a:Addr) (cs:List Value) (d':DataW H) (pl:List MemPlace),SizeOf.sizeOf d' < N→w.cells? base a 2=some cs→DataW.trod enc Tryz.prog w base spare held fuel 29 cs=some (d',pl)→Rows.uptoBulk d'≤1048576→∃ y,BAt N w a y∧BOk N y∧1+jWB N y≤60*Rows.uptoBulk d'
 | 0,_,_,_,_,_,h,_,_,_=>by omega
 | N+1,fuel,a,cs,d',pl,hN,hc,h,hs=>by
  obtain⟨_,hlen,hcell⟩:=World.cells?_some hc
  obtain⟨v0,v1,y,rfl,hr,hk,hw⟩:=A7i (A7j N) (by omega) h hlen hs
  refine⟨y,⟨v0,v1,?_,hcell 1 (by omega),hr⟩,hk,hw⟩
  have:=hcell 0 (by omega)
  simpa [Addr.add] using this
set_option maxRecDepth 100000 in
theorem open_bodyU {v:Value}{fuel:Nat}{d:DataW H}{pl:List MemPlace}(N:Nat) (hN:SizeOf.sizeOf d≤N) (h:DataW.trod enc Tryz.prog w base spare held fuel 29 v.cells.toList=some (d,pl)) (hB:Rows.uptoBulk d≤1048576):∃ v0 v1 y,v = .agg #[v0,v1]∧BRd N w v0 v1 y∧BOk (N+1) y∧jWB (N+1) y≤60*Rows.uptoBulk d:=by
 have hlen:v.cells.toList.length=2:=by
  obtain⟨xs,n,_,_,hlen,_,_⟩:=DataW.trod_struct Tryz.underlying29 h
  exact hlen
 obtain⟨v0,v1,y,hcs,hr,hk,hw⟩:=A7i (A7j N) hN h hlen hB
 clear h hlen
 refine⟨v0,v1,y,?_,hr,hk,by omega⟩
 cases v <;> simp[Value.cells] at hcs
 rename_i cs
 have:cs=#[v0,v1]:=by cases cs;simp_all
 rw[this]
end
end L
end Go.Proofs.YtelmjekjohbmjaaGreatDoor
namespace Go.Proofs.YtelmjekjohbmjaaGreatDoor
namespace L
open Go.RowKit
def A1e (kind:Int) (l:List UInt8):Int:=if 4000 < l.length then 4 else if kind=8∧Lib.validD l=false then 9 else 0
set_option maxHeartbeats 1000000 in
set_option maxRecDepth 100000 in
theorem B0r {w:World}{ao:Option Addr}{cap:Nat}(hao:ao=none→cap=0) (hcap:cap≤9223372036854775807) :
  Calls Tryz.prog 139 #[.slice ao 0 cap] w fun e w'=>e = .returned (.bool true)∧Below w.heap.size w w':=by
 have hcz:(0:Int)≤(cap:Int):=by omega
 cases ao with
 | none=>
  obtain rfl:=hao rfl
  go_enter Tryz.func139,Tryz.ntmps139
  go_wp2
  go_loopg [0] 1 (fun _ s0 wx=>s0 = .slice none 0 0∧w=wx)
  case atStart=>exact⟨rfl,rfl⟩
  case round=>
   obtain⟨rfl,rfl⟩:=hrel
   go_wp2
   go_ret
   exact⟨rfl,Below.refl _ _⟩
 | some x=>
  go_enter Tryz.func139,Tryz.ntmps139
  go_wp2
  go_loopg [0] 1 (fun _ s0 wx=>s0 = .slice (some x) 0 0∧w=wx)
  case atStart=>exact⟨rfl,rfl⟩
  case round=>
   obtain⟨rfl,rfl⟩:=hrel
   go_wp2
   go_ret
   exact⟨rfl,Below.refl _ _⟩
theorem B7t {w:World}{ao:Option Addr}{n cap:Nat}{l:List UInt8}(h:RdL 1 YAt w (.slice ao n cap) l) (hT:Tabs w) :
  Calls Tryz.prog 139 #[.slice ao n cap] w fun e w'=>e = .returned (.bool (Lib.validD l))∧Below w.heap.size w w':=by
 obtain⟨ao',n',cap',e,h1,h2,h3,h4,h5⟩:=h
 cases e
 unfold maxLen at h3
 by_cases hn:n=0
 ·subst hn
  have hl:l = []:=List.eq_nil_of_length_eq_zero h1
  subst hl
  exact B0r (fun e=>(h4 e).2) h3
 ·obtain⟨y,hy⟩:∃ y,l[0]?=some y:=⟨l[0]'(by omega),List.getElem?_eq_getElem (by omega)⟩
  obtain⟨b,o,rfl,_⟩:=RdL.get (n:=n) (cap:=cap) YAt.plain ⟨ao,n,cap,rfl,h1,h2,by unfold maxLen;exact h3,h4,h5⟩ hy
  exact B4v (fun i x hx=>by have:=h5 _ rfl i x hx;rw[Nat.mul_one,A0j] at this;exact this) h1.symm h2 h3 hT
set_option maxHeartbeats 1000000 in
set_option maxRecDepth 100000 in
theorem A7z {w:World}(kind:Int){ao:Option Addr}{n cap:Nat}{l:List UInt8}(h:RdL 1 YAt w (.slice ao n cap) l) (hT:Tabs w) :
  Calls Tryz.prog 101 #[.int .i64 kind,.slice ao n cap] w fun e w'=>e = .returned (.int .i64 (A1e kind l))∧Below w.heap.size w w':=by
 have hv:=B7t h hT
 obtain⟨ao',n',cap',e,h1,h2,h3,h4,h5⟩:=h
 cases e
 have HL:Hid (l.length=n):=h1
 clear h1 h5
 obtain⟨q,Hq⟩:∃ q,Hid (q=Lib.validD l):=⟨_,rfl⟩
 rw[←Hq.out] at hv
 by_cases hm:4000 < n
 ·have HR:Hid (A1e kind l=4):=by show _=_;unfold A1e;rw[HL.out,if_pos hm]
  have hmz:(4000:Int) < (n:Int):=by omega
  go_enter Tryz.func101,Tryz.ntmps101
  go_wp2
  go_ret
  exact⟨by rw[HR.out];rfl,Below.refl _ _⟩
 ·have hmz:¬ ((4000:Int) < (n:Int)):=by omega
  by_cases hk:kind=8
  ·subst hk
   cases q with
   | true=>
    have HR:Hid (A1e 8 l=0):=by show _=_;unfold A1e;rw[HL.out,if_neg hm,←Hq.out,if_neg (by simp)]
    go_enter Tryz.func101,Tryz.ntmps101
    go_wp2_with (go_at_call 139;refine hv.mono ?_;rintro e w1 ⟨rfl,hb1⟩)
    go_ret
    exact⟨by rw[HR.out];rfl,hb1⟩
   | false=>
    have HR:Hid (A1e 8 l=9):=by show _=_;unfold A1e;rw[HL.out,if_neg hm,←Hq.out,if_pos ⟨rfl,rfl⟩]
    go_enter Tryz.func101,Tryz.ntmps101
    go_wp2_with (go_at_call 139;refine hv.mono ?_;rintro e w1 ⟨rfl,hb1⟩)
    go_ret
    exact⟨by rw[HR.out];rfl,hb1⟩
  ·have HR:Hid (A1e kind l=0):=by show _=_;unfold A1e;rw[HL.out,if_neg hm,if_neg (by intro h;exact hk h.1)]
   have hkb:(kind == 8)=false:=beq_eq_false_iff_ne.2 hk
   clear hk hv
   go_enter Tryz.func101,Tryz.ntmps101
   go_wp2
   go_ret
   exact⟨by rw[HR.out];rfl,Below.refl _ _⟩
set_option maxHeartbeats 1000000 in
set_option maxRecDepth 100000 in
theorem B1e {w:World}{c:Nat}{x:FI}(hc:w.heap[c]?=some (.cells (cFI x) 53 (0,0))){ao:Option Addr}{n cap:Nat}{l:List UInt8}(h:RdL 1 YAt w (.slice ao n cap) l) (hT:Tabs w) :
  Calls Tryz.prog 100 #[.slice ao n cap,.pointer (some ⟨c,0,none⟩)] w fun e w'=>e = .returned (.int .i64 (A1e x.kind l))∧Below w.heap.size w w':=by
 have c2:w.cell? ⟨c,2,none⟩=some (.int .i64 x.kind):=A0a hc 2 _ rfl
 have hcl:c < w.heap.size:=(Array.getElem?_eq_some_iff.1 hc).1
 have hf:=A7z x.kind h hT
 go_enter Tryz.func100,Tryz.ntmps100
 go_wp2_with fail
 refine hf.mono ?_
 rintro e w1 ⟨rfl,hb⟩
 go_wp2
 go_ret
 exact⟨rfl,hb⟩
set_option maxHeartbeats 1000000 in
set_option maxRecDepth 100000 in
theorem B3b {v:Value}{l:List (List UInt8)}{w:World}{c:Nat}{x:FI}(h:RdL 1 ZAt w v l) (hT:Tabs w) (hc:w.heap[c]?=some (.cells (cFI x) 53 (0,0))) :
  Calls Tryz.prog 99 #[v,.func (.func 100) #[] #[.pointer (some ⟨c,0,none⟩)]] w fun e w'=>e = .returned (.int .i64 (A0g (A1e x.kind) l))∧Below w.heap.size w w':=by
 obtain⟨ao,n,cap,rfl,Hn,hcap⟩:=h.shape
 obtain⟨R,HR⟩:∃ R,Hid (R=A0g (A1e x.kind) l):=⟨_,rfl⟩
 rw[←HR.out]
 go_enter Tryz.func99,Tryz.ntmps99
 go_wp2_with fail
 go_loopg [10] n (fun m i wr=>∃ k:Nat,k+m=n∧i = .int .i64 k∧Hid (R=A0g (A1e x.kind) (l.drop k))∧Below w.heap.size w wr)
 case atStart=>exact⟨0,by omega,rfl,HR,Below.refl _ _⟩
 case round=>
  obtain⟨k,hk,rfl,HK,hb⟩:=hrel
  have hcr:=(hb.block c (Array.getElem?_eq_some_iff.1 hc).1).trans hc
  by_cases hlt:k < n
  ·obtain⟨a,Ha⟩:∃ a,Hid (l[k]?=some a):=⟨l[k]'(by rw[←Hn.out];exact hlt),List.getElem?_eq_getElem (by rw[←Hn.out];exact hlt)⟩
   obtain⟨b,off,rfl,hat⟩:=(h.below ZAt.stays hb).get ZAt.plain Ha.out
   obtain⟨vz,hz0,hz1⟩:=hat
   rw[Nat.mul_one] at hz0
   have hki:(k:Int) < (n:Int):=by omega
   obtain⟨az,nz,cz,rfl,Hnz,hnz⟩:=hz1.shape
   have hcall:=B1e hcr hz1 (hT.below hb)
   have hst:=A2r (f:=A1e x.kind) Ha.out
   generalize hF:A1e x.kind a=F at hcall hst
   by_cases hz:F=0
   ·have HX:Hid (R=A0g (A1e x.kind) (l.drop (k+1))):=by
     show _=_
     rw[HK.out,hst,if_pos hz]
    have ez:(F != 0)=false:=by simp[hz]
    clear hst hF hz
    go_wp2_with fail
    refine hcall.mono ?_
    rintro e w1 ⟨rfl,hb1⟩
    go_wp2_with fail
    go_roundg (n - (k+1))
    case measure=>omega
    case rel=>exact⟨k+1,by omega,by go_num,HX,hb.trans (hb1.mono hb.size)⟩
   ·have HX:Hid (R=F):=by
     show _=_
     rw[HK.out,hst,if_neg hz]
    have ez:(F != 0)=true:=by simpa using hz
    clear hst hF hz
    go_wp2_with fail
    refine hcall.mono ?_
    rintro e w1 ⟨rfl,hb1⟩
    go_wp2
    go_ret
    exact⟨by rw[HX.out];rfl,hb.trans (hb1.mono hb.size)⟩
  ·have HX:Hid (R=0):=by
    show _=_
    rw[HK.out]
    exact A2b (by rw[←Hn.out];omega)
   go_wp2
   go_ret
   exact⟨by rw[HX.out];rfl,hb⟩
set_option maxHeartbeats 1000000 in
set_option maxRecDepth 100000 in
theorem B3d {β:Type}{w:World}(x:FI) (v:VI β){a1 a2 a3:Option Addr}{n1 n2 n3 c1 c2 c3:Nat}(h2:RdL 1 ZAt w (.slice a2 n2 c2) v.bytes) (hT:Tabs w) :
  Calls Tryz.prog 98 #[vFI x,.agg #[.int .i64 v.number,.slice a1 n1 c1,.slice a2 n2 c2,.slice a3 n3 c3]] w fun e w'=>e = .returned (.int .i64 (A0g (A1e x.kind) v.bytes))∧Below w.heap.size w w':=by
 have hb2:Below w.heap.size w ((w.alloc (.cells (cFI x) 53)).alloc (.cells #[.int .i64 v.number,.slice a1 n1 c1,.slice a2 n2 c2,.slice a3 n3 c3] 34)):=((Below.refl _ _).alloc (Nat.le_refl _) _).alloc (by simp) _
 have hi:=B3b (x:=x) (h2.below ZAt.stays hb2) (hT.below hb2) (A0r w _ _)
 have hmf:=A2y
 unfold cFI at hb2 hi
 unfold vFI
 go_enter Tryz.func98,Tryz.ntmps98
 go_wp2_with fail
 refine hi.mono ?_
 rintro e w1 ⟨rfl,hb1⟩
 go_wp2
 go_ret
 exact⟨rfl,hb2.trans (hb1.mono hb2.size)⟩
end L
end Go.Proofs.YtelmjekjohbmjaaGreatDoor
