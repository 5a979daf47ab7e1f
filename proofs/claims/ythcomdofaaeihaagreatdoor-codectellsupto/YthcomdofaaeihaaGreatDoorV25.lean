import Derived.Test.YthcomdofaaeihaaGreatDoorRows
import Derived.Test.YthcomdofaaeihaaGreatDoorV24
set_option maxHeartbeats 32000000
set_option maxRecDepth 100000
set_option linter.unusedVariables false
namespace Go.Proofs.YthcomdofaaeihaaGreatDoor
namespace L
open Go.ChangeShapes Go.WideShapes Go.ChangeAt Go.RowKit
section
variable{fuel i:Nat}{cs:List Value}
variable {H:Type}{enc:TypeId×Value→H}{w:World}{base:Nat}{spare:Nat→Bool}{held:Bool}
theorem YD (d:DataW H):1≤Rows.uptoBulk d:=by
 cases d with
 | lit l=>cases l <;> simp[Rows.uptoBulk]
 | nil=>simp[Rows.uptoBulk]
 | ptr d=>simp[Rows.uptoBulk]
 | slice elems spare=>simp[Rows.uptoBulk]
 | agg parts=>simp[Rows.uptoBulk]
 | iface t d=>simp[Rows.uptoBulk]
 | map entries=>simp[Rows.uptoBulk]
 | held h=>simp[Rows.uptoBulk]
theorem C1u (l r:List (DataW H)):Rows.uptoBulkAll (l++r)=Rows.uptoBulkAll l+Rows.uptoBulkAll r:=by
 induction l with
 | nil=>simp[Rows.uptoBulkAll]
 | cons x l ih=>simp only[lT,Rows.uptoBulkAll,ih];omega
theorem bulk_mem {d:DataW H}{l:List (DataW H)}(h:d∈l):Rows.uptoBulk d≤Rows.uptoBulkAll l:=by
 induction l with
 | nil=>cases h
 | cons x r ih=>
 simp only[Rows.uptoBulkAll];cases yY.1 h with
 | inl e=>subst e;omega
 | inr e=>have:=ih e;omega
theorem C9e {α:Type}{R:Nat→α→Prop}{f : α→Nat}{D:Nat→DataW H}:∀ len:Nat,(∀ i,i<len→∃ y,R i y∧f y≤60*Rows.uptoBulk (D i))→∃ l:List α,l.length=len∧(∀ k y,l[k]?=some y→R k y)∧(l.map f).sum≤60*Rows.uptoBulkAll ((List.range len).map D)∧len≤Rows.uptoBulkAll ((List.range len).map D)
 | 0,_=>⟨[],rfl,fun k y h=>by simp at h,by simp[Rows.uptoBulkAll],by simp⟩
 | len+1,h=>by
  obtain⟨l,h1,h2,h3,h4⟩:=C9e len fun i hi=>h i (by omega)
  obtain⟨y,hy,hf⟩:=h len (by omega)
  have hb:=YD (D len)
  refine⟨l++[y],by simp[h1],fun k z hz=>?_,?_,?_⟩
  ·by_cases hk:k<l.length
   ·rw[gM hk] at hz;exact h2 k z hz
   ·have ac:k=l.length:=by
     have:=(yG.1 hz).1;rw[yQ,List.length_singleton] at this;omega
    subst ac;rw[gL (zG _),Nat.sub_self] at hz;have:y=z:=by simpa using hz
    subst this;rw[h1];exact hy
  ·rw[List.range_succ,wM,wM,C1u,jU];simp only[wS,tA,tZ,oD,Rows.uptoBulkAll];omega
  ·rw[List.range_succ,wM,C1u];simp only[wS,tA,Rows.uptoBulkAll];omega
theorem fW {α:Type}{P:World→Addr→α→Prop}{Q : α→Prop}{f : α→Nat}{sz:Nat}{t e:TypeId}(ht:Tryz.prog.underlying t=some (.slice e))(hc:Tryz.prog.cellsOf e=sz)
  {d:DataW H}{pl:List MemPlace}(h:DataW.trod enc Tryz.prog w base spare held fuel t cs=some (d,pl)) (hB:Rows.uptoBulk d≤1048576)
  (ag:∀ (fuel:Nat) (a:Addr) (cs:List Value) (d':DataW H) (pl:List MemPlace),SizeOf.sizeOf d'<SizeOf.sizeOf d→w.cells? base a sz=some cs→DataW.trod enc Tryz.prog w base spare held fuel e cs=some (d',pl)→Rows.uptoBulk d'≤1048576→∃ y,P w a y∧Q y∧f y≤60*Rows.uptoBulk d') :
  ∃ v l,cs = [v]∧RdL sz P w v l∧(∀ y∈l,Q y)∧(l.map f).sum+60≤60*Rows.uptoBulk d∧l.length+1≤Rows.uptoBulk d:=by
 rcases Go.Deep.open_slice ht h with⟨hcs,hx⟩|⟨a,len,cap,m,n,D,Pl,hcs,_,hl,hm,hmm,hx,hels⟩
 ·have hb:=YD d;exact⟨_,[],hcs,RdL.nil _ _ _,fun y hy=>by simp at hy,by simp;omega,by simpa using hb⟩
 ·rw[hc] at hels;have hd:=(Prod.mk.inj hx).1;have ak:len≤m:=by rw[hmm];split <;> omega
  have aj:Rows.uptoBulkAll ((List.range len).map D)+1≤Rows.uptoBulk d:=by rw[hd];simp only[Rows.uptoBulk];omega
  obtain⟨l,h1,h2,h3,h4⟩:=C9e (R:=fun i y=>P w (a.add (i*sz)) y∧Q y) (f:=f) (D:=D) len fun i hi=>by
   obtain⟨cs',g1,g2⟩:=hels i (by omega);have ac:D i∈(List.range len).map D:=vT.2 ⟨i,List.mem_range.2 hi,rfl⟩;obtain⟨y,q1,q2,q3⟩:=ag n _ cs' (D i) (Pl i) (by
    have:=List.sizeOf_lt_of_mem ac;rw[hd,DataW.slice.sizeOf_spec];omega) g1 g2 (by have:=bulk_mem ac;omega)
   exact⟨y,⟨q1,q2⟩,q3⟩
  refine⟨_,l,hcs,⟨some a,len,cap,rfl,h1,hl,hm,fun h=>(by cases h),fun x ah k y hy=>?_⟩,fun y hy=>?_,by omega,by omega⟩
  ·cases ah
   exact(h2 k y hy).1
  ·obtain⟨k,hk⟩:=bI hy;exact(h2 k y hk).2
theorem B8h {c:Value}{x:DataW H×List MemPlace}(h:DataW.trod enc Tryz.prog w base spare held fuel 64 [c]=some x):∃ n:Nat,c = .int .u64 (n:Int)∧n≤18446744073709551615:=by
 obtain⟨n,h1,_,h2⟩:=DataW.trod_int Tryz.underlying64 h;simp at h1;have:=bounds_u64 h2;exact⟨n.toNat,by rw[h1,Int.toNat_of_nonneg (by omega)],by omega⟩
theorem C9v (fuel:Nat)(a:Addr)(cs:List Value)(d:DataW H)(pl:List MemPlace)(hc:w.cells? base a 1=some cs)(h:DataW.trod enc Tryz.prog w base spare held fuel 64 cs=some (d,pl)):∃ y,UAt w a y∧y≤18446744073709551615∧0≤60*Rows.uptoBulk d:=by
 obtain⟨_,hlen,hcell⟩:=oR hc
 match cs,hlen with
 | [v0],_=>
 obtain⟨n1,rfl,z1⟩:=B8h h;refine⟨n1,?_,z1,qA _⟩;have:=hcell 0 (by omega);simpa [Addr.add,UAt] using this
theorem C5j (fuel:Nat)(a:Addr)(cs:List Value)(d:DataW H)(pl:List MemPlace)(hc:w.cells? base a 1=some cs)(h:DataW.trod enc Tryz.prog w base spare held fuel 5 cs=some (d,pl)):∃ y,YAt w a y∧True∧0≤60*Rows.uptoBulk d:=by
 obtain⟨_,hlen,hcell⟩:=oR hc
 match cs,hlen with
 | [v0],_=>
 obtain⟨n,h1,_,h2⟩:=DataW.trod_int Tryz.underlying5 h;simp at h1;subst h1;have hb:=bounds_u8 h2;refine⟨UInt8.ofNat n.toNat,?_,trivial,qA _⟩;have:=hcell 0 (by omega);have e:(((UInt8.ofNat n.toNat).toNat:Nat):Int)=n:=by
  rw[UInt8.toNat_ofNat',eJ (by omega),Int.toNat_of_nonneg (by omega)]
 show w.cell? a=some (.int .u8 (((UInt8.ofNat n.toNat).toNat:Nat):Int));rw[e];simpa [Addr.add] using this
theorem B8f {d:DataW H}{pl:List MemPlace}(h:DataW.trod enc Tryz.prog w base spare held fuel 30 cs=some (d,pl))(hB:Rows.uptoBulk d≤1048576):∃ v l,cs = [v]∧RdL 1 YAt w v l∧l.length+1≤Rows.uptoBulk d:=by
 obtain⟨v,l,e,r,_,_,b⟩:=fW (P:=YAt) (Q:=fun _=>True) (f:=fun _=>0) (sz:=1) Tryz.underlying30 (by kernel_rfl) h hB fun fuel a cs d' pl _ hc h' _=>C5j fuel a cs d' pl hc h'
 exact⟨v,l,e,r,b⟩
theorem C5l (fuel:Nat)(a:Addr)(cs:List Value)(d:DataW H)(pl:List MemPlace)(hc:w.cells? base a 1=some cs)(h:DataW.trod enc Tryz.prog w base spare held fuel 30 cs=some (d,pl))(hB:Rows.uptoBulk d≤1048576):∃ y,ZAt w a y∧y.length*1≤reachBytes∧1≤60*Rows.uptoBulk d:=by
 obtain⟨_,hlen,hcell⟩:=oR hc;obtain⟨v,l,e,r,b⟩:=B8f h hB;subst e;refine⟨l,⟨v,?_,r⟩,by unfold reachBytes;omega,by omega⟩;have:=hcell 0 (by omega);simpa [Addr.add] using this
theorem D0b {xs:List (DataW H×List MemPlace)}(hi:i<xs.length):Rows.uptoBulk (xs[i]'hi).1+1≤Rows.uptoBulk (DataW.agg (xs.map (·.1))):=by
 have hm:(xs[i]'hi).1∈xs.map (·.1):=vT.2 ⟨_,List.getElem_mem hi,rfl⟩;have:=bulk_mem hm;simp only[Rows.uptoBulk];omega
theorem C2r {xs:List (DataW H×List MemPlace)}(hi:i<xs.length):SizeOf.sizeOf (xs[i]'hi).1<SizeOf.sizeOf (DataW.agg (xs.map (·.1))):=by
 have:(xs[i]'hi).1∈xs.map (·.1):=vT.2 ⟨_,List.getElem_mem hi,rfl⟩;have:=List.sizeOf_lt_of_mem this;rw[DataW.agg.sizeOf_spec];omega
theorem E1a {xs:List (DataW H×List MemPlace)}(h:xs.length=4):Rows.uptoBulk (DataW.agg (xs.map (·.1)))=Rows.uptoBulk (xs[0]'(by omega)).1+Rows.uptoBulk (xs[1]'(by omega)).1+Rows.uptoBulk (xs[2]'(by omega)).1+Rows.uptoBulk (xs[3]'(by omega)).1+1:=by
 match xs,h with
 | [a,b,c,d],_=>simp[Rows.uptoBulk,Rows.uptoBulkAll];omega
theorem E0z {xs:List (DataW H×List MemPlace)}(h:xs.length=2):Rows.uptoBulk (DataW.agg (xs.map (·.1)))=Rows.uptoBulk (xs[0]'(by omega)).1+Rows.uptoBulk (xs[1]'(by omega)).1+1:=by
 match xs,h with
 | [a,b],_=>simp[Rows.uptoBulk,Rows.uptoBulkAll]
theorem C9x (fuel:Nat)(a:Addr)(cs:List Value)(d:DataW H)(pl:List MemPlace)(hc:w.cells? base a 4=some cs)(h:DataW.trod enc Tryz.prog w base spare held fuel 78 cs=some (d,pl))(hB:Rows.uptoBulk d≤1048576):∃ y,RAt w a y∧kU y∧1≤60*Rows.uptoBulk d:=by
 obtain⟨_,hlen,hcell⟩:=oR hc;obtain⟨xs,n,_,hx,_,ac,hf⟩:=DataW.trod_struct Tryz.underlying78 h;have hd:=(Prod.mk.inj hx).1
 match cs,hlen with
 | [v0,v1,v2,v3],_=>
 have ag:xs.length=4:=ac;have f0:DataW.trod enc Tryz.prog w base spare held n 3 [v0]=xs[0]?:=hf 0 _ rfl;have f1:DataW.trod enc Tryz.prog w base spare held n 3 [v1]=xs[1]?:=hf 1 _ rfl;have f2:DataW.trod enc Tryz.prog w base spare held n 64 [v2]=xs[2]?:=hf 2 _ rfl;have f3:DataW.trod enc Tryz.prog w base spare held n 30 [v3]=xs[3]?:=hf 3 _ rfl;rw[vG (by omega)] at f0 f1 f2 f3;have g3:=D0b (xs:=xs) (i:=3) (by omega);rw[←hd] at g3;obtain⟨n0,rfl,z0⟩:=jB f0;obtain⟨n1,rfl,z1⟩:=jB f1;obtain⟨n2,rfl,z2⟩:=B8h f2;obtain⟨u3,l3,e3,r3,b3⟩:=B8f (d:=(xs[3]'(by omega)).1) (pl:=(xs[3]'(by omega)).2) f3 (by omega);simp at e3;subst e3;refine⟨⟨n0,n1,n2,l3⟩,⟨v3,?_,hcell 1 (by omega),hcell 2 (by omega),hcell 3 (by omega),r3⟩,⟨z0,z1,by show n2<18446744073709551616;omega,by show l3.length*1≤reachBytes;unfold reachBytes;omega⟩,by have:=YD d;omega⟩;have:=hcell 0 (by omega);simpa [Addr.add] using this
theorem C9y {β:Type}{P:World→Addr→β→Prop}{Q : β→Prop}{f : β→Nat}(fuel:Nat)(a:Addr)(cs:List Value)(d:DataW H)(pl:List MemPlace)(hc:w.cells? base a 4=some cs)(h:DataW.trod enc Tryz.prog w base spare held fuel 63 cs=some (d,pl))(hB:Rows.uptoBulk d≤1048576)
  (ac:∀ (fuel:Nat) (a:Addr) (cs:List Value) (d':DataW H) (pl:List MemPlace),SizeOf.sizeOf d'<SizeOf.sizeOf d→w.cells? base a 2=some cs→DataW.trod enc Tryz.prog w base spare held fuel 29 cs=some (d',pl)→Rows.uptoBulk d'≤1048576→∃ y,P w a y∧Q y∧1+f y≤60*Rows.uptoBulk d'):∃ y,VAt P w a y∧VOk Q y∧jW f y≤60*Rows.uptoBulk d:=by
 obtain⟨_,hlen,hcell⟩:=oR hc;obtain⟨xs,n,_,hx,_,ag,hf⟩:=DataW.trod_struct Tryz.underlying63 h;have hd:=(Prod.mk.inj hx).1
 match cs,hlen with
 | [v0,v1,v2,v3],_=>
 have ah:xs.length=4:=ag;have f0:DataW.trod enc Tryz.prog w base spare held n 3 [v0]=xs[0]?:=hf 0 _ rfl;have f1:DataW.trod enc Tryz.prog w base spare held n 59 [v1]=xs[1]?:=hf 1 _ rfl;have f2:DataW.trod enc Tryz.prog w base spare held n 60 [v2]=xs[2]?:=hf 2 _ rfl;have f3:DataW.trod enc Tryz.prog w base spare held n 61 [v3]=xs[3]?:=hf 3 _ rfl;rw[vG (by omega)] at f0 f1 f2 f3;have hb4:=E1a ah;rw[←hd] at hb4;have g0:=YD (xs[0]'(by omega)).1;have g3:=C2r (xs:=xs) (i:=3) (by omega);rw[←hd] at g3;obtain⟨n0,rfl,z0⟩:=jB f0;obtain⟨u1,l1,e1,r1,k1,_,b1⟩:=fW (P:=UAt) (Q:=fun n=>n≤18446744073709551615) (f:=fun _=>0) (sz:=1) Tryz.underlying59 (by kernel_rfl) (d:=(xs[1]'(by omega)).1) (pl:=(xs[1]'(by omega)).2) f1 (by omega) fun fuel a cs d' pl _ hc h' _=>C9v fuel a cs d' pl hc h'
 obtain⟨u2,l2,e2,r2,k2,w2,b2⟩:=fW (P:=ZAt) (Q:=fun l=>l.length*1≤reachBytes) (f:=fun _=>1) (sz:=1) Tryz.underlying60 (by kernel_rfl) (d:=(xs[2]'(by omega)).1) (pl:=(xs[2]'(by omega)).2) f2 (by omega) fun fuel a cs d' pl _ hc h' hs=>C5l fuel a cs d' pl hc h' hs
 obtain⟨u3,l3,e3,r3,k3,w3,b3⟩:=fW (P:=P) (Q:=Q) (f:=fun s=>1+f s) (sz:=2) Tryz.underlying61 (by kernel_rfl) (d:=(xs[3]'(by omega)).1) (pl:=(xs[3]'(by omega)).2) f3 (by omega) fun fuel a cs d' pl hlt hc h' hs=>ac fuel a cs d' pl (Nat.lt_trans hlt g3) hc h' hs
 simp at e1 e2 e3;subst e1 e2 e3;refine⟨⟨n0,l1,l2,l3⟩,⟨v1,v2,v3,?_,hcell 1 (by omega),hcell 2 (by omega),hcell 3 (by omega),r1,r2,r3⟩,⟨z0,fun n hn=>by have:=k1 n hn;omega,by show l1.length*8≤reachBytes;unfold reachBytes;omega,k2,by show l2.length*24≤reachBytes;unfold reachBytes;omega,k3,by show l3.length*48≤reachBytes;unfold reachBytes;omega⟩,?_⟩
 ·have:=hcell 0 (by omega);simpa [Addr.add] using this
 show 1+l1.length+l2.length+(l3.map fun s=>1+f s).sum≤_;omega
theorem B2n {N:Nat}(aj:∀ (fuel:Nat) (a:Addr) (cs:List Value) (d':DataW H) (pl:List MemPlace),SizeOf.sizeOf d'<N→w.cells? base a 2=some cs→DataW.trod enc Tryz.prog w base spare held fuel 29 cs=some (d',pl)→Rows.uptoBulk d'≤1048576→∃ y,BAt N w a y∧BOk N y∧1+jWB N y≤60*Rows.uptoBulk d')
  {d:DataW H}{pl:List MemPlace}(hN:SizeOf.sizeOf d≤N) (h:DataW.trod enc Tryz.prog w base spare held fuel 29 cs=some (d,pl)) (hl:cs.length=2) (hB:Rows.uptoBulk d≤1048576):∃ v0 v1 y,cs = [v0,v1]∧BRd N w v0 v1 y∧BOk (N+1) y∧1+jWB (N+1) y≤60*Rows.uptoBulk d:=by
 obtain⟨xs,n,_,hx,_,ak,hf⟩:=DataW.trod_struct Tryz.underlying29 h;have hd:=(Prod.mk.inj hx).1
 match cs,hl with
 | [v0,v1],_=>
 have au:xs.length=2:=ak;have f0:DataW.trod enc Tryz.prog w base spare held n 26 [v0]=xs[0]?:=hf 0 _ rfl;have f1:DataW.trod enc Tryz.prog w base spare held n 27 [v1]=xs[1]?:=hf 1 _ rfl;rw[vG (by omega)] at f0 f1;have hb2:=E0z au;have g0:=C2r (xs:=xs) (i:=0) (by omega);rw[←hd] at hb2 g0;obtain⟨u0,l0,e0,r0,k0,w0,b0⟩:=fW (P:=VAt (BAt N)) (Q:=VOk (BOk N)) (f:=jW (jWB N)) (sz:=4) Tryz.underlying26 (by kernel_rfl) (d:=(xs[0]'(by omega)).1) (pl:=(xs[0]'(by omega)).2) f0 (by omega) fun fuel a cs d' pl hlt hc h' hs=>C9y fuel a cs d' pl hc h' hs fun fuel a cs ag pl ac hc ah hs2=>aj fuel a cs ag pl (nD (Nat.lt_trans ac (Nat.lt_trans hlt g0)) hN) hc ah hs2
 obtain⟨u1,l1,e1,r1,k1,w1,b1⟩:=fW (P:=RAt) (Q:=kU) (f:=fun _=>1) (sz:=4) Tryz.underlying27 (by kernel_rfl) (d:=(xs[1]'(by omega)).1) (pl:=(xs[1]'(by omega)).2) f1 (by omega) fun fuel a cs d' pl _ hc h' hs=>C9x fuel a cs d' pl hc h' hs
 simp at e0 e1;subst e0 e1;refine⟨v0,v1,⟨l0,l1⟩,rfl,⟨r0,r1⟩,⟨k0,by show l0.length*80≤reachBytes;unfold reachBytes;omega,k1,by show l1.length*48≤reachBytes;unfold reachBytes;omega⟩,?_⟩;show 1+((l0.map (jW (jWB N))).sum+l1.length)≤_;omega
theorem B8g:∀ (N fuel:Nat) (a:Addr) (cs:List Value) (d':DataW H) (pl:List MemPlace),SizeOf.sizeOf d'<N→w.cells? base a 2=some cs→DataW.trod enc Tryz.prog w base spare held fuel 29 cs=some (d',pl)→Rows.uptoBulk d'≤1048576→∃ y,BAt N w a y∧BOk N y∧1+jWB N y≤60*Rows.uptoBulk d'
 | 0,_,_,_,_,_,h,_,_,_=>by omega
 | N+1,fuel,a,cs,d',pl,hN,hc,h,hs=>by
  obtain⟨_,hlen,hcell⟩:=oR hc
  obtain⟨v0,v1,y,rfl,hr,hk,hw⟩:=B2n (B8g N) (by omega) h hlen hs
  refine⟨y,⟨v0,v1,?_,hcell 1 (by omega),hr⟩,hk,hw⟩
  have:=hcell 0 (by omega)
  simpa [Addr.add] using this
theorem open_bodyU {v:Value}{d:DataW H}{pl:List MemPlace}(N:Nat)(hN:SizeOf.sizeOf d≤N)(h:DataW.trod enc Tryz.prog w base spare held fuel 29 v.cells.toList=some (d,pl))(hB:Rows.uptoBulk d≤1048576):∃ v0 v1 y,v = .agg #[v0,v1]∧BRd N w v0 v1 y∧BOk (N+1) y∧jWB (N+1) y≤60*Rows.uptoBulk d:=by
 have hlen:v.cells.toList.length=2:=by
  obtain⟨xs,n,_,_,hlen,_,_⟩:=DataW.trod_struct Tryz.underlying29 h;exact hlen
 obtain⟨v0,v1,y,hcs,hr,hk,hw⟩:=B2n (B8g N) hN h hlen hB;clear h hlen;refine⟨v0,v1,y,?_,hr,hk,by omega⟩;cases v <;> simp[Value.cells] at hcs
 rename_i cs;have:cs=#[v0,v1]:=by cases cs;simp_all
 rw[this]
end
end L
end Go.Proofs.YthcomdofaaeihaaGreatDoor
