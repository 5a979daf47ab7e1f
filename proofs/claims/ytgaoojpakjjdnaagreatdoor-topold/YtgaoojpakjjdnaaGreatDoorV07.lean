import Derived.Test.YtgaoojpakjjdnaaGreatDoorV02
import Derived.Test.YtgaoojpakjjdnaaGreatDoorV06
import Derived.Deep.RegionLaw
set_option maxHeartbeats 32000000
set_option maxRecDepth 100000
namespace Go.Proofs.YtgaoojpakjjdnaaGreatDoor
namespace L
open Go.ChangeShapes Go.WideShapes Go.ChangeAt Go.RowKit
section
variable {H:Type}{enc:TypeId×Value→H}{w:World}{base:Nat}{spare:Nat→Bool}{held:Bool}
theorem A4n {α:Type}{P:World→Addr→α→Prop}{Q : α→Prop}{sz bytes:Nat}{t e:TypeId}(ht:Tryz.prog.underlying t=some (.slice e))(hc:Tryz.prog.cellsOf e=sz)(hby:Tryz.prog.bytesOf e=bytes)
  {fuel:Nat}{cs:List Value}{d:DataW H}{pl:List MemPlace}(h:DataW.trod enc Tryz.prog w base spare held fuel t cs=some (d,pl)) (hsz:Sz t d)
  (ag:∀ (fuel:Nat) (a:Addr) (cs:List Value) (d':DataW H) (pl:List MemPlace),SizeOf.sizeOf d'<SizeOf.sizeOf d→w.cells? base a sz=some cs→DataW.trod enc Tryz.prog w base spare held fuel e cs=some (d',pl)→Sz e d'→∃ y,P w a y∧Q y) :
  ∃ v l,cs = [v]∧RdL sz P w v l∧(∀ y∈l,Q y)∧l.length*bytes≤reachBytes:=by
 rcases Go.Deep.open_slice ht h with⟨hcs,_⟩|⟨a,len,cap,m,n,D,Pl,hcs,_,hl,hm,hmm,hx,hels⟩
 ·exact⟨_,[],hcs,RdL.nil _ _ _,fun y hy=>by simp at hy,by simp⟩
 ·rw[hc] at hels
  have hd:=(Prod.mk.inj hx).1
  have aj:len≤m:=by rw[hmm];split <;> omega
  have hw:(len+(m-len))*bytes≤reachBytes:=by
   refine hsz _ ?_
   rw[hd,DataW.weights,ht]
   simp[hby]
  have hex:∀ i,i<len→∃ y,P w (a.add (i*sz)) y∧Q y:=by
   intro i hi
   obtain⟨cs',h1,h2⟩:=hels i (by omega)
   have ac:D i∈(List.range len).map D:=List.mem_map.2 ⟨i,List.mem_range.2 hi,rfl⟩
   refine ag n _ cs' (D i) (Pl i) ?_ h1 h2 ?_
   ·have:=List.sizeOf_lt_of_mem ac
    rw[hd,DataW.slice.sizeOf_spec]
    omega
   ·intro q hq
    refine hsz q ?_
    rw[hd,DataW.weights,ht]
    simp only[List.mem_cons,List.mem_append]
    exact .inr (.inl (B9r ac q hq))
  obtain⟨f,hf⟩:∃ f:Fin len→α,∀ i,P w (a.add (i.1*sz)) (f i)∧Q (f i):=⟨fun i=>Classical.choose (hex i.1 i.2),fun i=>Classical.choose_spec (hex i.1 i.2)⟩
  refine⟨_,List.ofFn f,hcs,⟨some a,len,cap,rfl,by simp,hl,hm,fun h=>(by cases h),?_⟩,?_,?_⟩
  ·intro x ah k y hy
   cases ah
   rw[List.getElem?_ofFn] at hy
   by_cases hk:k<len
   ·rw[dif_pos hk] at hy
    cases hy
    exact(hf ⟨k,hk⟩).1
   ·rw[dif_neg hk] at hy
    cases hy
  ·intro y hy
   obtain⟨i,rfl⟩:=List.mem_ofFn.1 hy
   exact(hf i).2
  ·simp only[List.length_ofFn]
   exact Nat.le_trans (Nat.mul_le_mul_right _ (Nat.le_add_right _ _)) hw
theorem C2j {fuel:Nat}{c:Value}{x:DataW H×List MemPlace}(h:DataW.trod enc Tryz.prog w base spare held fuel 63 [c]=some x):∃ n:Nat,c = .int .u64 (n:Int)∧n<18446744073709551616:=by
 obtain⟨n,h1,_,h2⟩:=DataW.trod_int Tryz.underlying63 h
 simp at h1
 have:=bounds_u64 h2
 exact⟨n.toNat,by rw[h1,Int.toNat_of_nonneg (by omega)],by omega⟩
theorem D2v (fuel:Nat)(a:Addr)(cs:List Value)(d:DataW H)(pl:List MemPlace)(hc:w.cells? base a 1=some cs)(h:DataW.trod enc Tryz.prog w base spare held fuel 63 cs=some (d,pl)):∃ y,UAt w a y∧y<18446744073709551616:=by
 obtain⟨_,hlen,hcell⟩:=World.cells?_some hc
 match cs,hlen with
 | [v0],_=>
  obtain⟨n1,rfl,z1⟩:=C2j h
  refine⟨n1,?_,z1⟩
  have:=hcell 0 (by omega)
  simpa [Addr.add,UAt] using this
theorem C8q (fuel:Nat)(a:Addr)(cs:List Value)(d:DataW H)(pl:List MemPlace)(hc:w.cells? base a 1=some cs)(h:DataW.trod enc Tryz.prog w base spare held fuel 5 cs=some (d,pl)):∃ y,YAt w a y∧True:=by
 obtain⟨_,hlen,hcell⟩:=World.cells?_some hc
 match cs,hlen with
 | [v0],_=>
  obtain⟨n,h1,_,h2⟩:=DataW.trod_int Tryz.underlying5 h
  simp at h1
  subst h1
  have hb:=bounds_u8 h2
  refine⟨UInt8.ofNat n.toNat,?_,trivial⟩
  have:=hcell 0 (by omega)
  have e:(((UInt8.ofNat n.toNat).toNat:Nat):Int)=n:=by
   rw[UInt8.toNat_ofNat',Nat.mod_eq_of_lt (by omega),Int.toNat_of_nonneg (by omega)]
  show w.cell? a=some (.int .u8 (((UInt8.ofNat n.toNat).toNat:Nat):Int))
  rw[e]
  simpa [Addr.add] using this
theorem C2h {fuel:Nat}{cs:List Value}{d:DataW H}{pl:List MemPlace}(h:DataW.trod enc Tryz.prog w base spare held fuel 32 cs=some (d,pl))(hsz:Sz 32 d):∃ v l,cs = [v]∧RdL 1 YAt w v l∧l.length*1≤reachBytes:=by
 obtain⟨v,l,e,r,_,b⟩:=A4n (P:=YAt) (Q:=fun _=>True) (sz:=1) (bytes:=1) Tryz.underlying32 (by kernel_rfl) (by kernel_rfl) h hsz fun fuel a cs d' pl _ hc h' _=>C8q fuel a cs d' pl hc h'
 exact⟨v,l,e,r,b⟩
theorem C8s (fuel:Nat)(a:Addr)(cs:List Value)(d:DataW H)(pl:List MemPlace)(hc:w.cells? base a 1=some cs)(h:DataW.trod enc Tryz.prog w base spare held fuel 32 cs=some (d,pl))(hsz:Sz 32 d):∃ y,ZAt w a y∧y.length*1≤reachBytes:=by
 obtain⟨_,hlen,hcell⟩:=World.cells?_some hc
 obtain⟨v,l,e,r,b⟩:=C2h h hsz
 subst e
 refine⟨l,⟨v,?_,r⟩,b⟩
 have:=hcell 0 (by omega)
 simpa [Addr.add] using this
theorem D3a (fuel:Nat)(a:Addr)(cs:List Value)(d:DataW H)(pl:List MemPlace)(hc:w.cells? base a 4=some cs)(h:DataW.trod enc Tryz.prog w base spare held fuel 106 cs=some (d,pl))(hsz:Sz 106 d):∃ y,RAt w a y∧B7j y:=by
 obtain⟨_,hlen,hcell⟩:=World.cells?_some hc
 obtain⟨xs,n,_,hx,_,ac,hf⟩:=DataW.trod_struct Tryz.underlying106 h
 have hd:=(Prod.mk.inj hx).1
 rw[hd] at hsz
 match cs,hlen with
 | [v0,v1,v2,v3],_=>
  have ag:xs.length=4:=ac
  have f0:DataW.trod enc Tryz.prog w base spare held n 3 [v0]=xs[0]?:=hf 0 _ rfl
  have f1:DataW.trod enc Tryz.prog w base spare held n 3 [v1]=xs[1]?:=hf 1 _ rfl
  have f2:DataW.trod enc Tryz.prog w base spare held n 63 [v2]=xs[2]?:=hf 2 _ rfl
  have f3:DataW.trod enc Tryz.prog w base spare held n 32 [v3]=xs[3]?:=hf 3 _ rfl
  rw[List.getElem?_eq_getElem (by omega)] at f0 f1 f2 f3
  have q3:Sz 32 (xs[3]'(by omega)).1:=A5a (i:=3) Tryz.underlying106 hsz rfl (List.getElem?_eq_getElem (by omega))
  obtain⟨n0,rfl,z0⟩:=A5k f0
  obtain⟨n1,rfl,z1⟩:=A5k f1
  obtain⟨n2,rfl,z2⟩:=C2j f2
  obtain⟨u3,l3,e3,r3,b3⟩:=C2h f3 q3
  simp at e3
  subst e3
  refine⟨⟨n0,n1,n2,l3⟩,⟨v3,?_,hcell 1 (by omega),hcell 2 (by omega),hcell 3 (by omega),r3⟩,z0,z1,z2,b3⟩
  have:=hcell 0 (by omega)
  simpa [Addr.add] using this
theorem C8v {xs:List (DataW H×List MemPlace)}{i:Nat}(hi:i<xs.length):SizeOf.sizeOf (xs[i]'hi).1<SizeOf.sizeOf (DataW.agg (xs.map (·.1))):=by
 have:(xs[i]'hi).1∈xs.map (·.1):=List.mem_map.2 ⟨_,List.getElem_mem hi,rfl⟩
 have:=List.sizeOf_lt_of_mem this
 rw[DataW.agg.sizeOf_spec]
 omega
theorem D3b {β:Type}{P:World→Addr→β→Prop}{Q : β→Prop}(fuel:Nat)(a:Addr)(cs:List Value)(d:DataW H)(pl:List MemPlace)(hc:w.cells? base a 4=some cs)(h:DataW.trod enc Tryz.prog w base spare held fuel 62 cs=some (d,pl))(hsz:Sz 62 d)
  (ac:∀ (fuel:Nat) (a:Addr) (cs:List Value) (d':DataW H) (pl:List MemPlace),SizeOf.sizeOf d'<SizeOf.sizeOf d→w.cells? base a 2=some cs→DataW.trod enc Tryz.prog w base spare held fuel 29 cs=some (d',pl)→Sz 29 d'→∃ y,P w a y∧Q y):∃ y,VAt P w a y∧VOk Q y:=by
 obtain⟨_,hlen,hcell⟩:=World.cells?_some hc
 obtain⟨xs,n,_,hx,_,ag,hf⟩:=DataW.trod_struct Tryz.underlying62 h
 have hd:=(Prod.mk.inj hx).1
 rw[hd] at hsz ac
 match cs,hlen with
 | [v0,v1,v2,v3],_=>
  have ah:xs.length=4:=ag
  have f0:DataW.trod enc Tryz.prog w base spare held n 3 [v0]=xs[0]?:=hf 0 _ rfl
  have f1:DataW.trod enc Tryz.prog w base spare held n 59 [v1]=xs[1]?:=hf 1 _ rfl
  have f2:DataW.trod enc Tryz.prog w base spare held n 58 [v2]=xs[2]?:=hf 2 _ rfl
  have f3:DataW.trod enc Tryz.prog w base spare held n 60 [v3]=xs[3]?:=hf 3 _ rfl
  rw[List.getElem?_eq_getElem (by omega)] at f0 f1 f2 f3
  have q1:Sz 59 (xs[1]'(by omega)).1:=A5a (i:=1) Tryz.underlying62 hsz rfl (List.getElem?_eq_getElem (by omega))
  have q2:Sz 58 (xs[2]'(by omega)).1:=A5a (i:=2) Tryz.underlying62 hsz rfl (List.getElem?_eq_getElem (by omega))
  have q3:Sz 60 (xs[3]'(by omega)).1:=A5a (i:=3) Tryz.underlying62 hsz rfl (List.getElem?_eq_getElem (by omega))
  have g3:=C8v (xs:=xs) (i:=3) (by omega)
  obtain⟨n0,rfl,z0⟩:=A5k f0
  obtain⟨u1,l1,e1,r1,k1,b1⟩:=A4n (P:=UAt) (Q:=fun n=>n<18446744073709551616) (sz:=1) (bytes:=8) Tryz.underlying59 (by kernel_rfl) (by kernel_rfl) f1 q1 fun fuel a cs d' pl _ hc h' _=>D2v fuel a cs d' pl hc h'
  obtain⟨u2,l2,e2,r2,k2,b2⟩:=A4n (P:=ZAt) (Q:=fun l=>l.length*1≤reachBytes) (sz:=1) (bytes:=24) Tryz.underlying58 (by kernel_rfl) (by kernel_rfl) f2 q2 fun fuel a cs d' pl _ hc h' hs=>C8s fuel a cs d' pl hc h' hs
  obtain⟨u3,l3,e3,r3,k3,b3⟩:=A4n (P:=P) (Q:=Q) (sz:=2) (bytes:=48) Tryz.underlying60 (by kernel_rfl) (by kernel_rfl) f3 q3 fun fuel a cs d' pl hlt hc h' hs=>ac fuel a cs d' pl (Nat.lt_trans hlt g3) hc h' hs
  simp at e1 e2 e3
  subst e1 e2 e3
  refine⟨⟨n0,l1,l2,l3⟩,⟨v1,v2,v3,?_,hcell 1 (by omega),hcell 2 (by omega),hcell 3 (by omega),r1,r2,r3⟩,z0,k1,b1,k2,b2,k3,b3⟩
  have:=hcell 0 (by omega)
  simpa [Addr.add] using this
theorem B4r {N:Nat}(aj:∀ (fuel:Nat) (a:Addr) (cs:List Value) (d':DataW H) (pl:List MemPlace),SizeOf.sizeOf d'<N→w.cells? base a 2=some cs→DataW.trod enc Tryz.prog w base spare held fuel 29 cs=some (d',pl)→Sz 29 d'→∃ y,BAt N w a y∧BOk N y)
  {fuel:Nat}{cs:List Value}{d:DataW H}{pl:List MemPlace}(hN:SizeOf.sizeOf d≤N) (h:DataW.trod enc Tryz.prog w base spare held fuel 29 cs=some (d,pl)) (hl:cs.length=2) (hsz:Sz 29 d):∃ v0 v1 y,cs = [v0,v1]∧BRd N w v0 v1 y∧BOk (N+1) y:=by
 obtain⟨xs,n,_,hx,_,ak,hf⟩:=DataW.trod_struct Tryz.underlying29 h
 have hd:=(Prod.mk.inj hx).1
 rw[hd] at hsz hN
 match cs,hl with
 | [v0,v1],_=>
  have au:xs.length=2:=ak
  have f0:DataW.trod enc Tryz.prog w base spare held n 26 [v0]=xs[0]?:=hf 0 _ rfl
  have f1:DataW.trod enc Tryz.prog w base spare held n 27 [v1]=xs[1]?:=hf 1 _ rfl
  rw[List.getElem?_eq_getElem (by omega)] at f0 f1
  have q0:Sz 26 (xs[0]'(by omega)).1:=A5a (i:=0) Tryz.underlying29 hsz rfl (List.getElem?_eq_getElem (by omega))
  have q1:Sz 27 (xs[1]'(by omega)).1:=A5a (i:=1) Tryz.underlying29 hsz rfl (List.getElem?_eq_getElem (by omega))
  have g0:=C8v (xs:=xs) (i:=0) (by omega)
  obtain⟨u0,l0,e0,r0,k0,b0⟩:=A4n (P:=VAt (BAt N)) (Q:=VOk (BOk N)) (sz:=4) (bytes:=80) Tryz.underlying26 (by kernel_rfl) (by kernel_rfl) f0 q0 fun fuel a cs d' pl hlt hc h' hs=>D3b fuel a cs d' pl hc h' hs fun fuel a cs ag pl ac hc ah hs2=>aj fuel a cs ag pl (Nat.lt_of_lt_of_le (Nat.lt_trans ac (Nat.lt_trans hlt g0)) hN) hc ah hs2
  obtain⟨u1,l1,e1,r1,k1,b1⟩:=A4n (P:=RAt) (Q:=B7j) (sz:=4) (bytes:=48) Tryz.underlying27 (by kernel_rfl) (by kernel_rfl) f1 q1 fun fuel a cs d' pl _ hc h' hs=>D3a fuel a cs d' pl hc h' hs
  simp at e0 e1
  subst e0 e1
  exact⟨v0,v1,⟨l0,l1⟩,rfl,⟨r0,r1⟩,k0,b0,k1,b1⟩
theorem C2i:∀ (N fuel:Nat) (a:Addr) (cs:List Value) (d':DataW H) (pl:List MemPlace),SizeOf.sizeOf d'<N→w.cells? base a 2=some cs→DataW.trod enc Tryz.prog w base spare held fuel 29 cs=some (d',pl)→Sz 29 d'→∃ y,BAt N w a y∧BOk N y
 | 0,_,_,_,_,_,h,_,_,_=>by omega
 | N+1,fuel,a,cs,d',pl,hN,hc,h,hs=>by
  obtain⟨_,hlen,hcell⟩:=World.cells?_some hc
  obtain⟨v0,v1,y,rfl,hr,hk⟩:=B4r (C2i N) (by omega) h hlen hs
  refine⟨y,⟨v0,v1,?_,hcell 1 (by omega),hr⟩,hk⟩
  have:=hcell 0 (by omega)
  simpa [Addr.add] using this
theorem open_body {v:Value}{fuel:Nat}{d:DataW H}{pl:List MemPlace}(N:Nat)(hN:SizeOf.sizeOf d≤N)(h:DataW.trod enc Tryz.prog w base spare held fuel 29 v.cells.toList=some (d,pl))(hsz:Sz 29 d):∃ v0 v1 y,v = .agg #[v0,v1]∧BRd N w v0 v1 y∧BOk (N+1) y:=by
 have hlen:v.cells.toList.length=2:=by
  obtain⟨xs,n,_,_,hlen,_,_⟩:=DataW.trod_struct Tryz.underlying29 h
  exact hlen
 obtain⟨v0,v1,y,hcs,hr,hk⟩:=B4r (C2i N) hN h hlen hsz
 clear h hlen
 refine⟨v0,v1,y,?_,hr,hk⟩
 cases v <;> simp[Value.cells] at hcs
 rename_i cs
 have:cs=#[v0,v1]:=by cases cs;simp_all
 rw[this]
end
open Go.RowKit
section
variable {α:Type}{w:World}
theorem EK.flat_get (E:EK α){m:List α}{i:Nat}{u:Value}(h:(E.flat m)[i]?=some u):∃ y,m[i / E.size]?=some y∧(E.enc y)[i%E.size]?=some u:=by
 have hi:i<(E.flat m).length:=(List.getElem?_eq_some_iff.1 h).1
 rw[E.flat_len] at hi
 have hk:i / E.size<m.length:=by rw[Nat.div_lt_iff_lt_mul E.pos];exact hi
 refine⟨m[i / E.size],List.getElem?_eq_getElem hk,?_⟩
 have:=E.flat_at m (i / E.size) (i%E.size) _ (List.getElem?_eq_getElem hk) (Nat.mod_lt _ E.pos)
 rw[←this,Nat.mul_comm,Nat.div_add_mod]
 exact h
theorem D0p {o:Oper}{a:Act}{K:Act→World→Prop}{Q:Exit→Act→World→Prop}(E:EK α)(s x:Operand)
  (ho:o.op = .call { callee:=.builtin .append,args:=#[s,x],argTypes:=#[E.slice,E.slice] })
  (base:Nat) (v:Value) (l m:List α) (hs:a.eval s=v) (hown:Row E w base v l) (ao:Option Addr) (n cap:Nat) (hx:a.eval x = .slice ao n cap) (hm:m.length=n) (hnil:ao=none→n=0∧cap=0)
  (hcell:∀ ad,ao=some ad→∀ k y,m[k]?=some y→∀ j u,(E.enc y)[j]?=some u→w.cell? (ad.add (k*E.size+j))=some u)
  (hby:1≤E.bytes) (hlen:(l.length+m.length)*E.bytes≤140737488355328) (hb:base≤w.heap.size)
  (h:∀ v' w',Row E w' base v' (l++m)→w.grownBy w' v.ownBlock→K (a.put o.dst v') w'):o.wp Tryz.prog a w K Q:=by
 obtain⟨i0,hi,hz0,hz1,hz2⟩:=info_parts E.info
 have h63:l.length+m.length≤maxLen:=by
  have:l.length+m.length≤(l.length+m.length)*E.bytes:=Nat.le_mul_of_pos_right _ hby
  unfold maxLen;omega
 cases ao with
 | none=>
  obtain⟨rfl,rfl⟩:=hnil rfl
  have ac:m = []:=List.eq_nil_of_length_eq_zero hm
  subst ac
  have hrun:=run_append_owned_none (P:=Tryz.prog) (w:=w) base E.slice o.type E.elem i0 E.size E.under hi v l.length (E.flat l) hown
  unfold Oper.wp
  simp[execOp,ho,resolve,invoke,builtin,hs,hx,hrun,Result.andThen]
  exact h v w (by rw[List.append_nil];exact hown) ⟨rfl,rfl,rfl,Nat.le_refl _,fun _ _ _=>rfl⟩
 | some ad=>
  refine wp_append_own w s x E.slice ho base E.elem i0 _ E.size E.bytes E.under hi hz0 hz1 hz2 E.zs E.pos v l.length _ hs hown ad n cap
   (E.flat m) hx (by rw[E.flat_len,hm]) ?_ ?_ (by rw[←hm];exact h63) (by rw[←hm];exact hlen) hb ?_
  ·intro j u hu
   obtain⟨y,h1,h2⟩:=E.flat_get hu
   have:=hcell ad rfl _ y h1 _ u h2
   rwa [Nat.mul_comm,Nat.div_add_mod] at this
  ·intro y hy
   simp only[EK.flat,List.mem_flatMap] at hy
   obtain⟨p,hp,hy⟩:=hy
   exact E.one p y hy
  ·intro v' w' h1 h2 _
   refine h v' w' ?_ h2
   show w'.ownsRow base E.elem E.size v' (l++m).length (E.flat (l++m))
   rw[List.length_append,E.flat_append,hm]
   exact h1
theorem A7i {ops:Array Oper}{o:Oper}{a:Act}{K:Act→World→Prop}{Q:Exit→Act→World→Prop}{X:Prop}(hgd:o.guard=none)(E:EK α)(s x:Operand)
  (ho:o.op = .call { callee:=.builtin .append,args:=#[s,x],argTypes:=#[E.slice,E.slice] })
  (base:Nat) (v:Value) (l m:List α) (hs:a.eval s=v) (hown:Row E w base v l) (ao:Option Addr) (n cap:Nat) (hx:a.eval x = .slice ao n cap) (hm:m.length=n) (hnil:ao=none→n=0∧cap=0)
  (hcell:∀ ad,ao=some ad→∀ k y,m[k]?=some y→∀ j u,(E.enc y)[j]?=some u→w.cell? (ad.add (k*E.size+j))=some u)
  (hby:1≤E.bytes) (hlen:(l.length+m.length)*E.bytes≤140737488355328) (hb:base≤w.heap.size)
  (h:∀ v' w',Row E w' base v' (l++m)→w.grownBy w' v.ownBlock→K (a.put o.dst v') w') :
  if Region.wanted o (yielded ops a.tmps)=true then Oper.wp Tryz.prog o a w K Q else X:=by
 have hw:Region.wanted o (yielded ops a.tmps)=true:=by simp[Region.wanted,hgd]
 rw[if_pos hw]
 exact D0p E s x ho base v l m hs hown ao n cap hx hm hnil hcell hby hlen hb h
theorem A2f {ops:Array Oper}{rest:List Oper}{o:Oper}{a:Act}{Q:Exit→Act→World→Prop}(hgd:o.guard=none)(E:EK α)(s x:Operand)
  (ho:o.op = .call { callee:=.builtin .append,args:=#[s,x],argTypes:=#[E.slice,E.slice] })
  (base:Nat) (v:Value) (l m:List α) (hs:a.eval s=v) (hown:Row E w base v l) (ao:Option Addr) (n cap:Nat) (hx:a.eval x = .slice ao n cap) (hm:m.length=n) (hnil:ao=none→n=0∧cap=0)
  (hcell:∀ ad,ao=some ad→∀ k y,m[k]?=some y→∀ j u,(E.enc y)[j]?=some u→w.cell? (ad.add (k*E.size+j))=some u)
  (hby:1≤E.bytes) (hlen:(l.length+m.length)*E.bytes≤140737488355328) (hb:base≤w.heap.size)
  (h:∀ v' w',Row E w' base v' (l++m)→w.grownBy w' v.ownBlock→wpList Tryz.prog ops Q rest (a.put o.dst v') w'):wpList Tryz.prog ops Q (o::rest) a w:=
 wpList_plain hgd fun _ hK=>D0p E s x ho base v l m hs hown ao n cap hx hm hnil hcell hby hlen hb fun v' w' h2 h3=>hK _ _ (h v' w' h2 h3)
end
theorem RdL.srcN {w:World}{ao:Option Addr}{n cap:Nat}{l:List Int}(h:RdL 1 NAt w (.slice ao n cap) l):l.length=n∧(ao=none→n=0∧cap=0)∧∀ ad,ao=some ad→∀ k y,l[k]?=some y→∀ j u,(ekN.enc y)[j]?=some u→w.cell? (ad.add (k*ekN.size+j))=some u:=by
 obtain⟨ac,n',cap',e,h1,_,_,h4,h5⟩:=h
 cases e
 refine⟨h1,h4,fun ad had k y hy j u hu=>?_⟩
 have hj:j=0:=by
  cases j with
  | zero=>rfl
  | succ j=>simp[ekN,D6y] at hu
 subst hj
 have hu:u = .int .i64 y:=by simpa [ekN,D6y] using hu.symm
 subst hu
 have:=h5 ad had k y hy
 simpa [NAt,ekN] using this
theorem D8z {w x:World}(h:Below w.heap.size w x)(a b c d e f:Value):Below w.heap.size w ((((((x.setCell ⟨w.heap.size+1,0,none⟩ a).setCell ⟨w.heap.size+1,1,none⟩ b).setCell ⟨w.heap.size+1,2,none⟩ c).setCell ⟨w.heap.size+1,3,none⟩ d).setCell ⟨w.heap.size+1,4,none⟩ e).setCell ⟨w.heap.size+1,5,none⟩ f):=by
 have k:∀ {y:World}(_:Below w.heap.size w y) (i:Nat) (v:Value),Below w.heap.size w (y.setCell ⟨w.heap.size+1,i,none⟩ v):=fun hy i v=>hy.setCell (p:=⟨w.heap.size+1,i,none⟩) (show w.heap.size≤w.heap.size+1 by omega) v
 exact k (k (k (k (k (k h 0 a) 1 b) 2 c) 3 d) 4 e) 5 f
def A8j (g:GI)(x:FI):FI:=if x.kind=10∧A0k (fun m=>decide (m.name=x.type)) g.msgs<0∧0≤A0k (fun m=>decide (m.name=x.type)) g.enums then⟨x.name,x.number,5,x.type,x.many,x.choice⟩ else x
theorem C4y {W:World}{p:Nat}{vm ve:Value}{g:GI}(hp:W.heap[p]?=some (.cells #[vm,ve] 25 (0,0)))(hg:GRd W vm ve g)(x:FI) :
  Calls Tryz.prog 53 #[fv x,.pointer (some ⟨p,0,none⟩)] W fun e W'=>e = .returned (fv (A8j g x))∧Below W.heap.size W W':=by
 obtain⟨a1,n1,c1,rfl,_,_⟩:=hg.1.shape
 obtain⟨a2,n2,c2,rfl,_,_⟩:=hg.2.shape
 obtain⟨W2,ag⟩:∃ W2,Hid (W2=(W.alloc (.cells #[.string (S x.name),.int .i64 x.number,.int .i64 x.kind,.string (S x.type),.bool x.many,.int .i64 x.choice] 40)).alloc (.cells #[.string ⟨#[]⟩,.int .i64 0,.int .i64 0,.string ⟨#[]⟩,.bool false,.int .i64 0] 40)):=⟨_,rfl⟩
 have hb2:Below W.heap.size W W2:=by rw[ag.out];exact((Below.refl _ _).alloc (Nat.le_refl _) _).alloc (by simp) _
 have ak:Below W.heap.size W ((W.alloc (.cells #[.string (S x.name),.int .i64 x.number,.int .i64 x.kind,.string (S x.type),.bool x.many,.int .i64 x.choice] 40)).alloc (.cells #[.string (S x.name),.int .i64 x.number,.int .i64 x.kind,.string (S x.type),.bool x.many,.int .i64 x.choice] 40)):=((Below.refl _ _).alloc (Nat.le_refl _) _).alloc (by simp) _
 have hpl:p<W.heap.size:=(Array.getElem?_eq_some_iff.1 hp).1
 have hx1:W2.heap[W.heap.size]?=some (.cells #[.string (S x.name),.int .i64 x.number,.int .i64 x.kind,.string (S x.type),.bool x.many,.int .i64 x.choice] 40 (0,0)):=by rw[ag.out];exact A0o _ _ _
 have hx2:W2.heap[W.heap.size+1]?=some (.cells #[.string ⟨#[]⟩,.int .i64 0,.int .i64 0,.string ⟨#[]⟩,.bool false,.int .i64 0] 40 (0,0)):=by rw[ag.out];exact A0j _ _ _
 have hz2:W2.heap.size=W.heap.size+2:=by rw[ag.out];simp
 have ah:∀ V,Below W2.heap.size W2 V→V.heap[W.heap.size]?=some (.cells #[.string (S x.name),.int .i64 x.number,.int .i64 x.kind,.string (S x.type),.bool x.many,.int .i64 x.choice] 40 (0,0))∧V.heap[W.heap.size+1]?=some (.cells #[.string ⟨#[]⟩,.int .i64 0,.int .i64 0,.string ⟨#[]⟩,.bool false,.int .i64 0] 40 (0,0))∧V.heap[p]?=some (.cells #[.slice a1 n1 c1,.slice a2 n2 c2] 25 (0,0))∧Below W.heap.size W V:=fun V hV=>⟨(hV.block _ (by omega)).trans hx1,(hV.block _ (by omega)).trans hx2,(hV.block _ (by omega)).trans ((hb2.block _ hpl).trans hp),hb2.trans (hV.mono (by omega))⟩
 unfold fv
 by_cases h10:x.kind=10
 ·have hk:(x.kind==10)=true:=by simp[h10]
  have aw:Hid (x.kind=10):=h10
  clear h10
  obtain⟨_,_,p2,_⟩:=ah W2 (Below.refl _ _)
  obtain⟨f0,f1⟩:=A0y p2
  rw[ag.out] at f0 f1
  have aj:=A2y (hg.below hb2).1 ⟨a2,n2,c2,rfl⟩ x.type
  obtain⟨r1,H1⟩:∃ r1,Hid (r1=A0k (fun m=>decide (m.name=x.type)) g.msgs):=⟨_,rfl⟩
  obtain⟨r2,H2⟩:∃ r2,Hid (r2=A0k (fun m=>decide (m.name=x.type)) g.enums):=⟨_,rfl⟩
  rw[←H1.out] at aj
  by_cases q1:r1<0
  ·go_enter Tryz.func53,Tryz.ntmps53
   go_wp2_with fail
   rw[←ag.out]
   refine aj.mono ?_
   rintro e w3 ⟨rfl,hb3⟩
   obtain⟨y1,y2,y3,au⟩:=ah w3 hb3
   obtain⟨x0,x1,x2,x3,x4,x5⟩:=B0h y1
   obtain⟨g0,g1⟩:=A0y y3
   have hen:=A8y (hg.below au).2 ⟨a1,n1,c1,rfl⟩ x.type
   rw[←H2.out] at hen
   clear f0 f1 aj
   go_wp2_with fail
   refine hen.mono ?_
   rintro e w4 ⟨rfl,hb4⟩
   have bp:Below W2.heap.size W2 w4:=hb3.trans (hb4.mono hb3.size)
   obtain⟨y4,y5,_,ac⟩:=ah w4 bp
   obtain⟨u0,u1,u2,u3,u4,u5⟩:=B0h y4
   obtain⟨v0,v1,v2,v3,v4,v5⟩:=B0h y5
   have e2:=A0b y4 2
   have e3:=A0b y5
   have ba:=e3 0
   have bc:=e3 1
   have bg:=e3 2
   have bh:=e3 3
   have bk:=e3 4
   have bn:=e3 5
   clear e3 x0 x1 x2 x3 x4 x5 g0 g1 hen ah
   by_cases q2:0≤r2
   ·have HL:Hid (A8j g x=⟨x.name,x.number,5,x.type,x.many,x.choice⟩):=by show _=_;rw[A8j,if_pos ⟨aw.out,by rw[←H1.out];exact q1,by rw[←H2.out];exact q2⟩]
    go_wp2
    refine bodyPost_ret (v:=.agg #[.string (S x.name),.int .i64 x.number,.int .i64 5,.string (S x.type),.bool x.many,.int .i64 x.choice]) (by simp[results,Tryz.results53,go_sem, *]) rfl ?_
    exact⟨by rw[HL.out],D8z (ac.setCell (p:=⟨W.heap.size,2,none⟩) (show W.heap.size≤W.heap.size from Nat.le_refl _) _) _ _ _ _ _ _⟩
   ·have HL:Hid (A8j g x=x):=by show _=_;rw[A8j,if_neg (fun h=>q2 (by rw[H2.out];exact h.2.2))]
    go_wp2
    refine bodyPost_ret (v:=.agg #[.string (S x.name),.int .i64 x.number,.int .i64 x.kind,.string (S x.type),.bool x.many,.int .i64 x.choice]) (by simp[results,Tryz.results53,go_sem, *]) rfl ?_
    exact⟨by rw[HL.out],D8z ac _ _ _ _ _ _⟩
  ·have HL:Hid (A8j g x=x):=by show _=_;rw[A8j,if_neg (fun h=>q1 (by rw[H1.out];exact h.2.1))]
   rw[HL.out]
   go_enter Tryz.func53,Tryz.ntmps53
   go_wp2_with fail
   rw[←ag.out]
   refine aj.mono ?_
   rintro e w3 ⟨rfl,hb3⟩
   obtain⟨y4,y5,_,ac⟩:=ah w3 hb3
   obtain⟨u0,u1,u2,u3,u4,u5⟩:=B0h y4
   obtain⟨v0,v1,v2,v3,v4,v5⟩:=B0h y5
   have e3:=A0b y5
   have ba:=e3 0
   have bc:=e3 1
   have bg:=e3 2
   have bh:=e3 3
   have bk:=e3 4
   have bn:=e3 5
   clear e3 f0 f1 aj ah
   go_wp2
   refine bodyPost_ret (v:=.agg #[.string (S x.name),.int .i64 x.number,.int .i64 x.kind,.string (S x.type),.bool x.many,.int .i64 x.choice]) (by simp[results,Tryz.results53,go_sem, *]) rfl ?_
   exact⟨rfl,D8z ac _ _ _ _ _ _⟩
 ·have HL:Hid (A8j g x=x):=by show _=_;rw[A8j,if_neg (fun h=>h10 h.1)]
  have hk:(x.kind==10)=false:=by simp[h10]
  clear h10 ah
  rw[HL.out]
  go_enter Tryz.func53,Tryz.ntmps53
  go_wp2
  refine bodyPost_ret (v:=.agg #[.string (S x.name),.int .i64 x.number,.int .i64 x.kind,.string (S x.type),.bool x.many,.int .i64 x.choice]) (by simp[results,Tryz.results53,go_sem, *]) rfl ?_
  exact⟨rfl,ak⟩
def D9k (f:FI):List Value:=[.string (S f.name),.int .i64 f.number,.int .i64 f.kind,.string (S f.type),.bool f.many,.int .i64 f.choice]
def ekF:EK FI where
 elem:=40
 slice:=36
 size:=6
 bytes:=64
 zero:=.agg #[.string ⟨#[]⟩,.int .i64 0,.int .i64 0,.string ⟨#[]⟩,.bool false,.int .i64 0]
 enc:=D9k
 under:=Tryz.underlying36
 info:=by kernel_rfl
 zs:=rfl
 pos:=by decide
 small:=by decide
 len:=fun _=>rfl
 one:=by intro a u hu;simp only[D9k,List.mem_cons,List.mem_nil_iff,or_false] at hu;rcases hu with rfl|rfl|rfl|rfl|rfl|rfl <;> rfl
def D7g (f:II):List Value:=[.string (S f.name),.int .i64 f.value]
def ekT:EK II where
 elem:=162
 slice:=98
 size:=2
 bytes:=24
 zero:=.agg #[.string ⟨#[]⟩,.int .i64 0]
 enc:=D7g
 under:=Tryz.underlying98
 info:=by kernel_rfl
 zs:=rfl
 pos:=by decide
 small:=by decide
 len:=fun _=>rfl
 one:=by intro a u hu;simp only[D7g,List.mem_cons,List.mem_nil_iff,or_false] at hu;rcases hu with rfl|rfl <;> rfl
abbrev LV:=Option Addr×Nat×Nat
def LV.v (p:LV):Value:=.slice p.1 p.2.1 p.2.2
def D9l (p:MI×LV×LV):List Value:=[.string (S p.1.name),p.2.1.v,p.2.2.v]
def ekM:EK (MI×LV×LV) where
 elem:=38
 slice:=22
 size:=3
 bytes:=64
 zero:=.agg #[.string ⟨#[]⟩,.slice none 0 0,.slice none 0 0]
 enc:=D9l
 under:=Tryz.underlying22
 info:=by kernel_rfl
 zs:=rfl
 pos:=by decide
 small:=by decide
 len:=fun _=>rfl
 one:=by intro a u hu;simp only[D9l,List.mem_cons,List.mem_nil_iff,or_false] at hu;rcases hu with rfl|rfl|rfl <;> rfl
def D9j (p:EI×LV):List Value:=[.string (S p.1.name),p.2.v]
def ekE:EK (EI×LV) where
 elem:=100
 slice:=23
 size:=2
 bytes:=40
 zero:=.agg #[.string ⟨#[]⟩,.slice none 0 0]
 enc:=D9j
 under:=Tryz.underlying23
 info:=by kernel_rfl
 zs:=rfl
 pos:=by decide
 small:=by decide
 len:=fun _=>rfl
 one:=by intro a u hu;simp only[D9j,List.mem_cons,List.mem_nil_iff,or_false] at hu;rcases hu with rfl|rfl <;> rfl
structure OwnG (w:World) (base:Nat) (vm ve:Value) (lm:List (MI×LV×LV)) (le:List (EI×LV)):Prop where
 rowm:Row ekM w base vm lm
 rowe:Row ekE w base ve le
 ms:∀ p∈lm,Row ekF w base p.2.1.v p.1.fields∧Row ekN w base p.2.2.v p.1.barred
 es:∀ p∈le,Row ekT w base p.2.v p.1.items
theorem Row.rdF {w:World}{base:Nat}{v:Value}{l:List FI}(h:Row ekF w base v l):RdL 6 FAt w v l:=h.rd FAt fun g i a hc=>by
 have h0:=hc 0 _ rfl
 refine⟨by simpa using h0,?_,?_,?_,?_,?_⟩
 ·rw[A0e];exact hc 1 _ rfl
 ·rw[A0e];exact hc 2 _ rfl
 ·rw[A0e];exact hc 3 _ rfl
 ·rw[A0e];exact hc 4 _ rfl
 ·rw[A0e];exact hc 5 _ rfl
theorem Row.rdT {w:World}{base:Nat}{v:Value}{l:List II}(h:Row ekT w base v l):RdL 2 TAt w v l:=h.rd TAt fun g i a hc=>by
 have h0:=hc 0 _ rfl
 refine⟨by simpa using h0,?_⟩
 rw[A0e];exact hc 1 _ rfl
theorem RdL.map {α β:Type}{sz:Nat}{P:World→Addr→α→Prop}{R:World→Addr→β→Prop}{w:World}{v:Value}{l:List α}(f : α→β)(h:RdL sz P w v l)(hf:∀ x a,a∈l→P w x a→R w x (f a)):RdL sz R w v (l.map f):=by
 obtain⟨ao,n,cap,e,h1,h2,h3,h4,h5⟩:=h
 refine⟨ao,n,cap,e,by simpa using h1,h2,h3,h4,fun x hx k b hb=>?_⟩
 rw[List.getElem?_map] at hb
 cases ha:l[k]? with
 | none=>rw[ha] at hb;simp at hb
 | some a=>
  rw[ha] at hb
  simp at hb
  subst hb
  exact hf _ a (List.mem_of_getElem? ha) (h5 x hx k a ha)
theorem OwnG.rd {w:World}{base:Nat}{vm ve:Value}{lm:List (MI×LV×LV)}{le:List (EI×LV)}(h:OwnG w base vm ve lm le):GRd w vm ve ⟨lm.map Prod.fst,le.map Prod.fst⟩:=by
 refine⟨?_,?_⟩
 ·refine RdL.map (P:=fun w x (p:MI×LV×LV)=>w.cell? x=some (.string (S p.1.name))∧w.cell? (x.add 1)=some p.2.1.v∧w.cell? (x.add 2)=some p.2.2.v) Prod.fst (h.rowm.rd _ fun g i a hc=>?_) ?_
  ·refine⟨by simpa using hc 0 _ rfl,?_,?_⟩
   ·rw[A0e];exact hc 1 _ rfl
   ·rw[A0e];exact hc 2 _ rfl
  ·rintro x p hp ⟨h0,h1,h2⟩
   exact⟨p.2.1.v,p.2.2.v,h0,h1,h2,(h.ms p hp).1.rdF,(h.ms p hp).2.rdN⟩
 ·refine RdL.map (P:=fun w x (p:EI×LV)=>w.cell? x=some (.string (S p.1.name))∧w.cell? (x.add 1)=some p.2.v) Prod.fst (h.rowe.rd _ fun g i a hc=>?_) ?_
  ·refine⟨by simpa using hc 0 _ rfl,?_⟩
   rw[A0e];exact hc 1 _ rfl
  ·rintro x p hp ⟨h0,h1⟩
   exact⟨p.2.v,h0,h1,(h.es p hp).rdT⟩
end L
end Go.Proofs.YtgaoojpakjjdnaaGreatDoor
