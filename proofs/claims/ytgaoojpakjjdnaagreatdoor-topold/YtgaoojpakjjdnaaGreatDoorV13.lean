import Derived.Test.YtgaoojpakjjdnaaGreatDoorV12
import Derived.Laws.IdiomCopy
import Derived.Lib.SliceRun
import Derived.Shelf.Spec.SlicesInsert
import Derived.Lib.AppendZerosOnto
import Derived.Laws.NewBlocks
set_option maxHeartbeats 32000000
set_option maxRecDepth 100000
set_option linter.unusedVariables false
namespace Go.Proofs.YtgaoojpakjjdnaaGreatDoor
namespace L
open Go.RowKit
theorem B2f {w:World}{g i:Nat}{cs:Array Value}{t:TypeId}{fr:Nat×Nat}{u:Value}(h:w.heap[g]?=some (.cells cs t fr))(hc:w.cell? ⟨g,i,none⟩=some u):cs[i]?=some u:=by
 simpa [World.cell?,h] using hc
section
variable {α:Type}{E:EK α}{w w':World}{base g n cap:Nat}{l:List α}
theorem Row.cur (h:Row E w base (.slice (some ⟨g,0,none⟩) n cap) l):l.length=n∧base≤g∧n≤cap∧cap≤maxLen∧∃ cur,w.heap[g]?=some (.cells cur E.elem (0,0))∧cur.size=cap*E.size:=by
 rcases h.2 with⟨hv,_⟩|⟨g',cap',cur,hv,hb,hg,h1,h2,h3,_⟩
 ·cases hv
 ·cases hv;exact⟨rfl,hb,h1,h2,cur,hg,h3⟩
theorem Row.cells (h:Row E w base (.slice (some ⟨g,0,none⟩) n cap) l){k:Nat}{y : α}(hy:l[k]?=some y){j:Nat}{u:Value}(hu:(E.enc y)[j]?=some u):w.cell? ⟨g,k*E.size+j,none⟩=some u:=by
 have hj:j<E.size:=by have:=(List.getElem?_eq_some_iff.1 hu).1;rw[E.len] at this;exact this
 have:=World.ownsRow.cells h (g:=g) rfl (k*E.size+j) u (by rw[E.flat_at l k j y hy hj];exact hu)
 simpa [A0e] using this
theorem Row.of_cells {cur:Array Value}(hb:base≤g)(hg:w.heap[g]?=some (.cells cur E.elem (0,0)))(hsz:cur.size=cap*E.size)(hn:l.length=n)(h1:n≤cap)(h2:cap≤maxLen)(hc:∀ k y,l[k]?=some y→∀ j u,(E.enc y)[j]?=some u→w.cell? ⟨g,k*E.size+j,none⟩=some u):Row E w base (.slice (some ⟨g,0,none⟩) n cap) l:=by
 subst hn
 refine⟨E.flat_len l,.inr ⟨g,cap,cur,rfl,hb,hg,h1,h2,hsz,?_⟩⟩
 apply List.ext_getElem?
 intro i
 by_cases hi:i<l.length*E.size
 ·rw[List.getElem?_take,if_pos hi]
  have hk:i / E.size<l.length:=by rw[Nat.div_lt_iff_lt_mul E.pos];exact hi
  have hj:=Nat.mod_lt i E.pos
  have e:i / E.size*E.size+i%E.size=i:=by rw[Nat.mul_comm];exact Nat.div_add_mod i E.size
  have h3:=E.flat_at l (i / E.size) (i%E.size) _ (List.getElem?_eq_getElem hk) hj
  rw[e] at h3
  obtain⟨u,hu⟩:∃ u,(E.enc (l[i / E.size]'hk))[i%E.size]?=some u:=⟨(E.enc (l[i / E.size]'hk))[i%E.size]'(by rw[E.len];exact hj),List.getElem?_eq_getElem _⟩
  rw[h3,hu]
  have h4:=hc _ _ (List.getElem?_eq_getElem hk) _ _ hu
  rw[e] at h4
  rw[Array.getElem?_toList]
  exact B2f hg h4
 ·rw[List.getElem?_take,if_neg hi,List.getElem?_eq_none (by rw[E.flat_len];omega)]
end
section
variable {β:Type}{w:World}{base g n cap:Nat}{l:List (VL β)}
theorem Row.setV (h:Row (ekV β) w base (.slice (some ⟨g,0,none⟩) n cap) l){i:Nat}{a:VL β}{x0 x1 x2 x3:Value}(he:(ekV β).enc a = [x0,x1,x2,x3])(hi:i<n) :
  Row (ekV β) ((((w.setCell ⟨g,i*4,none⟩ x0).setCell ⟨g,i*4+1,none⟩ x1).setCell ⟨g,i*4+2,none⟩ x2).setCell ⟨g,i*4+3,none⟩ x3) base (.slice (some ⟨g,0,none⟩) n cap) (l.set i a):=by
 obtain⟨hl,hb,h1,h2,cur,hg,hsz⟩:=h.cur
 have hs:∀ (V:World) (c:Array Value) (j:Nat) (v:Value),V.heap[g]?=some (.cells c (ekV β).elem (0,0))→(V.setCell ⟨g,j,none⟩ v).heap[g]?=some (.cells (c.setIfInBounds j v) (ekV β).elem (0,0)):=fun V c j v hh=>heap_setCell_same V g j c _ v hh
 have e4:(ekV β).size=4:=rfl
 have hg4:=hs _ _ (i*4+3) x3 (hs _ _ (i*4+2) x2 (hs _ _ (i*4+1) x1 (hs _ _ (i*4) x0 hg)))
 have hsz':i*4+3<cur.size:=by rw[hsz,e4];omega
 refine Row.of_cells hb hg4 (by simp[hsz]) (by rw[List.length_set];exact hl) h1 h2 fun k y hy j u hu=>?_
 rw[e4]
 have hj:j<4:=by have:=(List.getElem?_eq_some_iff.1 hu).1;rw[(ekV β).len] at this;exact this
 refine A0a hg4 _ _ ?_
 by_cases hk:k=i
 ·subst hk
  rw[List.getElem?_set_self (by omega)] at hy
  cases hy
  rw[he] at hu
  match j,hj,hu with
  | 0,_,hu=>simp at hu;subst hu;rw[Array.getElem?_setIfInBounds_ne (by omega),Array.getElem?_setIfInBounds_ne (by omega),Array.getElem?_setIfInBounds_ne (by omega)];exact Array.getElem?_setIfInBounds_self_of_lt (by omega)
  | 1,_,hu=>simp at hu;subst hu;rw[Array.getElem?_setIfInBounds_ne (by omega),Array.getElem?_setIfInBounds_ne (by omega),Array.getElem?_setIfInBounds_self_of_lt (by simp;omega)]
  | 2,_,hu=>simp at hu;subst hu;rw[Array.getElem?_setIfInBounds_ne (by omega),Array.getElem?_setIfInBounds_self_of_lt (by simp;omega)]
  | 3,_,hu=>simp at hu;subst hu;rw[Array.getElem?_setIfInBounds_self_of_lt (by simp;omega)]
 ·rw[List.getElem?_set_ne (fun e=>hk e.symm)] at hy
  have:=h.cells hy hu
  rw[e4] at this
  have:=B2f hg this
  rw[Array.getElem?_setIfInBounds_ne (by omega),Array.getElem?_setIfInBounds_ne (by omega),Array.getElem?_setIfInBounds_ne (by omega),Array.getElem?_setIfInBounds_ne (by omega)]
  exact this
end
section
variable {α:Type}{E:EK α}{w:World}{base g n cap:Nat}{l:List α}
theorem A2q {g:Nat}{t:TypeId}:∀ (vs:List Value) (o:Nat) (w:World) (cs:Array Value),w.heap[g]?=some (.cells cs t (0,0))→∃ cs',(w.setCells g o vs).heap[g]?=some (.cells cs' t (0,0))∧cs'.size=cs.size
 | [],_,_,cs,h=>⟨cs,h,rfl⟩
 | v::r,o,w,cs,h=>by
  obtain⟨cs',h1,h2⟩:=A2q r (o+1) (w.setCell ⟨g,o,none⟩ v) _ (heap_setCell_same w g o cs t v h)
  exact⟨cs',h1,by simpa using h2⟩
theorem Row.cut (h:Row E w base (.slice (some ⟨g,0,none⟩) n cap) l){m o:Nat}(hm:m≤n)(vs:List Value)(ho:m*E.size≤o):Row E (w.setCells g o vs) base (.slice (some ⟨g,0,none⟩) m cap) (l.take m):=by
 obtain⟨hl,hb,h1,h2,cur,hg,hsz⟩:=h.cur
 obtain⟨cs',h3,h4⟩:=A2q vs o w cur hg
 refine Row.of_cells hb h3 (by rw[h4,hsz]) (by rw[List.length_take];omega) (by omega) h2 fun k y hy j u hu=>?_
 have hk:k<m:=by have:=(List.getElem?_eq_some_iff.1 hy).1;rw[List.length_take] at this;omega
 rw[List.getElem?_take,if_pos hk] at hy
 have hj:j<E.size:=by have:=(List.getElem?_eq_some_iff.1 hu).1;rw[E.len] at this;exact this
 rw[World.cell?_setCells_out]
 ·exact h.cells hy hu
 ·intro _ _
  left
  show k*E.size+j<o
  have:(k+1)*E.size≤m*E.size:=Nat.mul_le_mul_right _ hk
  rw[Nat.succ_mul] at this
  omega
end
theorem C5s {w:World}{g o n c:Nat}(hn:0<n)(hc:∀ j,j<n*4→(w.cell? ⟨g,o+j,none⟩).isSome=true)(hf:∀ j,j<n*4→w.frozen? ⟨g,o+j,none⟩=false) :
  ∃ vs:List Value,∀ ty,(Builtin.clear_ #[26] ty #[.slice (some ⟨g,o,none⟩) n c]).run Tryz.prog w = .ok (.tuple #[]) (w.setCells g o vs):=by
 have hz:∀ w,(zeroValue 62).run Tryz.prog w = .ok (.agg #[.int .i64 0,.slice none 0 0,.slice none 0 0,.slice none 0 0]) w:=fun w=>by kernel_rfl
 refine⟨(Builtin.zeroCells (Value.agg #[.int .i64 0,.slice none 0 0,.slice none 0 0,.slice none 0 0]).cells n).toList,fun ty=>?_⟩
 have hlen:(Builtin.zeroCells (Value.agg #[.int .i64 0,.slice none 0 0,.slice none 0 0,.slice none 0 0]).cells n).toList.length=n*4:=by
  simp[Builtin.zeroCells,Value.cells]
 have ac:∀ v∈(Builtin.zeroCells (Value.agg #[.int .i64 0,.slice none 0 0,.slice none 0 0,.slice none 0 0]).cells n).toList,v.oneCell'=true:=by
  intro v hv
  simp[Builtin.zeroCells,Value.cells] at hv
  obtain⟨i,_,rfl⟩:=hv
  rcases (by omega:i%4=0∨i%4=1∨i%4=2∨i%4=3) with h|h|h|h <;> rw[h] <;> rfl
 have hst:=run_storeCells_cells (P:=Tryz.prog) g o _ 0 w (by rw[hlen];simpa using hc) (by rw[hlen];simpa using hf) ac
 simp only[Nat.add_zero] at hst
 obtain⟨m,rfl⟩:∃ m,n=m+1:=⟨n-1,by omega⟩
 simp[Builtin.clear_,run_underlying Tryz.underlying26,hz,hst]
theorem FrB.setCells {g o:Nat}{t:TypeId}:∀ (vs:List Value) (o:Nat){w V:World}{cs:Array Value},FrB [g] w V→V.heap[g]?=some (.cells cs t (0,0))→t≠5→FrB [g] w (V.setCells g o vs)
 | [],_,_,_,_,h,_,_=>h
 | v::r,o,_,V,cs,h,hg,ht=>FrB.setCells (o:=o) r (o+1) (A2c h (A1l (i:=o) (x:=v) hg ht)) (heap_setCell_same V g o cs t v hg) ht
theorem D8t {w:World}{g i:Nat}{cs:Array Value}{x0 x1 x2 x3:Value}(h:w.heap[g]?=some (.cells cs 62 (0,0))):FrB [g] w ((((w.setCell ⟨g,i,none⟩ x0).setCell ⟨g,i+1,none⟩ x1).setCell ⟨g,i+2,none⟩ x2).setCell ⟨g,i+3,none⟩ x3):=by
 have h1:=heap_setCell_same _ _ i _ _ x0 h
 have h2:=heap_setCell_same _ _ (i+1) _ _ x1 h1
 have h3:=heap_setCell_same _ _ (i+2) _ _ x2 h2
 exact A2c (A2c (A2c (A1l h (by decide)) (A1l h1 (by decide))) (A1l h2 (by decide))) (A1l h3 (by decide))
structure Kept {α:Type}(q : α→Bool) (l:List α) (k m:Nat) (l':List α):Prop where
 lt:m<k
 le:k≤l.length
 len:l'.length=l.length
 front:l'.take m=(l.take k).filter q
 rest:l'.drop k=l.drop k
theorem Kept.at {α:Type}{q : α→Bool}{l l':List α}{k m:Nat}(h:Kept q l k m l'):l'[k]?=l[k]?:=by
 have:=congrArg (·[0]?) h.rest
 simpa using this
theorem Kept.skip {α:Type}{q : α→Bool}{l l':List α}{k m:Nat}{a : α}(h:Kept q l k m l')(ha:l[k]?=some a)(hq:q a=false):Kept q l (k+1) m l':=by
 refine⟨by have:=h.lt;omega,(List.getElem?_eq_some_iff.1 ha).1,h.len,?_,?_⟩
 ·rw[A0z ha,List.filter_append,h.front];simp[hq]
 ·have:=congrArg (List.drop 1) h.rest
  simpa [List.drop_drop] using this
theorem Kept.keep {α:Type}{q : α→Bool}{l l':List α}{k m:Nat}{a : α}(h:Kept q l k m l')(ha:l[k]?=some a)(hq:q a=true):Kept q l (k+1) (m+1) (l'.set m a):=by
 have hlt:=h.lt
 have hk:=(List.getElem?_eq_some_iff.1 ha).1
 have hl:=h.len
 refine⟨by omega,hk,by rw[List.length_set];exact hl,?_,?_⟩
 ·have e:(l'.set m a)[m]?=some a:=List.getElem?_set_self (by omega)
  rw[A0z e,List.take_set_of_le (Nat.le_refl _),h.front,A0z ha,List.filter_append]
  simp[hq]
 ·rw[List.drop_set_of_lt (by omega)]
  have:=congrArg (List.drop 1) h.rest
  simpa [List.drop_drop] using this
theorem Kept.start {α:Type}{q : α→Bool}{l:List α}{k:Nat}{a : α}(ha:l[k]?=some a)(hq:q a=false)(h:∀ b∈l.take k,q b=true):Kept q l (k+1) k l:=by
 refine⟨by omega,(List.getElem?_eq_some_iff.1 ha).1,rfl,?_,rfl⟩
 rw[A0z ha,List.filter_append,List.filter_eq_self.2 h]
 simp[hq]
def D9g (d:Nat)(w:World)(B0:Nat)(l:List (VI (BI d)))(x:Int)(e:Ending)(w':World):Prop:=
 ((∀ v∈l,decide (v.number=x)=false)∧e = .returned (.tuple #[.agg #[.int .i64 0,.slice none 0 0,.slice none 0 0,.slice none 0 0],.bool false]))∨
 ∃ (k:Nat) (v:VI (BI d)),A0k (fun v:VI (BI d)=>decide (v.number=x)) l=(k:Int)∧l[k]?=some v∧v.number=x∧
  ∃ (y:VL (LB d)) (q0:Int) (x1:Option Addr) (y1 z1:Nat) (x2:Option Addr) (y2 z2:Nat) (x3:Option Addr) (y3 z3:Nat),(ekV (LB d)).enc y = [.int .i64 q0,.slice x1 y1 z1,.slice x2 y2 z2,.slice x3 y3 z3]∧e = .returned (.tuple #[.agg #[.int .i64 q0,.slice x1 y1 z1,.slice x2 y2 z2,.slice x3 y3 z3],.bool true])∧VL.pl (LB.pl d) y=v∧OwnV (ekB d) (OwnB B0 d) w' B0 y∧(∀ k∈VL.fp (LB.fp d) y,w.heap.size≤k)∧(VL.fp (LB.fp d) y).Nodup
theorem B2r {α:Type}{p : α→Bool}{l:List α}(h:l.findIdx? p=none):∀ v∈l,p v=false:=by
 rw[List.findIdx?_eq_none_iff] at h
 exact h
theorem A8h {α:Type}{p : α→Bool}{l:List α}{k:Nat}(h:l.findIdx? p=some k):∃ a,l[k]?=some a∧p a=true:=by
 rw[List.findIdx?_eq_some_iff_getElem] at h
 obtain⟨hk,hp,_⟩:=h
 exact⟨_,List.getElem?_eq_getElem hk,hp⟩
theorem B5t {d:Nat}{w:World}{B0:Nat}{v0 v1:Value}{b:BO (BI d)}(hB:B0≤w.heap.size)(h:BRd d w v0 v1 b)(ak:∀ v∈b.vals,VOk (BOk d) v)(x:Int) :
  Calls Tryz.prog 18 #[.agg #[v0,v1],.int .i64 x] w fun e w'=>D9g d w B0 b.vals x e w'∧Below w.heap.size w w':=by
 obtain⟨a0,n0,c0,rfl,Hn,bg⟩:=h.1.shape
 obtain⟨a1,n1,c1,rfl,_,_⟩:=h.2.shape
 obtain⟨W2,ac⟩:∃ W2,Hid (W2=(w.alloc (.cells #[.slice a0 n0 c0,.slice a1 n1 c1] 29)).alloc (.cells #[.int .i64 0,.slice none 0 0,.slice none 0 0,.slice none 0 0] 62)):=⟨_,rfl⟩
 have hb2:Below w.heap.size w W2:=by rw[ac.out];exact((Below.refl _ _).alloc (Nat.le_refl _) _).alloc (by simp) _
 have z2:w.heap.size+2≤W2.heap.size:=by rw[ac.out];simp
 have x1:W2.heap[w.heap.size]?=some (.cells #[.slice a0 n0 c0,.slice a1 n1 c1] 29 (0,0)):=by rw[ac.out];exact A0o _ _ _
 have x2:W2.heap[w.heap.size+1]?=some (.cells #[.int .i64 0,.slice none 0 0,.slice none 0 0,.slice none 0 0] 62 (0,0)):=by rw[ac.out];exact A0j _ _ _
 have hi:=C1m (BAt.stays d) (h.1.below (VAt.stays (BAt.stays d)) hb2) ⟨a1,n1,c1,rfl⟩ x
 cases hp:b.vals.findIdx? (fun v=>decide (v.number=x)) with
 | none=>
  have e1:A0k (fun v:VI (BI d)=>decide (v.number=x)) b.vals = -1:=by unfold A0k;rw[hp]
  have HP:Hid (∀ v∈b.vals,decide (v.number=x)=false):=B2r hp
  rw[e1] at hi
  clear hp e1 ak
  go_enter Tryz.func18,Tryz.ntmps18
  go_wp2_with fail
  rw[←ac.out]
  refine hi.mono ?_
  rintro e w1 ⟨rfl,hb1⟩
  have y2:=(hb1.block _ (by omega)).trans x2
  have s0:=A0a y2 0 _ rfl
  have s1:=A0a y2 1 _ rfl
  have s2:=A0a y2 2 _ rfl
  have s3:=A0a y2 3 _ rfl
  have f0:=A0b y2 0
  have f1:=A0b y2 1
  have f2:=A0b y2 2
  have f3:=A0b y2 3
  go_wp2_with fail
  refine bodyPost_ret (v:=.tuple #[.agg #[.int .i64 0,.slice none 0 0,.slice none 0 0,.slice none 0 0],.bool false]) (by simp[results,Tryz.results18,go_sem, *]) rfl ?_
  exact⟨.inl ⟨HP.out,rfl⟩,A2w (A2w (A2w (A2w (BTr hb2 hb1) (by omega)) (by omega)) (by omega)) (by omega)⟩
 | some k=>
  have e1:A0k (fun v:VI (BI d)=>decide (v.number=x)) b.vals=(k:Int):=by unfold A0k;rw[hp]
  obtain⟨v,Hv,hx⟩:=A8h hp
  have HX:Hid (v.number=x):=(show v.number=x from of_decide_eq_true hx)
  have HF:Hid (A0k (fun v:VI (BI d)=>decide (v.number=x)) b.vals=(k:Int)):=e1
  have HV:Hid (b.vals[k]?=some v):=Hv
  have bn:(k:Int)<(n0:Int):=by have:=(List.getElem?_eq_some_iff.1 Hv).1;have:=Hn.out;omega
  have bk:¬ (k:Int)<0:=by omega
  have ag:=ak v (List.mem_of_getElem? Hv)
  rw[e1] at hi
  clear hp e1 ak hx Hv
  go_enter Tryz.func18,Tryz.ntmps18
  go_wp2_with fail
  rw[←ac.out]
  refine hi.mono ?_
  rintro e w1 ⟨rfl,hb1⟩
  have aw:=BTr hb2 hb1
  have hz1:=hb1.size
  obtain⟨b0,off,rfl,hat⟩:=(h.1.below (VAt.stays (BAt.stays d)) aw).get VAt.plain HV.out
  obtain⟨u1,u2,u3,s0,s1,s2,s3,r1,r2,r3⟩:=hat.at
  obtain⟨a4,n4,c4,rfl,_,_⟩:=r1.shape
  obtain⟨a2,n2,c2,rfl,_,_⟩:=r2.shape
  obtain⟨a3,n3,c3,rfl,_,_⟩:=r3.shape
  obtain⟨t0,t1⟩:=A0y ((hb1.block _ (by omega)).trans x1)
  have hc:=C2k d w1 B0 v a4 n4 c4 a2 n2 c2 a3 n3 c3 (by omega) r1 r2 r3 ag
  have y2:=(hb1.block _ (by omega)).trans x2
  clear hat r1 r2 r3 ag h x1 x2 hi
  go_wp2_with fail
  refine hc.mono ?_
  rintro e w2 ⟨y,q0,x1,y1,z1,x2,ah,aj,x3,y3,z3,HE,rfl,hpl,bc,ba,bh,hb3⟩
  have HE:Hid ((ekV (LB d)).enc y = [.int .i64 q0,.slice x1 y1 z1,.slice x2 ah aj,.slice x3 y3 z3]):=HE
  have g2:=(hb3.block _ (by omega)).trans y2
  have bp:=A0a g2 0 _ rfl
  have bq:=A0a g2 1 _ rfl
  have br:=A0a g2 2 _ rfl
  have bt:=A0a g2 3 _ rfl
  have f0:=A0b g2 0
  have f1:=A0b g2 1
  have f2:=A0b g2 2
  have f3:=A0b g2 3
  have hf:=fr4 g2 (x0:=.int .i64 q0) (x1:=.slice x1 y1 z1) (x2:=.slice x2 ah aj) (x3:=.slice x3 y3 z3)
  have au:=OwnV.fr (OwnB.fr d) bc hf fun k hk hm=>by
   rw[List.mem_singleton] at hm
   have:=ba k hk
   omega
  clear bc hf hc
  go_wp2_with fail
  refine bodyPost_ret (v:=.tuple #[.agg #[.int .i64 q0,.slice x1 y1 z1,.slice x2 ah aj,.slice x3 y3 z3],.bool true]) (by simp[results,Tryz.results18,go_sem, *]) rfl ?_
  exact⟨.inr ⟨k,v,HF.out,HV.out,HX.out,y,q0,x1,y1,z1,x2,ah,aj,x3,y3,z3,HE.out,rfl,hpl,au,fun k hk=>by have:=ba k hk;omega,bh⟩,A2w (A2w (A2w (A2w (BTr aw hb3) (by omega)) (by omega)) (by omega)) (by omega)⟩
theorem FrB.blk {F:List Nat}{w w':World}(h:FrB F w w'){k:Nat}(hk:k<w.heap.size)(hF:k∉F):w'.heap[k]?=w.heap[k]?:=h.block k hk (.inl hF)
theorem FrB.on {F:List Nat}{a b c:World}(h:FrB F a b)(hb:Below b.heap.size b c):FrB F a c:=h.trans (.of_below hb:FrB [] _ _) (fun _ hi=>hi) (fun _ hi=>by simp at hi)
theorem D1m {d:Nat}{P:World→Addr→BI d→Prop}(hP:A5g P){w:World}{base:Nat}{v:Value}{l:List (VL (LB d))}{fn:Nat}{ba:Array Value}{K:List Nat}{p:Int→Bool}(h:Row (ekV (LB d)) w base v l)(cj:RdL 4 (VAt P) w v (l.map (VL.pl (LB.pl d))))
  (cg:∀ (args:Array Value) (w:World),(callFunc fn args).run Tryz.prog w = .ok (.enter fn args) w) (hp:PredK fn ba K w p) (hK:∀ k∈K,k<w.heap.size) (dm:∀ k∈K,v.ownBlock≠some k) (hI:∀ a∈l,I64 a.number) :
  Calls Tryz.prog 68 #[v,.func (.func fn) #[] ba] w fun e w'=>∃ q:PV,e = .returned q.v∧q.v.ownBlock=v.ownBlock∧Row (ekV (LB d)) w' base q.v (l.filter fun a=>!p a.number)∧FrB v.ownBlock.toList w w':=by
 have ag:=D2a hP cj cg hp hK (fun a ha=>by
  obtain⟨b,hb,rfl⟩:=List.mem_map.1 ha
  exact hI b hb)
 rw[show A0k (fun v:VI (BI d)=>p v.number) (l.map (VL.pl (LB.pl d)))=A0k (fun v:VL (LB d)=>p v.number) l by
  unfold A0k;rw[List.findIdx?_map];rfl] at ag
 obtain⟨ao,n,cap,rfl,Hn⟩:=h.shape'
 cases hf:l.findIdx? (fun v:VL (LB d)=>p v.number) with
 | none=>
  have e1:A0k (fun v:VL (LB d)=>p v.number) l = -1:=by unfold A0k;rw[hf]
  have HA:Hid (l.filter (fun a=>!p a.number)=l):=by
   show _=_
   refine List.filter_eq_self.2 fun a ha=>?_
   have:=B2r hf a ha
   simp[this]
  rw[e1] at ag
  clear hf e1 cj hp hI
  go_enter Tryz.func68,Tryz.ntmps68
  go_wp2_with fail
  refine ag.mono ?_
  rintro e w1 ⟨rfl,hb1⟩
  go_wp2
  go_ret
  exact⟨(ao,n,cap),rfl,rfl,by rw[HA.out];exact h.below hb1,.of_below hb1⟩
 | some k0=>
  have e1:A0k (fun v:VL (LB d)=>p v.number) l=(k0:Int):=by unfold A0k;rw[hf]
  obtain⟨a0,ha0,cu⟩:=A8h hf
  have hst:Kept (fun a:VL (LB d)=>!p a.number) l (k0+1) k0 l:=Kept.start ha0 (by simp[cu]) fun b hb=>by
   rw[List.findIdx?_eq_some_iff_getElem] at hf
   obtain⟨hk,_,hall⟩:=hf
   obtain⟨i,hi,rfl⟩:=List.mem_iff_getElem.1 hb
   rw[List.getElem_take]
   have:=hall i (by rw[List.length_take] at hi;omega)
   simp at this
   simp[this]
  have dw:k0<n:=by rw[Hn.out];exact(List.getElem?_eq_some_iff.1 ha0).1
  obtain⟨g,rfl⟩:∃ g,ao=some ⟨g,0,none⟩:=by
   rcases h.2 with⟨hv,hn⟩|⟨g,cap',cur,hv,_⟩
   ·have:=Hn.out;omega
   ·cases hv;exact⟨g,rfl⟩
  obtain⟨_,hbg,ee,hcm,dh,hg0,_⟩:=h.cur
  have dv:g<w.heap.size:=(Array.getElem?_eq_some_iff.1 hg0).1
  have bt:∀ k∈K,k∉[g]:=fun k hk hm=>by
   rw[List.mem_singleton] at hm
   exact dm k hk (by rw[hm];rfl)
  have dr:((k0:Int) == -1)=false:=beq_eq_false_iff_ne.2 (by omega)
  unfold maxLen at hcm
  rw[e1] at ag
  have HR:Hid (Row (ekV (LB d)) w base (.slice (some ⟨g,0,none⟩) n cap) l):=h
  clear hf e1 cj ha0 cu hg0 h
  go_enter Tryz.func68,Tryz.ntmps68
  go_wp2_with fail
  refine ag.mono ?_
  rintro e w1 ⟨rfl,hb1⟩
  go_wp2_with fail
  go_loopg [5,6,7] n (fun gm s5 s6 _ wr=>∃ (k m:Nat) (l':List (VL (LB d))),k≤n∧n-k≤gm∧s5 = .int .i64 (m:Int)∧s6 = .int .i64 (k:Int)∧Hid (Row (ekV (LB d)) wr base (.slice (some ⟨g,0,none⟩) n cap) l')∧Kept (fun a:VL (LB d)=>!p a.number) l k m l'∧FrB [g] w wr)
  case atStart=>exact⟨k0+1,k0,l,by omega,by omega,rfl,by go_num,HR.out.below hb1,hst,.of_below hb1⟩
  case round=>
   obtain⟨k,m,l',dy,hk,rfl,rfl,HL,aj,bh⟩:=hrel
   have d9:=aj.lt
   have cw:=bh.size
   by_cases hlt:k<n
   ·obtain⟨a,Ha⟩:∃ a,Hid (l[k]?=some a):=⟨l[k]'(by rw[←Hn.out];exact hlt),List.getElem?_eq_getElem (by rw[←Hn.out];exact hlt)⟩
    have dl:=hI a (A3u Ha.out)
    have br:Hid (l'[k]?=some a):=by show _=_;rw[aj.at];exact Ha.out
    obtain⟨am,Hm⟩:∃ am,Hid (l'[m]?=some am):=by
     have:=aj.len
     have hm:m<l'.length:=by rw[this,←Hn.out];omega
     exact⟨l'[m],List.getElem?_eq_getElem hm⟩
    obtain⟨nu,bi,dg,su,⟨a1,n1,c1⟩,⟨a2,n2,c2⟩,⟨a3,n3,c3⟩⟩:=a
    have s0:wr.cell? ⟨g,k*4,none⟩=some (.int .i64 nu):=HL.out.cells br.out (j:=0) rfl
    have s1:wr.cell? ⟨g,k*4+1,none⟩=some (.slice a1 n1 c1):=HL.out.cells br.out (j:=1) rfl
    have s2:wr.cell? ⟨g,k*4+2,none⟩=some (.slice a2 n2 c2):=HL.out.cells br.out (j:=2) rfl
    have s3:wr.cell? ⟨g,k*4+3,none⟩=some (.slice a3 n3 c3):=HL.out.cells br.out (j:=3) rfl
    have dx:(k:Int)<(n:Int):=by omega
    have dz:(m:Int)<(n:Int):=by omega
    obtain⟨W1,aw⟩:∃ W1,Hid (W1=wr.alloc (.cells #[.int .i64 nu,.slice a1 n1 c1,.slice a2 n2 c2,.slice a3 n3 c3] 62)):=⟨_,rfl⟩
    have bu:Below wr.heap.size wr W1:=by rw[aw.out];exact(Below.refl _ _).alloc (Nat.le_refl _) _
    have xW:W1.heap[wr.heap.size]?=some (.cells #[.int .i64 nu,.slice a1 n1 c1,.slice a2 n2 c2,.slice a3 n3 c3] 62 (0,0)):=by rw[aw.out];exact heap_alloc_new _ _
    have zW:wr.heap.size+1≤W1.heap.size:=by rw[aw.out];simp
    have ac:=hp W1 (Nat.le_trans cw bu.size) (fun k hk=>(bu.block k (Nat.lt_of_lt_of_le (hK k hk) cw)).trans (bh.blk (hK k hk) (bt k hk))) nu dl a1 n1 c1 a2 n2 c2 a3 n3 c3
    cases hq:p nu with
    | true=>
     have ak:Kept (fun a:VL (LB d)=>!p a.number) l (k+1) m l':=aj.skip Ha.out (by simp[hq])
     rw[hq] at ac
     clear hq hp hI ag bt aj
     go_wp2_with fail
     rw[←aw.out]
     refine ac.mono ?_
     rintro e w2 ⟨rfl,hb2⟩
     have ah:Below wr.heap.size wr w2:=BTr bu hb2
     go_wp2_with fail
     go_roundg (n-(k+1))
     case measure=>omega
     case rel=>exact⟨k+1,m,l',by omega,by omega,rfl,by go_num,HL.out.below ah,ak,bh.on ah⟩
    | false=>
     have ak:=aj.keep Ha.out (by simp[hq])
     rw[hq] at ac
     clear hq hp hI ag bt aj
     go_wp2_with fail
     rw[←aw.out]
     refine ac.mono ?_
     rintro e w2 ⟨rfl,hb2⟩
     have ah:Below wr.heap.size wr w2:=BTr bu hb2
     have au:Hid (Row (ekV (LB d)) w2 base (.slice (some ⟨g,0,none⟩) n cap) l'):=HL.out.below ah
     obtain⟨_,_,_,_,di,hg2,_⟩:=au.out.cur
     have y2:=(hb2.block _ (by omega)).trans xW
     have t0:=A0a y2 0 _ rfl
     have t1:=A0a y2 1 _ rfl
     have t2:=A0a y2 2 _ rfl
     have t3:=A0a y2 3 _ rfl
     obtain⟨mu,mi,my,ms,⟨b1,d1,f1⟩,⟨b2,d2,f2⟩,⟨b3,d3,f3⟩⟩:=am
     have u0:w2.cell? ⟨g,m*4,none⟩=some (.int .i64 mu):=au.out.cells Hm.out (j:=0) rfl
     have u1:w2.cell? ⟨g,m*4+1,none⟩=some (.slice b1 d1 f1):=au.out.cells Hm.out (j:=1) rfl
     have u2:w2.cell? ⟨g,m*4+2,none⟩=some (.slice b2 d2 f2):=au.out.cells Hm.out (j:=2) rfl
     have u3:w2.cell? ⟨g,m*4+3,none⟩=some (.slice b3 d3 f3):=au.out.cells Hm.out (j:=3) rfl
     have q0:=A0b hg2 (m*4)
     have q1:=A0b hg2 (m*4+1)
     have q2:=A0b hg2 (m*4+2)
     have q3:=A0b hg2 (m*4+3)
     have bg:=au.out.setV (i:=m) (a:=⟨nu,bi,dg,su,(a1,n1,c1),(a2,n2,c2),(a3,n3,c3)⟩) rfl (by omega)
     have bw:Hid _:=bg
     have bk:=D8t hg2 (i:=m*4) (x0:=.int .i64 nu) (x1:=.slice a1 n1 c1) (x2:=.slice a2 n2 c2) (x3:=.slice a3 n3 c3)
     have bn:=A2c (bh.on ah) bk
     have df:Hid _:=bn
     clear bg bk bn ac y2 xW hg2
     go_wp2_with fail
     go_roundg (n-(k+1))
     case measure=>omega
     case rel=>exact⟨k+1,m+1,_,by omega,by omega,by go_num,by go_num,bw.out,ak,df.out⟩
   ·obtain rfl:k=n:=by omega
    have dp:m≤k:=by omega
    obtain⟨_,_,_,_,bc,bv,bp⟩:=HL.out.cur
    have bq:bc.size=cap*4:=bp
    obtain⟨vs,dt⟩:=C5s (w:=wr) (g:=g) (o:=m*4) (n:=k-m) (c:=cap-m) (by omega) (fun j hj=>by
     have:m*4+j<bc.size:=by omega
     rw[A0a bv (m*4+j) _ (Array.getElem?_eq_getElem this)];rfl) (fun j _=>A0b bv (m*4+j))
    have HF:Hid (Row (ekV (LB d)) (wr.setCells g (m*4) vs) base (.slice (some ⟨g,0,none⟩) m cap) (l'.take m)):=HL.out.cut dp vs (Nat.le_refl _)
    have HG:Hid (FrB [g] w (wr.setCells g (m*4) vs)):=FrB.setCells (o:=m*4) vs (m*4) bh bv (by show(62:TypeId)≠5;decide)
    have HE:Hid (l'.take m=l.filter fun a=>!p a.number):=by
     show _=_
     rw[aj.front,List.take_of_length_le (by rw[←Hn.out];exact Nat.le_refl _)]
    have dn:¬ (k:Int)<(k:Int):=by omega
    clear bp bq bv ag hp hI bt aj
    go_wp2
    go_ret
    exact⟨some ⟨g,0,none⟩,m,cap,rfl,rfl,by rw[←HE.out];exact HF.out,HG.out⟩
theorem A9v {w:World}{ty:TypeId}{g o dLen ac:Nat}{a:Addr}{sLen ah m:Nat}{cs:List Value}(hm:Nat.min sLen dLen=m)(hl:cs.length=m*4)
  (ag:∀ j v,cs[j]?=some v→w.cell? (a.add j)=some v) (hc:∀ j,j<cs.length→(w.cell? ⟨g,o+j,none⟩).isSome=true) (hf:∀ j,j<cs.length→w.frozen? ⟨g,o+j,none⟩=false) (h1:∀ v∈cs,v.oneCell'=true) :
  (Builtin.copy_ #[26,26] ty #[.slice (some ⟨g,o,none⟩) dLen ac,.slice (some a) sLen ah]).run Tryz.prog w = .ok (goInt m) (w.setCells g o cs):=by
 have aj:=run_loadCells_list (P:=Tryz.prog) w a cs ag
 have hst:=run_storeCells_cells (P:=Tryz.prog) g o cs 0 w (by simpa using hc) (by simpa using hf) h1
 obtain⟨i,hi,_,hz1,_⟩:=info_parts (ekV Unit).info
 have hz1:i.size=4:=hz1
 have hi:Tryz.prog.info? 62=some i:=hi
 rw[hl] at aj
 simp only[Nat.add_zero] at hst
 simp[Builtin.copy_,run_underlying Tryz.underlying26,Builtin.lenOf,Builtin.firstCells,sizeOf,typeInfo,hi,hz1,hm,aj,hst]
section
variable {α:Type}{E:EK α}{V:World}{base g n cap i:Nat}{l:List α}{a : α}
theorem C9o {cur:Array Value}(hb:base≤g)(hg:V.heap[g]?=some (.cells cur E.elem (0,0)))(hsz:cur.size=cap*E.size)(hn:l.length=n)(hi:i≤n)(h1:n+1≤cap)(h2:cap≤maxLen)
  (hA:∀ k y,k<i→l[k]?=some y→∀ j u,(E.enc y)[j]?=some u→V.cell? ⟨g,k*E.size+j,none⟩=some u) (hB:∀ j u,(E.enc a)[j]?=some u→V.cell? ⟨g,i*E.size+j,none⟩=some u)
  (hC:∀ j u,(E.flat (l.drop i))[j]?=some u→V.cell? ⟨g,(i+1)*E.size+j,none⟩=some u):Row E V base (.slice (some ⟨g,0,none⟩) (n+1) cap) (l.take i++[a]++l.drop i):=by
 have ac:(l.take i).length=i:=by rw[List.length_take];omega
 refine Row.of_cells hb hg hsz (by simp;omega) h1 h2 fun k y hy j u hu=>?_
 have hj:j<E.size:=by have:=(List.getElem?_eq_some_iff.1 hu).1;rw[E.len] at this;exact this
 rw[List.append_assoc] at hy
 by_cases h3:k<i
 ·rw[List.getElem?_append_left (by omega),List.getElem?_take,if_pos h3] at hy
  exact hA k y h3 hy j u hu
 ·rw[List.getElem?_append_right (by omega),ac] at hy
  by_cases h4:k=i
  ·subst h4
   rw[Nat.sub_self] at hy
   simp at hy
   subst hy
   exact hB j u hu
  ·rw[List.getElem?_append_right (by simp;omega)] at hy
   simp only[List.length_singleton] at hy
   have:=hC ((k-i-1)*E.size+j) u (by rw[E.flat_at _ _ j y hy hj];exact hu)
   rw[←Nat.add_assoc,←Nat.add_mul,show i+1+(k-i-1)=k by omega] at this
   exact this
end
theorem B5u {w w':World}{v:Value}{F:List Nat}(h:w.grownBy w' v.ownBlock){t:TypeId}(ht:t≠5)(hv:∀ g,v.ownBlock=some g→∃ cs fr,w.heap[g]?=some (.cells cs t fr))(hF:∀ g,v.ownBlock=some g→g∈F):FrB F w w':=
 ⟨h.os,h.tape,h.output,h.size,fun k hk hc=>h.block k hk fun e=>by
  rcases hc with hc|⟨cs',fr',hc⟩
  ·exact hc (hF k e.symm)
  ·obtain⟨cs,fr,hg⟩:=hv k e.symm
   rw[hg] at hc
   simp only[Option.some.injEq,Obj.cells.injEq] at hc
   exact ht hc.2.1⟩
theorem C4t {β:Type}{w:World}{base:Nat}{ao:Option Addr}{n cap vb:Nat}{l:List (VL β)}{a:VL β}{x0 x1 x2 x3:Value}(h:Row (ekV β) w base (.slice ao n cap) l)(he:(ekV β).enc a = [x0,x1,x2,x3])(hv:w.heap[vb]?=some (.cells #[x0,x1,x2,x3] 62 (0,0)))
  (hlen:(n+1)*80≤140737488355328) (hb:base≤w.heap.size) :
  Calls Tryz.prog 71 #[.slice ao n cap,.int .i64 (n:Int),.slice (some ⟨vb,0,none⟩) 1 1] w fun e w'=>∃ q:PV,e = .returned q.v∧(∀ k,q.v.ownBlock=some k→(Value.slice ao n cap).ownBlock=some k∨w.heap.size≤k)∧Row (ekV β) w' base q.v (l++[a])∧FrB (Value.slice ao n cap).ownBlock.toList w w':=by
 have hn:l.length=n:=by
  obtain⟨ak,cap',e⟩:=h.shape
  cases e;rfl
 have ac:∀ ad,(some ⟨vb,0,none⟩:Option Addr)=some ad→∀ k y,[a][k]?=some y→∀ j u,((ekV β).enc y)[j]?=some u→w.cell? (ad.add (k*(ekV β).size+j))=some u:=A8o hv (by rw[he])
 have hl2:(l.length + [a].length)*(ekV β).bytes≤140737488355328:=by rw[hn];exact hlen
 have ag:n≤cap:=by
  rcases h.2 with⟨e,hn0⟩|⟨g,cap',cur,e,_,_,h1,_⟩
  ·cases e;omega
  ·cases e;exact h1
 have ah:∀ g,(Value.slice ao n cap).ownBlock=some g→∃ cs fr,w.heap[g]?=some (.cells cs 62 fr):=fun g hg=>by
  rcases h.2 with⟨e,_⟩|⟨g',cap',cur,e,_,hg',_⟩
  ·rw[e] at hg;simp[Value.ownBlock] at hg
  ·rw[e] at hg;simp[Value.ownBlock] at hg;subst hg;exact⟨_,_,hg'⟩
 have HN:Hid (l.length=n):=hn
 clear hn
 go_enter Tryz.func71,Tryz.ntmps71
 go_wp2_with (at_builtin;refine A1s rfl (ekV β) _ _ rfl base _ l [a] rfl h (some ⟨vb,0,none⟩) 1 1 rfl rfl (fun h=>by cases h) ac (show 1≤80 by omega) hl2 hb ?_)
 all_goals (
  try subst h
  intro v4 w4 hr4 hg4 hk4
  obtain⟨a4,n4,c4,rfl,aj⟩:=hr4.shape'
  go_wp2
  go_ret
  exact⟨(a4,n4,c4),rfl,hk4,hr4,B5u (t:=62) hg4 (by decide) ah fun g hg=>by rw[hg];simp⟩)
section
variable {α:Type}{w:World}
theorem Row.src {E:EK α}{base:Nat}{ao:Option Addr}{n cap:Nat}{m:List α}(h:Row E w base (.slice ao n cap) m):m.length=n∧(ao=none→n=0∧cap=0)∧∀ ad,ao=some ad→∀ k y,m[k]?=some y→∀ j u,(E.enc y)[j]?=some u→w.cell? (ad.add (k*E.size+j))=some u:=by
 refine⟨h.len.symm,?_,?_⟩
 ·intro e
  subst e
  rcases h.2 with⟨hv,hn⟩|⟨g,cap',cur,hv,_⟩
  ·cases hv;exact⟨rfl,rfl⟩
  ·cases hv
 ·intro ad e k y hy j u hu
  subst e
  rcases h.2 with⟨hv,hn⟩|⟨g,cap',cur,hv,hbg,hg,hnc,hcm,hcs,htake⟩
  ·cases hv
  ·cases hv
   rw[A0e,Nat.zero_add]
   exact h.cells hy hu
theorem Row.front {E:EK α}{base g n cap:Nat}{l m:List α}{w':World}(h:Row E w' base (.slice (some ⟨g,0,none⟩) (l.length+n) cap) (l++m)):Row E w' base (.slice (some ⟨g,0,none⟩) l.length cap) l:=by
 obtain⟨_,h1,h2,h3,cur,h4,h5⟩:=h.cur
 refine Row.of_cells h1 h4 h5 rfl (by omega) h3 fun k y hy j u hu=>?_
 exact h.cells (by rw[List.getElem?_append_left (List.getElem?_eq_some_iff.1 hy).1];exact hy) hu
theorem D3n (E:EK α)(ty:TypeId)(base:Nat)(p q:PV)(l m:List α)(hY:E.elem≠5)(hown:Row E w base p.v l)(hq:Row E w base q.v m)(hby:1≤E.bytes)(hlen:(l.length+m.length)*E.bytes≤140737488355328)(hb:base≤w.heap.size) :
  ∃ (a':Option Addr) (n' c':Nat) (w':World),(Builtin.append_ #[E.slice,E.slice] ty #[p.v,q.v]).run Tryz.prog w = .ok (.slice a' n' c') w'∧Row E w' base (.slice a' n' c') (l++m)∧Row E w' base p.v l∧FrB (own1 p) w w'∧∀ k∈own1 (a',n',c'),k∈own1 p∨w.heap.size≤k:=by
 obtain⟨ao,n,cap⟩:=q
 have hq':Row E w base (.slice ao n cap) m:=hq
 obtain⟨hm,hnil,hcell⟩:=hq'.src
 obtain⟨v',w',hr,h1,h2,h3⟩:=C2x E ty base p.v l m hown ao n cap hm hnil hcell hby hlen hb
 obtain⟨a',c',rfl⟩:=h1.shape
 have aj:FrB (own1 p) w w':=B5u h2 hY (fun g hg=>by
  rcases hown.2 with⟨hv,hn⟩|⟨g',cap',cur,hv,hbg,hgg,_⟩
  ·rw[hv] at hg;simp[Value.ownBlock] at hg
  ·rw[hv] at hg
   simp only[Value.ownBlock,Option.some.injEq] at hg
   subst hg
   exact⟨cur,_,hgg⟩) (fun g hg=>A0u.2 hg)
 refine⟨a',_,c',w',hr,h1,?_,aj,fun k hk=>(h3 k (A0u.1 hk)).imp A0u.2 id⟩
 obtain⟨i0,hi,hz0,hz1,hz2⟩:=info_parts E.info
 have h63:l.length+m.length≤maxLen:=by
  have:l.length+m.length≤(l.length+m.length)*E.bytes:=Nat.le_mul_of_pos_right _ hby
  unfold maxLen;omega
 rcases hown.2 with⟨hv,hn⟩|⟨g,cap',cur,hv,hbg,hg,hnc,hcm,hcs,htake⟩
 ·have hl0:l = []:=List.eq_nil_of_length_eq_zero hn
  rw[hv,hl0]
  exact Row.nil _ _ _
 ·cases ao with
  | none=>
   obtain⟨rfl,rfl⟩:=hnil rfl
   have hrun:=run_append_owned_none (P:=Tryz.prog) (w:=w) base E.slice ty E.elem i0 E.size E.under hi p.v l.length (E.flat l) hown
   have:(Builtin.append_ #[E.slice,E.slice] ty #[p.v,.slice none 0 0]).run Tryz.prog w = .ok (.slice a' (l++m).length c') w':=hr
   rw[hrun] at this
   simp only[Result.ok.injEq] at this
   rw[←this.2]
   exact hown
  | some ad=>
   have hl:(E.flat m).length=n*E.size:=by rw[E.flat_len,hm]
   have hnews:∀ j u,(E.flat m)[j]?=some u→w.cell? (ad.add j)=some u:=by
    intro j u hu
    obtain⟨y,h1,h2⟩:=E.flat_get hu
    have:=hcell ad rfl _ y h1 _ u h2
    rwa [Nat.mul_comm,Nat.div_add_mod] at this
   have h1c:∀ u∈E.flat m,u.oneCell'=true:=by
    intro y hy
    simp only[EK.flat,List.mem_flatMap] at hy
    obtain⟨p,hp,hy⟩:=hy
    exact E.one p y hy
   have ac:(Builtin.append_ #[E.slice,E.slice] ty #[.slice (some ⟨g,0,none⟩) l.length cap',.slice (some ad) n cap]).run Tryz.prog w = .ok (.slice a' (l++m).length c') w':=by rw[←hv];exact hr
   by_cases hroom:l.length+n≤cap'
   ·have ag:l.length*i0.size+(E.flat m).length≤cur.size:=by rw[hl,hcs,hz1,←Nat.add_mul];exact Nat.mul_le_mul_right _ hroom
    have hr2:=run_append_room (P:=Tryz.prog) w E.slice ty E.elem i0 E.under hi g l.length cap' cur hg ad n cap (E.flat m) (by rw[hl,hz1]) hnews h1c hroom ag
    rw[hr2] at ac
    simp only[Result.ok.injEq,Value.slice.injEq] at ac
    obtain⟨⟨rfl,_,rfl⟩,_⟩:=ac
    have ah:Row E w' base (.slice (some ⟨g,0,none⟩) (l.length+m.length) cap') (l++m):=by
     have:=h1
     rwa [List.length_append] at this
    rw[hv]
    exact ah.front
   ·have holds:=World.ownsRow.cells (show w.ownsRow base E.elem E.size (.slice (some ⟨g,0,none⟩) l.length cap') l.length (E.flat l) by rw[←hv];exact hown) (g:=g) rfl
    have hr2:=run_append_grow (P:=Tryz.prog) w E.slice ty E.elem i0 _ E.under hi hz0 ⟨g,0,none⟩ l.length cap' (E.flat l) (by rw[hz1];exact hown.1) holds ad n cap (E.flat m) (by rw[hl,hz1]) hnews (by omega) (by unfold maxLen at h63;omega) (growslice_fits (by omega) (by rw[hz2,←hm];exact hlen))
    rw[hr2] at ac
    simp only[Result.ok.injEq] at ac
    rw[←ac.2]
    exact hown.keep fun k _ hk=>by
     rw[Below.heap_alloc _ _ _ (show k<w.drew.heap.size from hk)]
     rfl
end
end L
end Go.Proofs.YtgaoojpakjjdnaaGreatDoor
