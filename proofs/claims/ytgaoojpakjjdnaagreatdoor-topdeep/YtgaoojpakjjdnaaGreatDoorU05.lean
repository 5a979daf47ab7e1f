import Derived.Test.YtgaoojpakjjdnaaGreatDoorU02
import Derived.Laws.EntriesVeiled
set_option maxHeartbeats 32000000
set_option maxRecDepth 100000
namespace Go.Proofs.YtgaoojpakjjdnaaGreatDoor
namespace L
open Go.RowKit
structure Fr (B:Nat) (cs:List Nat) (w w':World):Prop where
 os:w'.os=w.os
 tape:w'.tape=w.tape
 output:w'.output=w.output
 size:w.heap.size≤w'.heap.size
 block:∀ k,k < w.heap.size→k∉cs→(k < B∨∀ xs fr,w.heap[k]?≠some (.cells xs 9 fr)∧w.heap[k]?≠some (.cells xs 3 fr))→w'.heap[k]?=w.heap[k]?
theorem Fr.refl (B:Nat) (cs:List Nat) (w:World):Fr B cs w w:=⟨rfl,rfl,rfl,Nat.le_refl _,fun _ _ _ _=>rfl⟩
theorem Fr.trans {B:Nat}{cs:List Nat}{a b c:World}(h:Fr B cs a b) (k:Fr B cs b c):Fr B cs a c:=
 ⟨k.os.trans h.os,k.tape.trans h.tape,k.output.trans h.output,Nat.le_trans h.size k.size,fun i hi hc hk=>by
  have e:=h.block i hi hc hk
  rw[k.block i (Nat.lt_of_lt_of_le hi h.size) hc ?_,e]
  rcases hk with hk|hk
  ·exact .inl hk
  ·right;intro xs fr;rw[e];exact hk xs fr⟩
theorem Fr.of_below {B:Nat}{cs:List Nat}{w w':World}(h:Below w.heap.size w w'):Fr B cs w w':=⟨h.os,h.tape,h.output,h.size,fun k hk _ _=>h.block k hk⟩
theorem Fr.below {B B0:Nat}{cs:List Nat}{w w':World}(h:Fr B cs w w') (hB:B0≤B) (hw:B0≤w.heap.size) (hc:∀ c∈cs,B0≤c):Below B0 w w':=
 ⟨h.os,h.tape,h.output,h.size,fun k hk=>h.block k (by omega) (fun e=>by have:=hc k e;omega) (.inl (by omega))⟩
theorem Fr.setNew {B:Nat}{cs:List Nat}{w x:World}(h:Fr B cs w x) (i:Nat) (v:Value):Fr B cs w (x.setCell ⟨w.heap.size,i,none⟩ v):=
 ⟨h.os,h.tape,h.output,by simpa using h.size,fun k hk hc hq=>(Below.heap_setCell x ⟨w.heap.size,i,none⟩ v k (show k≠w.heap.size by omega)).trans (h.block k hk hc hq)⟩
def A0u {α σ:Type}(step:Nat→α→σ→Bool×σ):Nat→List Int→α→σ→Option Int×σ
 | _,[],_,s=>(none,s)
 | j,e::r,x,s=>if (step j x s).1 then(some e,(step j x s).2) else A0u step (j+1) r x (step j x s).2
def A0k {α σ:Type}(step:Nat→α→σ→Bool×σ) (errs:List Int):Nat→List α→σ→Int×Nat
 | _,[],_=>(0,0)
 | i,x::l,s=>match A0u step 0 errs x s with
  | (some e,_)=>(e,i)
  | (none,s')=>A0k step errs (i+1) l s'
def fv (f:FI):Value:=.agg #[.string (S f.name),.int .i64 f.number,.int .i64 f.kind,.string (S f.type),.bool f.many,.int .i64 f.choice]
structure Ru where
 err:Int
 fn:Nat
 cap:Array Value
def A5j (rs:List Ru):Array Value:=(rs.flatMap fun r=>[.int .i64 r.err,.func (.func r.fn) #[] r.cap]).toArray
theorem A8c {α σ:Type}{step:Nat→α→σ→Bool×σ}{errs:List Int}{j:Nat}{e:Int}(he:errs[j]?=some e) (x : α) (s : σ):A0u step j (errs.drop j) x s=if (step j x s).1 then(some e,(step j x s).2) else A0u step (j+1) (errs.drop (j+1)) x (step j x s).2:=by
 obtain⟨hk,e1⟩:=List.getElem?_eq_some_iff.1 he
 rw[List.drop_eq_getElem_cons hk,e1,A0u]
theorem A7w {α σ:Type}{step:Nat→α→σ→Bool×σ}{errs:List Int}{l:List α}{k:Nat}{a : α}(ha:l[k]?=some a) (s : σ):A0k step errs k (l.drop k) s=match A0u step 0 errs a s with|(some e,_)=>(e,k)|(none,s')=>A0k step errs (k+1) (l.drop (k+1)) s':=by
 obtain⟨hk,e1⟩:=List.getElem?_eq_some_iff.1 ha
 rw[List.drop_eq_getElem_cons hk,e1,A0k]
theorem Fr.keep {B:Nat}{cs:List Nat}{w w':World}(h:Fr B cs w w'){k:Nat}{xs:Array Value}{t:TypeId}{fr:Nat×Nat}(hk:w.heap[k]?=some (.cells xs t fr)) (hc:k∉cs) (ht:t≠9∧t≠3):w'.heap[k]?=some (.cells xs t fr):=by
 rw[h.block k (Array.getElem?_eq_some_iff.1 hk).1 hc ?_]
 ·exact hk
 ·right
  intro ys f
  rw[hk]
  simp
  exact⟨fun _ e=>absurd e ht.1,fun _ e=>absurd e ht.2⟩
theorem C8y {rs:List Ru}{j:Nat}{r:Ru}(h:rs[j]?=some r):(A5j rs)[j*2]?=some (.int .i64 r.err)∧(A5j rs)[j*2+1]?=some (.func (.func r.fn) #[] r.cap):=by
 unfold A5j
 rw[List.getElem?_toArray,List.getElem?_toArray]
 induction rs generalizing j with
 | nil=>simp at h
 | cons q rs ih=>
  cases j with
  | zero=>simp at h;subst h;simp
  | succ j=>
   have h':rs[j]?=some r:=by simpa using h
   have:=ih h'
   rw[List.flatMap_cons]
   rw[show(j+1)*2=(j*2)+2 by omega,show(j*2)+2+1=(j*2+1)+2 by omega]
   simpa using this
theorem B4w {σ:Type}{B B0:Nat}{cs:List Nat}{w:World}{vl:Value}{l:List FI}{rs:List Ru}{g:Nat}(step:Nat→FI→σ→Bool×σ) (Inv:Nat→Nat→σ→World→Prop) (s0 : σ)
  (hl:∀ W,Below B0 w W→RdL 6 FAt W vl l) (hg:w.heap[g]?=some (.cells (A5j rs) 221 (0,0))) (ei:g∉cs) (dl:B0≤B) (dm:B≤w.heap.size) (hcs:∀ c∈cs,B0≤c) (ak:∀ c∈cs,c < B) (eo:rs.length≤100)
  (ag:∀ r∈rs,∀ (args:Array Value) (w:World),(callFunc r.fn args).run Tryz.prog w = .ok (.enter r.fn args) w) (hI:Inv 0 0 s0 w) (aw:∀ k j s W W',B≤W.heap.size→Inv k j s W→Below W.heap.size W W'→Inv k j s W') (bn:∀ k s W,k < l.length→Inv k rs.length s W→Inv (k+1) 0 s W)
  (ac:∀ k j r f s W,l[k]?=some f→rs[j]?=some r→B≤W.heap.size→Fr B cs w W→Inv k j s W→Calls Tryz.prog r.fn (#[fv f]++r.cap) W fun e W'=>e = .returned (.bool (step j f s).1)∧((step j f s).1=false→Inv k (j+1) (step j f s).2 W')∧Fr B cs W W') :
  Calls Tryz.prog 98 #[vl,.slice (some ⟨g,0,none⟩) rs.length rs.length] w fun e w'=>e = .returned (.agg #[.int .i64 (A0k step (rs.map Ru.err) 0 l s0).1,.int .i64 (((A0k step (rs.map Ru.err) 0 l s0).2:Nat):Int)])∧Fr B cs w w':=by
 obtain⟨ao,n,cap,rfl,Hn,eh⟩:=(hl w (Below.refl _ _)).shape
 obtain⟨m,Hm⟩:∃ m,Hid (m=rs.length):=⟨_,rfl⟩
 have hm:m≤100:=by rw[Hm.out];exact eo
 rw[←Hm.out]
 obtain⟨errs,ah⟩:∃ errs,Hid (errs=rs.map Ru.err):=⟨_,rfl⟩
 rw[←ah.out]
 obtain⟨W0,bh⟩:∃ W0,Hid (W0=w.alloc (.cells #[.int .i64 0,.int .i64 0] 50)):=⟨_,rfl⟩
 have hb0:Below w.heap.size w W0:=by rw[bh.out];exact(Below.refl _ _).alloc (Nat.le_refl _) _
 have dz:W0.heap[w.heap.size]?=some (.cells #[.int .i64 0,.int .i64 0] 50 (0,0)):=by rw[bh.out];exact heap_alloc_new _ _
 have hz0:w.heap.size+1≤W0.heap.size:=by rw[bh.out];simp
 have bu:w.heap.size∉cs:=fun e=>by have:=ak _ e;omega
 have cg:Fr B cs w W0:=Fr.of_below hb0
 go_enter Tryz.func98,Tryz.ntmps98
 go_wp2_with fail
 rw[←bh.out]
 go_loopg [11] n (fun gm i wr=>∃ (k:Nat) (s : σ),k+gm=n∧i = .int .i64 k∧Inv k 0 s wr∧Fr B cs W0 wr∧Hid (A0k step errs 0 l s0=A0k step errs k (l.drop k) s))
 case atStart=>exact⟨0,s0,by omega,rfl,aw _ _ _ _ _ dm hI hb0,Fr.refl _ _ _,rfl⟩
 case round=>
  obtain⟨k,s,hk,rfl,dw,bc,HK⟩:=hrel
  obtain⟨wo,di⟩:∃ wo,wo=wr:=⟨_,rfl⟩
  subst di
  have bq:=cg.trans bc
  have bl:=bc.keep dz bu (by decide)
  have ey:w.heap.size+1≤wo.heap.size:=Nat.le_trans hz0 bc.size
  by_cases hlt:k < n
  ·obtain⟨f,Hf⟩:∃ f,Hid (l[k]?=some f):=⟨l[k]'(by rw[←Hn.out];exact hlt),List.getElem?_eq_getElem (by rw[←Hn.out];exact hlt)⟩
   have bw:Hid (A0k step errs 0 l s0=match A0u step 0 errs f s with|(some e,_)=>(e,k)|(none,s')=>A0k step errs (k+1) (l.drop (k+1)) s'):=by show _=_;rw[HK.out,A7w Hf.out]
   obtain⟨b,off,rfl,hat⟩:=(hl wo (bq.below dl (by omega) hcs)).get FAt.plain Hf.out
   obtain⟨t0,t1,t2,t3,t4,t5⟩:=hat.at
   have eu:(k:Int) < (n:Int):=by omega
   obtain⟨W1,bk⟩:∃ W1,Hid (W1=wo.alloc (.cells #[.string (S f.name),.int .i64 f.number,.int .i64 f.kind,.string (S f.type),.bool f.many,.int .i64 f.choice] 40)):=⟨_,rfl⟩
   have hb1:Below wo.heap.size wo W1:=by rw[bk.out];exact(Below.refl _ _).alloc (Nat.le_refl _) _
   have d9:W1.heap[wo.heap.size]?=some (.cells #[.string (S f.name),.int .i64 f.number,.int .i64 f.kind,.string (S f.type),.bool f.many,.int .i64 f.choice] 40 (0,0)):=by rw[bk.out];exact heap_alloc_new _ _
   have hz1:wo.heap.size+1≤W1.heap.size:=by rw[bk.out];simp
   have bp:Fr B cs wo W1:=Fr.of_below hb1
   have ee:wo.heap.size∉cs:=fun e=>by have:=ak _ e;omega
   have dr:=aw _ _ _ _ _ (by omega) dw hb1
   clear hat
   go_wp2_with fail
   rw[←bk.out]
   go_loopg [18] m (fun gm i wi=>∃ (j:Nat) (s' : σ),j+gm=m∧i = .int .i64 j∧Inv k j s' wi∧Fr B cs W1 wi∧Hid (A0u step 0 errs f s=A0u step j (errs.drop j) f s'))
   case atStart=>exact⟨0,s,by omega,rfl,dr,Fr.refl _ _ _,rfl⟩
   case round=>
    clear t0 t1 t2 t3 t4 t5
    obtain⟨j,s',hj,rfl,br,aj,HJ⟩:=hrel
    obtain⟨wi,dh⟩:∃ wi,wi=wr:=⟨_,rfl⟩
    subst dh
    have bg:=bq.trans (bp.trans aj)
    have ew:wo.heap.size+1≤wi.heap.size:=Nat.le_trans hz1 aj.size
    by_cases hjl:j < m
    ·obtain⟨r,Hr⟩:∃ r,Hid (rs[j]?=some r):=⟨rs[j]'(by rw[←Hm.out];exact hjl),List.getElem?_eq_getElem (by rw[←Hm.out];exact hjl)⟩
     have He:Hid (errs[j]?=some r.err):=by show _=_;rw[ah.out,List.getElem?_map,Hr.out];rfl
     have bv:Hid (A0u step 0 errs f s=if (step j f s').1 then(some r.err,(step j f s').2) else A0u step (j+1) (errs.drop (j+1)) f (step j f s').2):=by show _=_;rw[HJ.out,A8c He.out]
     have df:=bg.keep hg ei (by decide)
     obtain⟨ra,rb⟩:=C8y Hr.out
     have g0:=A0a df _ _ ra
     have g1:=A0a df _ _ rb
     have et:(j:Int) < (m:Int):=by omega
     obtain⟨W2,au⟩:∃ W2,Hid (W2=wi.alloc (.cells #[.int .i64 r.err,.func (.func r.fn) #[] r.cap] 221)):=⟨_,rfl⟩
     have hb2:Below wi.heap.size wi W2:=by rw[au.out];exact(Below.refl _ _).alloc (Nat.le_refl _) _
     have cj:W2.heap[wi.heap.size]?=some (.cells #[.int .i64 r.err,.func (.func r.fn) #[] r.cap] 221 (0,0)):=by rw[au.out];exact heap_alloc_new _ _
     have hF2:Fr B cs wi W2:=Fr.of_below hb2
     have dy:wi.heap.size∉cs:=fun e=>by have:=ak _ e;omega
     have cu:=(aj.trans hF2).keep d9 ee (by decide)
     have hc:=ac k j r f s' W2 Hf.out Hr.out (by have:=hb2.size;omega) (bg.trans hF2) (aw _ _ _ _ _ (by omega) br hb2)
     rw[au.out] at hc cu
     obtain⟨x0,x1,x2,x3,x4,x5⟩:=A8g cu
     unfold fv at hc
     have hen:=ag r (List.mem_of_getElem? Hr.out)
     have cw:=(hb2.block w.heap.size (by omega)).trans ((aj.keep ((hb1.block w.heap.size (by omega)).trans bl) bu (by decide)))
     rw[au.out] at cw cj
     have dp:Fr B cs W0 (wi.alloc (.cells #[.int .i64 r.err,.func (.func r.fn) #[] r.cap] 221)):=by rw[←au.out];exact bc.trans (bp.trans (aj.trans hF2))
     have dn:Fr B cs W1 (wi.alloc (.cells #[.int .i64 r.err,.func (.func r.fn) #[] r.cap] 221)):=by rw[←au.out];exact aj.trans hF2
     obtain⟨q,Hq⟩:∃ q,Hid (q=(step j f s').1):=⟨_,rfl⟩
     rw[←Hq.out] at hc
     clear ra rb ac hl aw ag bn
     cases q with
     | true=>
      have HE:Hid (A0k step errs 0 l s0=(r.err,k)):=by show _=_;rw[bw.out,bv.out,←Hq.out];rfl
      go_wp2_with fail
      refine hc.mono ?_
      rintro e w3 ⟨rfl,_,ba⟩
      have dx:=ba.keep cj dy (by decide)
      have bt:=ba.keep cw bu (by decide)
      obtain⟨y0,y1⟩:=A0s dx
      obtain⟨z0,z1⟩:=A0s bt
      have f0:=A0b bt 0
      have f1:=A0b bt 1
      clear hen
      go_wp2
      refine bodyPost_ret (v:=.agg #[.int .i64 r.err,.int .i64 (k:Int)]) (by simp[results,Tryz.results98,go_sem, *]) rfl ?_
      exact⟨by rw[HE.out],(((cg.trans dp).trans ba).setNew 0 _).setNew 1 _⟩
     | false=>
      have dg:Hid (A0u step 0 errs f s=A0u step (j+1) (errs.drop (j+1)) f (step j f s').2):=by show _=_;rw[bv.out,←Hq.out];rfl
      go_wp2_with fail
      refine hc.mono ?_
      rintro e w3 ⟨rfl,dt,ba⟩
      clear hen
      go_wp2_with fail
      go_roundg (m - (j+1))
      case measure=>omega
      case rel=>exact⟨j+1,_,by omega,by go_num,dt trivial,dn.trans ba,dg⟩
    ·have HE:Hid (A0k step errs 0 l s0=A0k step errs (k+1) (l.drop (k+1)) s'):=by
      have e:errs.drop j = []:=List.drop_eq_nil_of_le (by rw[ah.out,List.length_map,←Hm.out];omega)
      show _=_;rw[bw.out,HJ.out,e];rfl
     have dv:Inv (k+1) 0 s' wi:=by
      have ej:j=rs.length:=by rw[←Hm.out];omega
      rw[ej] at br
      exact bn k s' wi (by rw[←Hn.out];exact hlt) br
     clear ac hl aw ag bn
     go_wp2_with fail
     go_roundg (n - (k+1))
     case measure=>omega
     case rel=>exact⟨k+1,s',by omega,by go_num,dv,bc.trans (bp.trans aj),HE⟩
  ·have HE:Hid (A0k step errs 0 l s0=(0,0)):=by
    have e:l.drop k = []:=List.drop_eq_nil_of_le (by rw[←Hn.out];omega)
    show _=_;rw[HK.out,e];rfl
   obtain⟨z0,z1⟩:=A0s bl
   have f0:=A0b bl 0
   have f1:=A0b bl 1
   clear ac hl aw ag bn
   go_wp2
   refine bodyPost_ret (v:=.agg #[.int .i64 0,.int .i64 0]) (by simp[results,Tryz.results98,go_sem, *]) rfl ?_
   exact⟨by rw[HE.out];rfl,(bq.setNew 0 _).setNew 1 _⟩
def iv (i:II):Value:=.agg #[.string (S i.name),.int .i64 i.value]
theorem B4x {σ:Type}{B B0:Nat}{cs:List Nat}{w:World}{vl:Value}{l:List II}{rs:List Ru}{g:Nat}(step:Nat→II→σ→Bool×σ) (Inv:Nat→Nat→σ→World→Prop) (s0 : σ)
  (hl:∀ W,Below B0 w W→RdL 2 TAt W vl l) (hg:w.heap[g]?=some (.cells (A5j rs) 227 (0,0))) (ei:g∉cs) (dl:B0≤B) (dm:B≤w.heap.size) (hcs:∀ c∈cs,B0≤c) (ak:∀ c∈cs,c < B) (eo:rs.length≤100)
  (ag:∀ r∈rs,∀ (args:Array Value) (w:World),(callFunc r.fn args).run Tryz.prog w = .ok (.enter r.fn args) w) (hI:Inv 0 0 s0 w) (aw:∀ k j s W W',B≤W.heap.size→Inv k j s W→Below W.heap.size W W'→Inv k j s W') (bn:∀ k s W,k < l.length→Inv k rs.length s W→Inv (k+1) 0 s W)
  (ac:∀ k j r f s W,l[k]?=some f→rs[j]?=some r→B≤W.heap.size→Fr B cs w W→Inv k j s W→Calls Tryz.prog r.fn (#[iv f]++r.cap) W fun e W'=>e = .returned (.bool (step j f s).1)∧((step j f s).1=false→Inv k (j+1) (step j f s).2 W')∧Fr B cs W W') :
  Calls Tryz.prog 100 #[vl,.slice (some ⟨g,0,none⟩) rs.length rs.length] w fun e w'=>e = .returned (.agg #[.int .i64 (A0k step (rs.map Ru.err) 0 l s0).1,.int .i64 (((A0k step (rs.map Ru.err) 0 l s0).2:Nat):Int)])∧Fr B cs w w':=by
 obtain⟨ao,n,cap,rfl,Hn,eh⟩:=(hl w (Below.refl _ _)).shape
 obtain⟨m,Hm⟩:∃ m,Hid (m=rs.length):=⟨_,rfl⟩
 have hm:m≤100:=by rw[Hm.out];exact eo
 rw[←Hm.out]
 obtain⟨errs,ah⟩:∃ errs,Hid (errs=rs.map Ru.err):=⟨_,rfl⟩
 rw[←ah.out]
 obtain⟨W0,bh⟩:∃ W0,Hid (W0=w.alloc (.cells #[.int .i64 0,.int .i64 0] 50)):=⟨_,rfl⟩
 have hb0:Below w.heap.size w W0:=by rw[bh.out];exact(Below.refl _ _).alloc (Nat.le_refl _) _
 have dz:W0.heap[w.heap.size]?=some (.cells #[.int .i64 0,.int .i64 0] 50 (0,0)):=by rw[bh.out];exact heap_alloc_new _ _
 have hz0:w.heap.size+1≤W0.heap.size:=by rw[bh.out];simp
 have bu:w.heap.size∉cs:=fun e=>by have:=ak _ e;omega
 have cg:Fr B cs w W0:=Fr.of_below hb0
 go_enter Tryz.func100,Tryz.ntmps100
 go_wp2_with fail
 rw[←bh.out]
 go_loopg [11] n (fun gm i wr=>∃ (k:Nat) (s : σ),k+gm=n∧i = .int .i64 k∧Inv k 0 s wr∧Fr B cs W0 wr∧Hid (A0k step errs 0 l s0=A0k step errs k (l.drop k) s))
 case atStart=>exact⟨0,s0,by omega,rfl,aw _ _ _ _ _ dm hI hb0,Fr.refl _ _ _,rfl⟩
 case round=>
  obtain⟨k,s,hk,rfl,dw,bc,HK⟩:=hrel
  obtain⟨wo,di⟩:∃ wo,wo=wr:=⟨_,rfl⟩
  subst di
  have bq:=cg.trans bc
  have bl:=bc.keep dz bu (by decide)
  have ey:w.heap.size+1≤wo.heap.size:=Nat.le_trans hz0 bc.size
  by_cases hlt:k < n
  ·obtain⟨f,Hf⟩:∃ f,Hid (l[k]?=some f):=⟨l[k]'(by rw[←Hn.out];exact hlt),List.getElem?_eq_getElem (by rw[←Hn.out];exact hlt)⟩
   have bw:Hid (A0k step errs 0 l s0=match A0u step 0 errs f s with|(some e,_)=>(e,k)|(none,s')=>A0k step errs (k+1) (l.drop (k+1)) s'):=by show _=_;rw[HK.out,A7w Hf.out]
   obtain⟨b,off,rfl,hat⟩:=(hl wo (bq.below dl (by omega) hcs)).get TAt.plain Hf.out
   obtain⟨t0,t1⟩:=hat.at
   have eu:(k:Int) < (n:Int):=by omega
   obtain⟨W1,bk⟩:∃ W1,Hid (W1=wo.alloc (.cells #[.string (S f.name),.int .i64 f.value] 162)):=⟨_,rfl⟩
   have hb1:Below wo.heap.size wo W1:=by rw[bk.out];exact(Below.refl _ _).alloc (Nat.le_refl _) _
   have d9:W1.heap[wo.heap.size]?=some (.cells #[.string (S f.name),.int .i64 f.value] 162 (0,0)):=by rw[bk.out];exact heap_alloc_new _ _
   have hz1:wo.heap.size+1≤W1.heap.size:=by rw[bk.out];simp
   have bp:Fr B cs wo W1:=Fr.of_below hb1
   have ee:wo.heap.size∉cs:=fun e=>by have:=ak _ e;omega
   have dr:=aw _ _ _ _ _ (by omega) dw hb1
   clear hat
   go_wp2_with fail
   rw[←bk.out]
   go_loopg [18] m (fun gm i wi=>∃ (j:Nat) (s' : σ),j+gm=m∧i = .int .i64 j∧Inv k j s' wi∧Fr B cs W1 wi∧Hid (A0u step 0 errs f s=A0u step j (errs.drop j) f s'))
   case atStart=>exact⟨0,s,by omega,rfl,dr,Fr.refl _ _ _,rfl⟩
   case round=>
    clear t0 t1
    obtain⟨j,s',hj,rfl,br,aj,HJ⟩:=hrel
    obtain⟨wi,dh⟩:∃ wi,wi=wr:=⟨_,rfl⟩
    subst dh
    have bg:=bq.trans (bp.trans aj)
    have ew:wo.heap.size+1≤wi.heap.size:=Nat.le_trans hz1 aj.size
    by_cases hjl:j < m
    ·obtain⟨r,Hr⟩:∃ r,Hid (rs[j]?=some r):=⟨rs[j]'(by rw[←Hm.out];exact hjl),List.getElem?_eq_getElem (by rw[←Hm.out];exact hjl)⟩
     have He:Hid (errs[j]?=some r.err):=by show _=_;rw[ah.out,List.getElem?_map,Hr.out];rfl
     have bv:Hid (A0u step 0 errs f s=if (step j f s').1 then(some r.err,(step j f s').2) else A0u step (j+1) (errs.drop (j+1)) f (step j f s').2):=by show _=_;rw[HJ.out,A8c He.out]
     have df:=bg.keep hg ei (by decide)
     obtain⟨ra,rb⟩:=C8y Hr.out
     have g0:=A0a df _ _ ra
     have g1:=A0a df _ _ rb
     have et:(j:Int) < (m:Int):=by omega
     obtain⟨W2,au⟩:∃ W2,Hid (W2=wi.alloc (.cells #[.int .i64 r.err,.func (.func r.fn) #[] r.cap] 227)):=⟨_,rfl⟩
     have hb2:Below wi.heap.size wi W2:=by rw[au.out];exact(Below.refl _ _).alloc (Nat.le_refl _) _
     have cj:W2.heap[wi.heap.size]?=some (.cells #[.int .i64 r.err,.func (.func r.fn) #[] r.cap] 227 (0,0)):=by rw[au.out];exact heap_alloc_new _ _
     have hF2:Fr B cs wi W2:=Fr.of_below hb2
     have dy:wi.heap.size∉cs:=fun e=>by have:=ak _ e;omega
     have cu:=(aj.trans hF2).keep d9 ee (by decide)
     have hc:=ac k j r f s' W2 Hf.out Hr.out (by have:=hb2.size;omega) (bg.trans hF2) (aw _ _ _ _ _ (by omega) br hb2)
     rw[au.out] at hc cu
     obtain⟨x0,x1⟩:=A0s cu
     unfold iv at hc
     have hen:=ag r (List.mem_of_getElem? Hr.out)
     have cw:=(hb2.block w.heap.size (by omega)).trans ((aj.keep ((hb1.block w.heap.size (by omega)).trans bl) bu (by decide)))
     rw[au.out] at cw cj
     have dp:Fr B cs W0 (wi.alloc (.cells #[.int .i64 r.err,.func (.func r.fn) #[] r.cap] 227)):=by rw[←au.out];exact bc.trans (bp.trans (aj.trans hF2))
     have dn:Fr B cs W1 (wi.alloc (.cells #[.int .i64 r.err,.func (.func r.fn) #[] r.cap] 227)):=by rw[←au.out];exact aj.trans hF2
     obtain⟨q,Hq⟩:∃ q,Hid (q=(step j f s').1):=⟨_,rfl⟩
     rw[←Hq.out] at hc
     clear ra rb ac hl aw ag bn
     cases q with
     | true=>
      have HE:Hid (A0k step errs 0 l s0=(r.err,k)):=by show _=_;rw[bw.out,bv.out,←Hq.out];rfl
      go_wp2_with fail
      refine hc.mono ?_
      rintro e w3 ⟨rfl,_,ba⟩
      have dx:=ba.keep cj dy (by decide)
      have bt:=ba.keep cw bu (by decide)
      obtain⟨y0,y1⟩:=A0s dx
      obtain⟨z0,z1⟩:=A0s bt
      have f0:=A0b bt 0
      have f1:=A0b bt 1
      clear hen
      go_wp2
      refine bodyPost_ret (v:=.agg #[.int .i64 r.err,.int .i64 (k:Int)]) (by simp[results,Tryz.results100,go_sem, *]) rfl ?_
      exact⟨by rw[HE.out],(((cg.trans dp).trans ba).setNew 0 _).setNew 1 _⟩
     | false=>
      have dg:Hid (A0u step 0 errs f s=A0u step (j+1) (errs.drop (j+1)) f (step j f s').2):=by show _=_;rw[bv.out,←Hq.out];rfl
      go_wp2_with fail
      refine hc.mono ?_
      rintro e w3 ⟨rfl,dt,ba⟩
      clear hen
      go_wp2_with fail
      go_roundg (m - (j+1))
      case measure=>omega
      case rel=>exact⟨j+1,_,by omega,by go_num,dt trivial,dn.trans ba,dg⟩
    ·have HE:Hid (A0k step errs 0 l s0=A0k step errs (k+1) (l.drop (k+1)) s'):=by
      have e:errs.drop j = []:=List.drop_eq_nil_of_le (by rw[ah.out,List.length_map,←Hm.out];omega)
      show _=_;rw[bw.out,HJ.out,e];rfl
     have dv:Inv (k+1) 0 s' wi:=by
      have ej:j=rs.length:=by rw[←Hm.out];omega
      rw[ej] at br
      exact bn k s' wi (by rw[←Hn.out];exact hlt) br
     clear ac hl aw ag bn
     go_wp2_with fail
     go_roundg (n - (k+1))
     case measure=>omega
     case rel=>exact⟨k+1,s',by omega,by go_num,dv,bc.trans (bp.trans aj),HE⟩
  ·have HE:Hid (A0k step errs 0 l s0=(0,0)):=by
    have e:l.drop k = []:=List.drop_eq_nil_of_le (by rw[←Hn.out];omega)
    show _=_;rw[HK.out,e];rfl
   obtain⟨z0,z1⟩:=A0s bl
   have f0:=A0b bl 0
   have f1:=A0b bl 1
   clear ac hl aw ag bn
   go_wp2
   refine bodyPost_ret (v:=.agg #[.int .i64 0,.int .i64 0]) (by simp[results,Tryz.results100,go_sem, *]) rfl ?_
   exact⟨by rw[HE.out];rfl,(bq.setNew 0 _).setNew 1 _⟩
theorem B4y {σ:Type}{B B0:Nat}{cs:List Nat}{w:World}{vl:Value}{l:List (List UInt8)}{rs:List Ru}{g:Nat}(step:Nat→List UInt8→σ→Bool×σ) (Inv:Nat→Nat→σ→World→Prop) (s0 : σ)
  (hl:∀ W,Below B0 w W→RdL 1 SAt W vl l) (hg:w.heap[g]?=some (.cells (A5j rs) 154 (0,0))) (dx:g∉cs) (dg:B0≤B) (dh:B≤w.heap.size) (hcs:∀ c∈cs,B0≤c) (bg:∀ c∈cs,c < B) (dz:rs.length≤100)
  (ag:∀ r∈rs,∀ (args:Array Value) (w:World),(callFunc r.fn args).run Tryz.prog w = .ok (.enter r.fn args) w) (hI:Inv 0 0 s0 w) (bc:∀ k j s W W',B≤W.heap.size→Inv k j s W→Below W.heap.size W W'→Inv k j s W') (bl:∀ k s W,k < l.length→Inv k rs.length s W→Inv (k+1) 0 s W)
  (ac:∀ k j r f s W,l[k]?=some f→rs[j]?=some r→B≤W.heap.size→Fr B cs w W→Inv k j s W→Calls Tryz.prog r.fn (#[.string (S f)]++r.cap) W fun e W'=>e = .returned (.bool (step j f s).1)∧((step j f s).1=false→Inv k (j+1) (step j f s).2 W')∧Fr B cs W W') :
  Calls Tryz.prog 40 #[vl,.slice (some ⟨g,0,none⟩) rs.length rs.length] w fun e w'=>e = .returned (.agg #[.int .i64 (A0k step (rs.map Ru.err) 0 l s0).1,.int .i64 (((A0k step (rs.map Ru.err) 0 l s0).2:Nat):Int)])∧Fr B cs w w':=by
 obtain⟨ao,n,cap,rfl,Hn,dw⟩:=(hl w (Below.refl _ _)).shape
 obtain⟨m,Hm⟩:∃ m,Hid (m=rs.length):=⟨_,rfl⟩
 have hm:m≤100:=by rw[Hm.out];exact dz
 rw[←Hm.out]
 obtain⟨errs,ah⟩:∃ errs,Hid (errs=rs.map Ru.err):=⟨_,rfl⟩
 rw[←ah.out]
 obtain⟨W0,bh⟩:∃ W0,Hid (W0=w.alloc (.cells #[.int .i64 0,.int .i64 0] 50)):=⟨_,rfl⟩
 have hb0:Below w.heap.size w W0:=by rw[bh.out];exact(Below.refl _ _).alloc (Nat.le_refl _) _
 have dv:W0.heap[w.heap.size]?=some (.cells #[.int .i64 0,.int .i64 0] 50 (0,0)):=by rw[bh.out];exact heap_alloc_new _ _
 have hz0:w.heap.size+1≤W0.heap.size:=by rw[bh.out];simp
 have br:w.heap.size∉cs:=fun e=>by have:=bg _ e;omega
 have bv:Fr B cs w W0:=Fr.of_below hb0
 go_enter Tryz.func40,Tryz.ntmps40
 go_wp2_with fail
 rw[←bh.out]
 go_loopg [11] n (fun gm i wr=>∃ (k:Nat) (s : σ),k+gm=n∧i = .int .i64 k∧Inv k 0 s wr∧Fr B cs W0 wr∧Hid (A0k step errs 0 l s0=A0k step errs k (l.drop k) s))
 case atStart=>exact⟨0,s0,by omega,rfl,bc _ _ _ _ _ dh hI hb0,Fr.refl _ _ _,rfl⟩
 case round=>
  obtain⟨k,s,hk,rfl,dp,aw,HK⟩:=hrel
  obtain⟨wo,df⟩:∃ wo,wo=wr:=⟨_,rfl⟩
  subst df
  have bn:=bv.trans aw
  have bk:=aw.keep dv br (by decide)
  have ei:w.heap.size+1≤wo.heap.size:=Nat.le_trans hz0 aw.size
  by_cases hlt:k < n
  ·obtain⟨f,Hf⟩:∃ f,Hid (l[k]?=some f):=⟨l[k]'(by rw[←Hn.out];exact hlt),List.getElem?_eq_getElem (by rw[←Hn.out];exact hlt)⟩
   have bu:Hid (A0k step errs 0 l s0=match A0u step 0 errs f s with|(some e,_)=>(e,k)|(none,s')=>A0k step errs (k+1) (l.drop (k+1)) s'):=by show _=_;rw[HK.out,A7w Hf.out]
   obtain⟨b,off,rfl,hat⟩:=(hl wo (bn.below dg (by omega) hcs)).get SAt.plain Hf.out
   have hat:wo.cell? ⟨b,off+k*1,none⟩=some (.string (S f)):=hat
   rw[Nat.mul_one] at hat
   have ee:(k:Int) < (n:Int):=by omega
   go_wp2_with fail
   go_loopg [18] m (fun gm i wi=>∃ (j:Nat) (s' : σ),j+gm=m∧i = .int .i64 j∧Inv k j s' wi∧Fr B cs wo wi∧Hid (A0u step 0 errs f s=A0u step j (errs.drop j) f s'))
   case atStart=>exact⟨0,s,by omega,rfl,dp,Fr.refl _ _ _,rfl⟩
   case round=>
    clear hat
    obtain⟨j,s',hj,rfl,bp,ak,HJ⟩:=hrel
    obtain⟨wi,cw⟩:∃ wi,wi=wr:=⟨_,rfl⟩
    subst cw
    have ba:=bn.trans ak
    have eh:wo.heap.size≤wi.heap.size:=ak.size
    by_cases hjl:j < m
    ·obtain⟨r,Hr⟩:∃ r,Hid (rs[j]?=some r):=⟨rs[j]'(by rw[←Hm.out];exact hjl),List.getElem?_eq_getElem (by rw[←Hm.out];exact hjl)⟩
     have He:Hid (errs[j]?=some r.err):=by show _=_;rw[ah.out,List.getElem?_map,Hr.out];rfl
     have bt:Hid (A0u step 0 errs f s=if (step j f s').1 then(some r.err,(step j f s').2) else A0u step (j+1) (errs.drop (j+1)) f (step j f s').2):=by show _=_;rw[HJ.out,A8c He.out]
     have cj:=ba.keep hg dx (by decide)
     obtain⟨ra,rb⟩:=C8y Hr.out
     have g0:=A0a cj _ _ ra
     have g1:=A0a cj _ _ rb
     have d9:(j:Int) < (m:Int):=by omega
     obtain⟨W2,aj⟩:∃ W2,Hid (W2=wi.alloc (.cells #[.int .i64 r.err,.func (.func r.fn) #[] r.cap] 154)):=⟨_,rfl⟩
     have hb2:Below wi.heap.size wi W2:=by rw[aj.out];exact(Below.refl _ _).alloc (Nat.le_refl _) _
     have bw:W2.heap[wi.heap.size]?=some (.cells #[.int .i64 r.err,.func (.func r.fn) #[] r.cap] 154 (0,0)):=by rw[aj.out];exact heap_alloc_new _ _
     have hF2:Fr B cs wi W2:=Fr.of_below hb2
     have dt:wi.heap.size∉cs:=fun e=>by have:=bg _ e;omega
     have hc:=ac k j r f s' W2 Hf.out Hr.out (by have:=hb2.size;omega) (ba.trans hF2) (bc _ _ _ _ _ (by omega) bp hb2)
     rw[aj.out] at hc
     have hen:=ag r (List.mem_of_getElem? Hr.out)
     have cg:=(hb2.block w.heap.size (by omega)).trans ((ak.keep bk br (by decide)))
     rw[aj.out] at cg bw
     have dl:Fr B cs W0 (wi.alloc (.cells #[.int .i64 r.err,.func (.func r.fn) #[] r.cap] 154)):=by rw[←aj.out];exact aw.trans (ak.trans hF2)
     have di:Fr B cs wo (wi.alloc (.cells #[.int .i64 r.err,.func (.func r.fn) #[] r.cap] 154)):=by rw[←aj.out];exact ak.trans hF2
     obtain⟨q,Hq⟩:∃ q,Hid (q=(step j f s').1):=⟨_,rfl⟩
     rw[←Hq.out] at hc
     clear ra rb ac hl bc ag bl
     cases q with
     | true=>
      have HE:Hid (A0k step errs 0 l s0=(r.err,k)):=by show _=_;rw[bu.out,bt.out,←Hq.out];rfl
      go_wp2_with fail
      refine hc.mono ?_
      rintro e w3 ⟨rfl,_,au⟩
      have dr:=au.keep bw dt (by decide)
      have bq:=au.keep cg br (by decide)
      obtain⟨y0,y1⟩:=A0s dr
      obtain⟨z0,z1⟩:=A0s bq
      have f0:=A0b bq 0
      have f1:=A0b bq 1
      clear hen
      go_wp2
      refine bodyPost_ret (v:=.agg #[.int .i64 r.err,.int .i64 (k:Int)]) (by simp[results,Tryz.results40,go_sem, *]) rfl ?_
      exact⟨by rw[HE.out],(((bv.trans dl).trans au).setNew 0 _).setNew 1 _⟩
     | false=>
      have cu:Hid (A0u step 0 errs f s=A0u step (j+1) (errs.drop (j+1)) f (step j f s').2):=by show _=_;rw[bt.out,←Hq.out];rfl
      go_wp2_with fail
      refine hc.mono ?_
      rintro e w3 ⟨rfl,dm,au⟩
      clear hen
      go_wp2_with fail
      go_roundg (m - (j+1))
      case measure=>omega
      case rel=>exact⟨j+1,_,by omega,by go_num,dm trivial,di.trans au,cu⟩
    ·have HE:Hid (A0k step errs 0 l s0=A0k step errs (k+1) (l.drop (k+1)) s'):=by
      have e:errs.drop j = []:=List.drop_eq_nil_of_le (by rw[ah.out,List.length_map,←Hm.out];omega)
      show _=_;rw[bu.out,HJ.out,e];rfl
     have dn:Inv (k+1) 0 s' wi:=by
      have dy:j=rs.length:=by rw[←Hm.out];omega
      rw[dy] at bp
      exact bl k s' wi (by rw[←Hn.out];exact hlt) bp
     clear ac hl bc ag bl
     go_wp2_with fail
     go_roundg (n - (k+1))
     case measure=>omega
     case rel=>exact⟨k+1,s',by omega,by go_num,dn,aw.trans ak,HE⟩
  ·have HE:Hid (A0k step errs 0 l s0=(0,0)):=by
    have e:l.drop k = []:=List.drop_eq_nil_of_le (by rw[←Hn.out];omega)
    show _=_;rw[HK.out,e];rfl
   obtain⟨z0,z1⟩:=A0s bk
   have f0:=A0b bk 0
   have f1:=A0b bk 1
   clear ac hl bc ag bl
   go_wp2
   refine bodyPost_ret (v:=.agg #[.int .i64 0,.int .i64 0]) (by simp[results,Tryz.results40,go_sem, *]) rfl ?_
   exact⟨by rw[HE.out];rfl,(bn.setNew 0 _).setNew 1 _⟩
end L
end Go.Proofs.YtgaoojpakjjdnaaGreatDoor
