import Derived.Test.YtgaoojpakjjdnaaGreatDoorV01
import Derived.Laws.EntriesVeiled
import Derived.Shelf.Abstract
set_option maxHeartbeats 32000000
set_option maxRecDepth 100000
namespace Go.Proofs.YtgaoojpakjjdnaaGreatDoor
namespace L
open Go.RowKit
structure Fr (B:Nat) (cs:List Nat) (w w':World):Prop where
 os:w'.os=w.os
 tape:w'.tape=w.tape
 output:w'.output=w.output
 size:w.heap.size≤w'.heap.size
 block:∀ k,k<w.heap.size→k∉cs→(k<B∨∀ xs fr,w.heap[k]?≠some (.cells xs 9 fr)∧w.heap[k]?≠some (.cells xs 3 fr))→w'.heap[k]?=w.heap[k]?
theorem Fr.refl (B:Nat)(cs:List Nat)(w:World):Fr B cs w w:=⟨rfl,rfl,rfl,Nat.le_refl _,fun _ _ _ _=>rfl⟩
theorem Fr.trans {B:Nat}{cs:List Nat}{a b c:World}(h:Fr B cs a b)(k:Fr B cs b c):Fr B cs a c:=
 ⟨k.os.trans h.os,k.tape.trans h.tape,k.output.trans h.output,Nat.le_trans h.size k.size,fun i hi hc hk=>by
  have e:=h.block i hi hc hk
  rw[k.block i (Nat.lt_of_lt_of_le hi h.size) hc ?_,e]
  rcases hk with hk|hk
  ·exact .inl hk
  ·right;intro xs fr;rw[e];exact hk xs fr⟩
theorem Fr.of_below {B:Nat}{cs:List Nat}{w w':World}(h:Below w.heap.size w w'):Fr B cs w w':=⟨h.os,h.tape,h.output,h.size,fun k hk _ _=>h.block k hk⟩
theorem Fr.below {B B0:Nat}{cs:List Nat}{w w':World}(h:Fr B cs w w')(hB:B0≤B)(hw:B0≤w.heap.size)(hc:∀ c∈cs,B0≤c):Below B0 w w':=
 ⟨h.os,h.tape,h.output,h.size,fun k hk=>h.block k (by omega) (fun e=>by have:=hc k e;omega) (.inl (by omega))⟩
theorem Fr.setNew {B:Nat}{cs:List Nat}{w x:World}(h:Fr B cs w x)(i:Nat)(v:Value):Fr B cs w (x.setCell ⟨w.heap.size,i,none⟩ v):=
 ⟨h.os,h.tape,h.output,by simpa using h.size,fun k hk hc hq=>(Below.heap_setCell x ⟨w.heap.size,i,none⟩ v k (show k≠w.heap.size by omega)).trans (h.block k hk hc hq)⟩
def A1e {α σ:Type}(step:Nat→α→σ→Bool×σ):Nat→List Int→α→σ→Option Int×σ
 | _,[],_,s=>(none,s)
 | j,e::r,x,s=>if (step j x s).1 then(some e,(step j x s).2) else A1e step (j+1) r x (step j x s).2
def A0i {α σ:Type}(step:Nat→α→σ→Bool×σ)(errs:List Int):Nat→List α→σ→Int×Nat
 | _,[],_=>(0,0)
 | i,x::l,s=>match A1e step 0 errs x s with
  | (some e,_)=>(e,i)
  | (none,s')=>A0i step errs (i+1) l s'
def fv (f:FI):Value:=.agg #[.string (S f.name),.int .i64 f.number,.int .i64 f.kind,.string (S f.type),.bool f.many,.int .i64 f.choice]
structure Ru where
 err:Int
 fn:Nat
 cap:Array Value
def A7g (rs:List Ru):Array Value:=(rs.flatMap fun r=>[.int .i64 r.err,.func (.func r.fn) #[] r.cap]).toArray
theorem B0v {α σ:Type}{step:Nat→α→σ→Bool×σ}{errs:List Int}{j:Nat}{e:Int}(he:errs[j]?=some e)(x : α)(s : σ):A1e step j (errs.drop j) x s=if (step j x s).1 then(some e,(step j x s).2) else A1e step (j+1) (errs.drop (j+1)) x (step j x s).2:=by
 obtain⟨hk,e1⟩:=List.getElem?_eq_some_iff.1 he
 rw[List.drop_eq_getElem_cons hk,e1,A1e]
theorem B0k {α σ:Type}{step:Nat→α→σ→Bool×σ}{errs:List Int}{l:List α}{k:Nat}{a : α}(ha:l[k]?=some a)(s : σ):A0i step errs k (l.drop k) s=match A1e step 0 errs a s with|(some e,_)=>(e,k)|(none,s')=>A0i step errs (k+1) (l.drop (k+1)) s':=by
 obtain⟨hk,e1⟩:=List.getElem?_eq_some_iff.1 ha
 rw[List.drop_eq_getElem_cons hk,e1,A0i]
theorem Fr.keep {B:Nat}{cs:List Nat}{w w':World}(h:Fr B cs w w'){k:Nat}{xs:Array Value}{t:TypeId}{fr:Nat×Nat}(hk:w.heap[k]?=some (.cells xs t fr))(hc:k∉cs)(ht:t≠9∧t≠3):w'.heap[k]?=some (.cells xs t fr):=by
 rw[h.block k (Array.getElem?_eq_some_iff.1 hk).1 hc ?_]
 ·exact hk
 ·right
  intro ys f
  rw[hk]
  simp
  exact⟨fun _ e=>absurd e ht.1,fun _ e=>absurd e ht.2⟩
theorem D6n {rs:List Ru}{j:Nat}{r:Ru}(h:rs[j]?=some r):(A7g rs)[j*2]?=some (.int .i64 r.err)∧(A7g rs)[j*2+1]?=some (.func (.func r.fn) #[] r.cap):=by
 unfold A7g
 rw[List.getElem?_toArray,List.getElem?_toArray]
 induction rs generalizing j with
 | nil=>simp at h
 | cons q rs ih=>
  cases j with
  | zero=>simp at h;subst h;simp
  | succ j=>
   have h':rs[j]?=some r:=by simpa using h
   have:=ih h'
   rw[List.flatMap_cons]
   rw[show(j+1)*2=(j*2)+2 by omega,show(j*2)+2+1=(j*2+1)+2 by omega]
   simpa using this
theorem B9v {σ:Type}{B B0:Nat}{cs:List Nat}{w:World}{vl:Value}{l:List FI}{rs:List Ru}{g:Nat}(step:Nat→FI→σ→Bool×σ)(Inv:Nat→Nat→σ→World→Prop)(s0 : σ)
  (hl:∀ W,Below B0 w W→RdL 6 FAt W vl l) (hg:w.heap[g]?=some (.cells (A7g rs) 221 (0,0))) (ej:g∉cs) (dm:B0≤B) (dn:B≤w.heap.size) (hcs:∀ c∈cs,B0≤c) (ak:∀ c∈cs,c<B) (et:rs.length≤100)
  (ag:∀ r∈rs,∀ (args:Array Value) (w:World),(callFunc r.fn args).run Tryz.prog w = .ok (.enter r.fn args) w) (hI:Inv 0 0 s0 w) (aw:∀ k j s W W',B≤W.heap.size→Inv k j s W→Below W.heap.size W W'→Inv k j s W') (bp:∀ k s W,k<l.length→Inv k rs.length s W→Inv (k+1) 0 s W)
  (ac:∀ k j r f s W,l[k]?=some f→rs[j]?=some r→B≤W.heap.size→Fr B cs w W→Inv k j s W→Calls Tryz.prog r.fn (#[fv f]++r.cap) W fun e W'=>e = .returned (.bool (step j f s).1)∧((step j f s).1=false→Inv k (j+1) (step j f s).2 W')∧Fr B cs W W') :
  Calls Tryz.prog 98 #[vl,.slice (some ⟨g,0,none⟩) rs.length rs.length] w fun e w'=>e = .returned (.agg #[.int .i64 (A0i step (rs.map Ru.err) 0 l s0).1,.int .i64 (((A0i step (rs.map Ru.err) 0 l s0).2:Nat):Int)])∧Fr B cs w w':=by
 obtain⟨ao,n,cap,rfl,Hn,ei⟩:=(hl w (Below.refl _ _)).shape
 obtain⟨m,Hm⟩:∃ m,Hid (m=rs.length):=⟨_,rfl⟩
 have hm:m≤100:=by rw[Hm.out];exact et
 rw[←Hm.out]
 obtain⟨errs,ah⟩:∃ errs,Hid (errs=rs.map Ru.err):=⟨_,rfl⟩
 rw[←ah.out]
 obtain⟨W0,bh⟩:∃ W0,Hid (W0=w.alloc (.cells #[.int .i64 0,.int .i64 0] 50)):=⟨_,rfl⟩
 have hb0:Below w.heap.size w W0:=by rw[bh.out];exact(Below.refl _ _).alloc (Nat.le_refl _) _
 have d9:W0.heap[w.heap.size]?=some (.cells #[.int .i64 0,.int .i64 0] 50 (0,0)):=by rw[bh.out];exact heap_alloc_new _ _
 have hz0:w.heap.size+1≤W0.heap.size:=by rw[bh.out];simp
 have bv:w.heap.size∉cs:=fun e=>by have:=ak _ e;omega
 have cj:Fr B cs w W0:=Fr.of_below hb0
 go_enter Tryz.func98,Tryz.ntmps98
 go_wp2_with fail
 rw[←bh.out]
 go_loopg [11] n (fun gm i wr=>∃ (k:Nat) (s : σ),k+gm=n∧i = .int .i64 k∧Inv k 0 s wr∧Fr B cs W0 wr∧Hid (A0i step errs 0 l s0=A0i step errs k (l.drop k) s))
 case atStart=>exact⟨0,s0,by omega,rfl,aw _ _ _ _ _ dn hI hb0,Fr.refl _ _ _,rfl⟩
 case round=>
  obtain⟨k,s,hk,rfl,dx,bc,HK⟩:=hrel
  obtain⟨wo,dl⟩:∃ wo,wo=wr:=⟨_,rfl⟩
  subst dl
  have br:=cj.trans bc
  have bn:=bc.keep d9 bv (by decide)
  have fd:w.heap.size+1≤wo.heap.size:=Nat.le_trans hz0 bc.size
  by_cases hlt:k<n
  ·obtain⟨f,Hf⟩:∃ f,Hid (l[k]?=some f):=⟨l[k]'(by rw[←Hn.out];exact hlt),List.getElem?_eq_getElem (by rw[←Hn.out];exact hlt)⟩
   have cg:Hid (A0i step errs 0 l s0=match A1e step 0 errs f s with|(some e,_)=>(e,k)|(none,s')=>A0i step errs (k+1) (l.drop (k+1)) s'):=by show _=_;rw[HK.out,B0k Hf.out]
   obtain⟨b,off,rfl,hat⟩:=(hl wo (br.below dm (by omega) hcs)).get FAt.plain Hf.out
   obtain⟨t0,t1,t2,t3,t4,t5⟩:=hat.at
   have ew:(k:Int)<(n:Int):=by omega
   obtain⟨W1,bk⟩:∃ W1,Hid (W1=wo.alloc (.cells #[.string (S f.name),.int .i64 f.number,.int .i64 f.kind,.string (S f.type),.bool f.many,.int .i64 f.choice] 40)):=⟨_,rfl⟩
   have hb1:Below wo.heap.size wo W1:=by rw[bk.out];exact(Below.refl _ _).alloc (Nat.le_refl _) _
   have ee:W1.heap[wo.heap.size]?=some (.cells #[.string (S f.name),.int .i64 f.number,.int .i64 f.kind,.string (S f.type),.bool f.many,.int .i64 f.choice] 40 (0,0)):=by rw[bk.out];exact heap_alloc_new _ _
   have hz1:wo.heap.size+1≤W1.heap.size:=by rw[bk.out];simp
   have bq:Fr B cs wo W1:=Fr.of_below hb1
   have eh:wo.heap.size∉cs:=fun e=>by have:=ak _ e;omega
   have dt:=aw _ _ _ _ _ (by omega) dx hb1
   clear hat
   go_wp2_with fail
   rw[←bk.out]
   go_loopg [18] m (fun gm i wi=>∃ (j:Nat) (s' : σ),j+gm=m∧i = .int .i64 j∧Inv k j s' wi∧Fr B cs W1 wi∧Hid (A1e step 0 errs f s=A1e step j (errs.drop j) f s'))
   case atStart=>exact⟨0,s,by omega,rfl,dt,Fr.refl _ _ _,rfl⟩
   case round=>
    clear t0 t1 t2 t3 t4 t5
    obtain⟨j,s',hj,rfl,bt,aj,HJ⟩:=hrel
    obtain⟨wi,di⟩:∃ wi,wi=wr:=⟨_,rfl⟩
    subst di
    have bg:=br.trans (bq.trans aj)
    have fc:wo.heap.size+1≤wi.heap.size:=Nat.le_trans hz1 aj.size
    by_cases hjl:j<m
    ·obtain⟨r,Hr⟩:∃ r,Hid (rs[j]?=some r):=⟨rs[j]'(by rw[←Hm.out];exact hjl),List.getElem?_eq_getElem (by rw[←Hm.out];exact hjl)⟩
     have He:Hid (errs[j]?=some r.err):=by show _=_;rw[ah.out,List.getElem?_map,Hr.out];rfl
     have bw:Hid (A1e step 0 errs f s=if (step j f s').1 then(some r.err,(step j f s').2) else A1e step (j+1) (errs.drop (j+1)) f (step j f s').2):=by show _=_;rw[HJ.out,B0v He.out]
     have dg:=bg.keep hg ej (by decide)
     obtain⟨ra,rb⟩:=D6n Hr.out
     have g0:=A0a dg _ _ ra
     have g1:=A0a dg _ _ rb
     have eu:(j:Int)<(m:Int):=by omega
     obtain⟨W2,au⟩:∃ W2,Hid (W2=wi.alloc (.cells #[.int .i64 r.err,.func (.func r.fn) #[] r.cap] 221)):=⟨_,rfl⟩
     have hb2:Below wi.heap.size wi W2:=by rw[au.out];exact(Below.refl _ _).alloc (Nat.le_refl _) _
     have cu:W2.heap[wi.heap.size]?=some (.cells #[.int .i64 r.err,.func (.func r.fn) #[] r.cap] 221 (0,0)):=by rw[au.out];exact heap_alloc_new _ _
     have hF2:Fr B cs wi W2:=Fr.of_below hb2
     have dz:wi.heap.size∉cs:=fun e=>by have:=ak _ e;omega
     have cw:=(aj.trans hF2).keep ee eh (by decide)
     have hc:=ac k j r f s' W2 Hf.out Hr.out (by have:=hb2.size;omega) (bg.trans hF2) (aw _ _ _ _ _ (by omega) bt hb2)
     rw[au.out] at hc cw
     obtain⟨x0,x1,x2,x3,x4,x5⟩:=B0h cw
     unfold fv at hc
     have hen:=ag r (List.mem_of_getElem? Hr.out)
     have df:=(hb2.block w.heap.size (by omega)).trans ((aj.keep ((hb1.block w.heap.size (by omega)).trans bn) bv (by decide)))
     rw[au.out] at df cu
     have dr:Fr B cs W0 (wi.alloc (.cells #[.int .i64 r.err,.func (.func r.fn) #[] r.cap] 221)):=by rw[←au.out];exact bc.trans (bq.trans (aj.trans hF2))
     have dp:Fr B cs W1 (wi.alloc (.cells #[.int .i64 r.err,.func (.func r.fn) #[] r.cap] 221)):=by rw[←au.out];exact aj.trans hF2
     obtain⟨q,Hq⟩:∃ q,Hid (q=(step j f s').1):=⟨_,rfl⟩
     rw[←Hq.out] at hc
     clear ra rb ac hl aw ag bp
     cases q with
     | true=>
      have HE:Hid (A0i step errs 0 l s0=(r.err,k)):=by show _=_;rw[cg.out,bw.out,←Hq.out];rfl
      go_wp2_with fail
      refine hc.mono ?_
      rintro e w3 ⟨rfl,_,ba⟩
      have dy:=ba.keep cu dz (by decide)
      have bu:=ba.keep df bv (by decide)
      obtain⟨y0,y1⟩:=A0y dy
      obtain⟨z0,z1⟩:=A0y bu
      have f0:=A0b bu 0
      have f1:=A0b bu 1
      clear hen
      go_wp2
      refine bodyPost_ret (v:=.agg #[.int .i64 r.err,.int .i64 (k:Int)]) (by simp[results,Tryz.results98,go_sem, *]) rfl ?_
      exact⟨by rw[HE.out],(((cj.trans dr).trans ba).setNew 0 _).setNew 1 _⟩
     | false=>
      have dh:Hid (A1e step 0 errs f s=A1e step (j+1) (errs.drop (j+1)) f (step j f s').2):=by show _=_;rw[bw.out,←Hq.out];rfl
      go_wp2_with fail
      refine hc.mono ?_
      rintro e w3 ⟨rfl,dv,ba⟩
      clear hen
      go_wp2_with fail
      go_roundg (m-(j+1))
      case measure=>omega
      case rel=>exact⟨j+1,_,by omega,by go_num,dv trivial,dp.trans ba,dh⟩
    ·have HE:Hid (A0i step errs 0 l s0=A0i step errs (k+1) (l.drop (k+1)) s'):=by
      have e:errs.drop j = []:=List.drop_eq_nil_of_le (by rw[ah.out,List.length_map,←Hm.out];omega)
      show _=_;rw[cg.out,HJ.out,e];rfl
     have dw:Inv (k+1) 0 s' wi:=by
      have eo:j=rs.length:=by rw[←Hm.out];omega
      rw[eo] at bt
      exact bp k s' wi (by rw[←Hn.out];exact hlt) bt
     clear ac hl aw ag bp
     go_wp2_with fail
     go_roundg (n-(k+1))
     case measure=>omega
     case rel=>exact⟨k+1,s',by omega,by go_num,dw,bc.trans (bq.trans aj),HE⟩
  ·have HE:Hid (A0i step errs 0 l s0=(0,0)):=by
    have e:l.drop k = []:=List.drop_eq_nil_of_le (by rw[←Hn.out];omega)
    show _=_;rw[HK.out,e];rfl
   obtain⟨z0,z1⟩:=A0y bn
   have f0:=A0b bn 0
   have f1:=A0b bn 1
   clear ac hl aw ag bp
   go_wp2
   refine bodyPost_ret (v:=.agg #[.int .i64 0,.int .i64 0]) (by simp[results,Tryz.results98,go_sem, *]) rfl ?_
   exact⟨by rw[HE.out];rfl,(br.setNew 0 _).setNew 1 _⟩
def iv (i:II):Value:=.agg #[.string (S i.name),.int .i64 i.value]
theorem B9w {σ:Type}{B B0:Nat}{cs:List Nat}{w:World}{vl:Value}{l:List II}{rs:List Ru}{g:Nat}(step:Nat→II→σ→Bool×σ)(Inv:Nat→Nat→σ→World→Prop)(s0 : σ)
  (hl:∀ W,Below B0 w W→RdL 2 TAt W vl l) (hg:w.heap[g]?=some (.cells (A7g rs) 227 (0,0))) (ej:g∉cs) (dm:B0≤B) (dn:B≤w.heap.size) (hcs:∀ c∈cs,B0≤c) (ak:∀ c∈cs,c<B) (et:rs.length≤100)
  (ag:∀ r∈rs,∀ (args:Array Value) (w:World),(callFunc r.fn args).run Tryz.prog w = .ok (.enter r.fn args) w) (hI:Inv 0 0 s0 w) (aw:∀ k j s W W',B≤W.heap.size→Inv k j s W→Below W.heap.size W W'→Inv k j s W') (bp:∀ k s W,k<l.length→Inv k rs.length s W→Inv (k+1) 0 s W)
  (ac:∀ k j r f s W,l[k]?=some f→rs[j]?=some r→B≤W.heap.size→Fr B cs w W→Inv k j s W→Calls Tryz.prog r.fn (#[iv f]++r.cap) W fun e W'=>e = .returned (.bool (step j f s).1)∧((step j f s).1=false→Inv k (j+1) (step j f s).2 W')∧Fr B cs W W') :
  Calls Tryz.prog 100 #[vl,.slice (some ⟨g,0,none⟩) rs.length rs.length] w fun e w'=>e = .returned (.agg #[.int .i64 (A0i step (rs.map Ru.err) 0 l s0).1,.int .i64 (((A0i step (rs.map Ru.err) 0 l s0).2:Nat):Int)])∧Fr B cs w w':=by
 obtain⟨ao,n,cap,rfl,Hn,ei⟩:=(hl w (Below.refl _ _)).shape
 obtain⟨m,Hm⟩:∃ m,Hid (m=rs.length):=⟨_,rfl⟩
 have hm:m≤100:=by rw[Hm.out];exact et
 rw[←Hm.out]
 obtain⟨errs,ah⟩:∃ errs,Hid (errs=rs.map Ru.err):=⟨_,rfl⟩
 rw[←ah.out]
 obtain⟨W0,bh⟩:∃ W0,Hid (W0=w.alloc (.cells #[.int .i64 0,.int .i64 0] 50)):=⟨_,rfl⟩
 have hb0:Below w.heap.size w W0:=by rw[bh.out];exact(Below.refl _ _).alloc (Nat.le_refl _) _
 have d9:W0.heap[w.heap.size]?=some (.cells #[.int .i64 0,.int .i64 0] 50 (0,0)):=by rw[bh.out];exact heap_alloc_new _ _
 have hz0:w.heap.size+1≤W0.heap.size:=by rw[bh.out];simp
 have bv:w.heap.size∉cs:=fun e=>by have:=ak _ e;omega
 have cj:Fr B cs w W0:=Fr.of_below hb0
 go_enter Tryz.func100,Tryz.ntmps100
 go_wp2_with fail
 rw[←bh.out]
 go_loopg [11] n (fun gm i wr=>∃ (k:Nat) (s : σ),k+gm=n∧i = .int .i64 k∧Inv k 0 s wr∧Fr B cs W0 wr∧Hid (A0i step errs 0 l s0=A0i step errs k (l.drop k) s))
 case atStart=>exact⟨0,s0,by omega,rfl,aw _ _ _ _ _ dn hI hb0,Fr.refl _ _ _,rfl⟩
 case round=>
  obtain⟨k,s,hk,rfl,dx,bc,HK⟩:=hrel
  obtain⟨wo,dl⟩:∃ wo,wo=wr:=⟨_,rfl⟩
  subst dl
  have br:=cj.trans bc
  have bn:=bc.keep d9 bv (by decide)
  have fd:w.heap.size+1≤wo.heap.size:=Nat.le_trans hz0 bc.size
  by_cases hlt:k<n
  ·obtain⟨f,Hf⟩:∃ f,Hid (l[k]?=some f):=⟨l[k]'(by rw[←Hn.out];exact hlt),List.getElem?_eq_getElem (by rw[←Hn.out];exact hlt)⟩
   have cg:Hid (A0i step errs 0 l s0=match A1e step 0 errs f s with|(some e,_)=>(e,k)|(none,s')=>A0i step errs (k+1) (l.drop (k+1)) s'):=by show _=_;rw[HK.out,B0k Hf.out]
   obtain⟨b,off,rfl,hat⟩:=(hl wo (br.below dm (by omega) hcs)).get TAt.plain Hf.out
   obtain⟨t0,t1⟩:=hat.at
   have ew:(k:Int)<(n:Int):=by omega
   obtain⟨W1,bk⟩:∃ W1,Hid (W1=wo.alloc (.cells #[.string (S f.name),.int .i64 f.value] 162)):=⟨_,rfl⟩
   have hb1:Below wo.heap.size wo W1:=by rw[bk.out];exact(Below.refl _ _).alloc (Nat.le_refl _) _
   have ee:W1.heap[wo.heap.size]?=some (.cells #[.string (S f.name),.int .i64 f.value] 162 (0,0)):=by rw[bk.out];exact heap_alloc_new _ _
   have hz1:wo.heap.size+1≤W1.heap.size:=by rw[bk.out];simp
   have bq:Fr B cs wo W1:=Fr.of_below hb1
   have eh:wo.heap.size∉cs:=fun e=>by have:=ak _ e;omega
   have dt:=aw _ _ _ _ _ (by omega) dx hb1
   clear hat
   go_wp2_with fail
   rw[←bk.out]
   go_loopg [18] m (fun gm i wi=>∃ (j:Nat) (s' : σ),j+gm=m∧i = .int .i64 j∧Inv k j s' wi∧Fr B cs W1 wi∧Hid (A1e step 0 errs f s=A1e step j (errs.drop j) f s'))
   case atStart=>exact⟨0,s,by omega,rfl,dt,Fr.refl _ _ _,rfl⟩
   case round=>
    clear t0 t1
    obtain⟨j,s',hj,rfl,bt,aj,HJ⟩:=hrel
    obtain⟨wi,di⟩:∃ wi,wi=wr:=⟨_,rfl⟩
    subst di
    have bg:=br.trans (bq.trans aj)
    have fc:wo.heap.size+1≤wi.heap.size:=Nat.le_trans hz1 aj.size
    by_cases hjl:j<m
    ·obtain⟨r,Hr⟩:∃ r,Hid (rs[j]?=some r):=⟨rs[j]'(by rw[←Hm.out];exact hjl),List.getElem?_eq_getElem (by rw[←Hm.out];exact hjl)⟩
     have He:Hid (errs[j]?=some r.err):=by show _=_;rw[ah.out,List.getElem?_map,Hr.out];rfl
     have bw:Hid (A1e step 0 errs f s=if (step j f s').1 then(some r.err,(step j f s').2) else A1e step (j+1) (errs.drop (j+1)) f (step j f s').2):=by show _=_;rw[HJ.out,B0v He.out]
     have dg:=bg.keep hg ej (by decide)
     obtain⟨ra,rb⟩:=D6n Hr.out
     have g0:=A0a dg _ _ ra
     have g1:=A0a dg _ _ rb
     have eu:(j:Int)<(m:Int):=by omega
     obtain⟨W2,au⟩:∃ W2,Hid (W2=wi.alloc (.cells #[.int .i64 r.err,.func (.func r.fn) #[] r.cap] 227)):=⟨_,rfl⟩
     have hb2:Below wi.heap.size wi W2:=by rw[au.out];exact(Below.refl _ _).alloc (Nat.le_refl _) _
     have cu:W2.heap[wi.heap.size]?=some (.cells #[.int .i64 r.err,.func (.func r.fn) #[] r.cap] 227 (0,0)):=by rw[au.out];exact heap_alloc_new _ _
     have hF2:Fr B cs wi W2:=Fr.of_below hb2
     have dz:wi.heap.size∉cs:=fun e=>by have:=ak _ e;omega
     have cw:=(aj.trans hF2).keep ee eh (by decide)
     have hc:=ac k j r f s' W2 Hf.out Hr.out (by have:=hb2.size;omega) (bg.trans hF2) (aw _ _ _ _ _ (by omega) bt hb2)
     rw[au.out] at hc cw
     obtain⟨x0,x1⟩:=A0y cw
     unfold iv at hc
     have hen:=ag r (List.mem_of_getElem? Hr.out)
     have df:=(hb2.block w.heap.size (by omega)).trans ((aj.keep ((hb1.block w.heap.size (by omega)).trans bn) bv (by decide)))
     rw[au.out] at df cu
     have dr:Fr B cs W0 (wi.alloc (.cells #[.int .i64 r.err,.func (.func r.fn) #[] r.cap] 227)):=by rw[←au.out];exact bc.trans (bq.trans (aj.trans hF2))
     have dp:Fr B cs W1 (wi.alloc (.cells #[.int .i64 r.err,.func (.func r.fn) #[] r.cap] 227)):=by rw[←au.out];exact aj.trans hF2
     obtain⟨q,Hq⟩:∃ q,Hid (q=(step j f s').1):=⟨_,rfl⟩
     rw[←Hq.out] at hc
     clear ra rb ac hl aw ag bp
     cases q with
     | true=>
      have HE:Hid (A0i step errs 0 l s0=(r.err,k)):=by show _=_;rw[cg.out,bw.out,←Hq.out];rfl
      go_wp2_with fail
      refine hc.mono ?_
      rintro e w3 ⟨rfl,_,ba⟩
      have dy:=ba.keep cu dz (by decide)
      have bu:=ba.keep df bv (by decide)
      obtain⟨y0,y1⟩:=A0y dy
      obtain⟨z0,z1⟩:=A0y bu
      have f0:=A0b bu 0
      have f1:=A0b bu 1
      clear hen
      go_wp2
      refine bodyPost_ret (v:=.agg #[.int .i64 r.err,.int .i64 (k:Int)]) (by simp[results,Tryz.results100,go_sem, *]) rfl ?_
      exact⟨by rw[HE.out],(((cj.trans dr).trans ba).setNew 0 _).setNew 1 _⟩
     | false=>
      have dh:Hid (A1e step 0 errs f s=A1e step (j+1) (errs.drop (j+1)) f (step j f s').2):=by show _=_;rw[bw.out,←Hq.out];rfl
      go_wp2_with fail
      refine hc.mono ?_
      rintro e w3 ⟨rfl,dv,ba⟩
      clear hen
      go_wp2_with fail
      go_roundg (m-(j+1))
      case measure=>omega
      case rel=>exact⟨j+1,_,by omega,by go_num,dv trivial,dp.trans ba,dh⟩
    ·have HE:Hid (A0i step errs 0 l s0=A0i step errs (k+1) (l.drop (k+1)) s'):=by
      have e:errs.drop j = []:=List.drop_eq_nil_of_le (by rw[ah.out,List.length_map,←Hm.out];omega)
      show _=_;rw[cg.out,HJ.out,e];rfl
     have dw:Inv (k+1) 0 s' wi:=by
      have eo:j=rs.length:=by rw[←Hm.out];omega
      rw[eo] at bt
      exact bp k s' wi (by rw[←Hn.out];exact hlt) bt
     clear ac hl aw ag bp
     go_wp2_with fail
     go_roundg (n-(k+1))
     case measure=>omega
     case rel=>exact⟨k+1,s',by omega,by go_num,dw,bc.trans (bq.trans aj),HE⟩
  ·have HE:Hid (A0i step errs 0 l s0=(0,0)):=by
    have e:l.drop k = []:=List.drop_eq_nil_of_le (by rw[←Hn.out];omega)
    show _=_;rw[HK.out,e];rfl
   obtain⟨z0,z1⟩:=A0y bn
   have f0:=A0b bn 0
   have f1:=A0b bn 1
   clear ac hl aw ag bp
   go_wp2
   refine bodyPost_ret (v:=.agg #[.int .i64 0,.int .i64 0]) (by simp[results,Tryz.results100,go_sem, *]) rfl ?_
   exact⟨by rw[HE.out];rfl,(br.setNew 0 _).setNew 1 _⟩
theorem B9x {σ:Type}{B B0:Nat}{cs:List Nat}{w:World}{vl:Value}{l:List (List UInt8)}{rs:List Ru}{g:Nat}(step:Nat→List UInt8→σ→Bool×σ)(Inv:Nat→Nat→σ→World→Prop)(s0 : σ)
  (hl:∀ W,Below B0 w W→RdL 1 SAt W vl l) (hg:w.heap[g]?=some (.cells (A7g rs) 154 (0,0))) (dy:g∉cs) (dh:B0≤B) (di:B≤w.heap.size) (hcs:∀ c∈cs,B0≤c) (bg:∀ c∈cs,c<B) (d9:rs.length≤100)
  (ag:∀ r∈rs,∀ (args:Array Value) (w:World),(callFunc r.fn args).run Tryz.prog w = .ok (.enter r.fn args) w) (hI:Inv 0 0 s0 w) (bc:∀ k j s W W',B≤W.heap.size→Inv k j s W→Below W.heap.size W W'→Inv k j s W') (bn:∀ k s W,k<l.length→Inv k rs.length s W→Inv (k+1) 0 s W)
  (ac:∀ k j r f s W,l[k]?=some f→rs[j]?=some r→B≤W.heap.size→Fr B cs w W→Inv k j s W→Calls Tryz.prog r.fn (#[.string (S f)]++r.cap) W fun e W'=>e = .returned (.bool (step j f s).1)∧((step j f s).1=false→Inv k (j+1) (step j f s).2 W')∧Fr B cs W W') :
  Calls Tryz.prog 40 #[vl,.slice (some ⟨g,0,none⟩) rs.length rs.length] w fun e w'=>e = .returned (.agg #[.int .i64 (A0i step (rs.map Ru.err) 0 l s0).1,.int .i64 (((A0i step (rs.map Ru.err) 0 l s0).2:Nat):Int)])∧Fr B cs w w':=by
 obtain⟨ao,n,cap,rfl,Hn,dx⟩:=(hl w (Below.refl _ _)).shape
 obtain⟨m,Hm⟩:∃ m,Hid (m=rs.length):=⟨_,rfl⟩
 have hm:m≤100:=by rw[Hm.out];exact d9
 rw[←Hm.out]
 obtain⟨errs,ah⟩:∃ errs,Hid (errs=rs.map Ru.err):=⟨_,rfl⟩
 rw[←ah.out]
 obtain⟨W0,bh⟩:∃ W0,Hid (W0=w.alloc (.cells #[.int .i64 0,.int .i64 0] 50)):=⟨_,rfl⟩
 have hb0:Below w.heap.size w W0:=by rw[bh.out];exact(Below.refl _ _).alloc (Nat.le_refl _) _
 have dw:W0.heap[w.heap.size]?=some (.cells #[.int .i64 0,.int .i64 0] 50 (0,0)):=by rw[bh.out];exact heap_alloc_new _ _
 have hz0:w.heap.size+1≤W0.heap.size:=by rw[bh.out];simp
 have bt:w.heap.size∉cs:=fun e=>by have:=bg _ e;omega
 have bw:Fr B cs w W0:=Fr.of_below hb0
 go_enter Tryz.func40,Tryz.ntmps40
 go_wp2_with fail
 rw[←bh.out]
 go_loopg [11] n (fun gm i wr=>∃ (k:Nat) (s : σ),k+gm=n∧i = .int .i64 k∧Inv k 0 s wr∧Fr B cs W0 wr∧Hid (A0i step errs 0 l s0=A0i step errs k (l.drop k) s))
 case atStart=>exact⟨0,s0,by omega,rfl,bc _ _ _ _ _ di hI hb0,Fr.refl _ _ _,rfl⟩
 case round=>
  obtain⟨k,s,hk,rfl,dr,aw,HK⟩:=hrel
  obtain⟨wo,dg⟩:∃ wo,wo=wr:=⟨_,rfl⟩
  subst dg
  have bp:=bw.trans aw
  have bk:=aw.keep dw bt (by decide)
  have ej:w.heap.size+1≤wo.heap.size:=Nat.le_trans hz0 aw.size
  by_cases hlt:k<n
  ·obtain⟨f,Hf⟩:∃ f,Hid (l[k]?=some f):=⟨l[k]'(by rw[←Hn.out];exact hlt),List.getElem?_eq_getElem (by rw[←Hn.out];exact hlt)⟩
   have bv:Hid (A0i step errs 0 l s0=match A1e step 0 errs f s with|(some e,_)=>(e,k)|(none,s')=>A0i step errs (k+1) (l.drop (k+1)) s'):=by show _=_;rw[HK.out,B0k Hf.out]
   obtain⟨b,off,rfl,hat⟩:=(hl wo (bp.below dh (by omega) hcs)).get SAt.plain Hf.out
   have hat:wo.cell? ⟨b,off+k*1,none⟩=some (.string (S f)):=hat
   rw[Nat.mul_one] at hat
   have eh:(k:Int)<(n:Int):=by omega
   go_wp2_with fail
   go_loopg [18] m (fun gm i wi=>∃ (j:Nat) (s' : σ),j+gm=m∧i = .int .i64 j∧Inv k j s' wi∧Fr B cs wo wi∧Hid (A1e step 0 errs f s=A1e step j (errs.drop j) f s'))
   case atStart=>exact⟨0,s,by omega,rfl,dr,Fr.refl _ _ _,rfl⟩
   case round=>
    clear hat
    obtain⟨j,s',hj,rfl,bq,ak,HJ⟩:=hrel
    obtain⟨wi,df⟩:∃ wi,wi=wr:=⟨_,rfl⟩
    subst df
    have ba:=bp.trans ak
    have ei:wo.heap.size≤wi.heap.size:=ak.size
    by_cases hjl:j<m
    ·obtain⟨r,Hr⟩:∃ r,Hid (rs[j]?=some r):=⟨rs[j]'(by rw[←Hm.out];exact hjl),List.getElem?_eq_getElem (by rw[←Hm.out];exact hjl)⟩
     have He:Hid (errs[j]?=some r.err):=by show _=_;rw[ah.out,List.getElem?_map,Hr.out];rfl
     have bu:Hid (A1e step 0 errs f s=if (step j f s').1 then(some r.err,(step j f s').2) else A1e step (j+1) (errs.drop (j+1)) f (step j f s').2):=by show _=_;rw[HJ.out,B0v He.out]
     have cu:=ba.keep hg dy (by decide)
     obtain⟨ra,rb⟩:=D6n Hr.out
     have g0:=A0a cu _ _ ra
     have g1:=A0a cu _ _ rb
     have ee:(j:Int)<(m:Int):=by omega
     obtain⟨W2,aj⟩:∃ W2,Hid (W2=wi.alloc (.cells #[.int .i64 r.err,.func (.func r.fn) #[] r.cap] 154)):=⟨_,rfl⟩
     have hb2:Below wi.heap.size wi W2:=by rw[aj.out];exact(Below.refl _ _).alloc (Nat.le_refl _) _
     have cg:W2.heap[wi.heap.size]?=some (.cells #[.int .i64 r.err,.func (.func r.fn) #[] r.cap] 154 (0,0)):=by rw[aj.out];exact heap_alloc_new _ _
     have hF2:Fr B cs wi W2:=Fr.of_below hb2
     have dv:wi.heap.size∉cs:=fun e=>by have:=bg _ e;omega
     have hc:=ac k j r f s' W2 Hf.out Hr.out (by have:=hb2.size;omega) (ba.trans hF2) (bc _ _ _ _ _ (by omega) bq hb2)
     rw[aj.out] at hc
     have hen:=ag r (List.mem_of_getElem? Hr.out)
     have cj:=(hb2.block w.heap.size (by omega)).trans ((ak.keep bk bt (by decide)))
     rw[aj.out] at cj cg
     have dm:Fr B cs W0 (wi.alloc (.cells #[.int .i64 r.err,.func (.func r.fn) #[] r.cap] 154)):=by rw[←aj.out];exact aw.trans (ak.trans hF2)
     have dl:Fr B cs wo (wi.alloc (.cells #[.int .i64 r.err,.func (.func r.fn) #[] r.cap] 154)):=by rw[←aj.out];exact ak.trans hF2
     obtain⟨q,Hq⟩:∃ q,Hid (q=(step j f s').1):=⟨_,rfl⟩
     rw[←Hq.out] at hc
     clear ra rb ac hl bc ag bn
     cases q with
     | true=>
      have HE:Hid (A0i step errs 0 l s0=(r.err,k)):=by show _=_;rw[bv.out,bu.out,←Hq.out];rfl
      go_wp2_with fail
      refine hc.mono ?_
      rintro e w3 ⟨rfl,_,au⟩
      have dt:=au.keep cg dv (by decide)
      have br:=au.keep cj bt (by decide)
      obtain⟨y0,y1⟩:=A0y dt
      obtain⟨z0,z1⟩:=A0y br
      have f0:=A0b br 0
      have f1:=A0b br 1
      clear hen
      go_wp2
      refine bodyPost_ret (v:=.agg #[.int .i64 r.err,.int .i64 (k:Int)]) (by simp[results,Tryz.results40,go_sem, *]) rfl ?_
      exact⟨by rw[HE.out],(((bw.trans dm).trans au).setNew 0 _).setNew 1 _⟩
     | false=>
      have cw:Hid (A1e step 0 errs f s=A1e step (j+1) (errs.drop (j+1)) f (step j f s').2):=by show _=_;rw[bu.out,←Hq.out];rfl
      go_wp2_with fail
      refine hc.mono ?_
      rintro e w3 ⟨rfl,dn,au⟩
      clear hen
      go_wp2_with fail
      go_roundg (m-(j+1))
      case measure=>omega
      case rel=>exact⟨j+1,_,by omega,by go_num,dn trivial,dl.trans au,cw⟩
    ·have HE:Hid (A0i step errs 0 l s0=A0i step errs (k+1) (l.drop (k+1)) s'):=by
      have e:errs.drop j = []:=List.drop_eq_nil_of_le (by rw[ah.out,List.length_map,←Hm.out];omega)
      show _=_;rw[bv.out,HJ.out,e];rfl
     have dp:Inv (k+1) 0 s' wi:=by
      have dz:j=rs.length:=by rw[←Hm.out];omega
      rw[dz] at bq
      exact bn k s' wi (by rw[←Hn.out];exact hlt) bq
     clear ac hl bc ag bn
     go_wp2_with fail
     go_roundg (n-(k+1))
     case measure=>omega
     case rel=>exact⟨k+1,s',by omega,by go_num,dp,aw.trans ak,HE⟩
  ·have HE:Hid (A0i step errs 0 l s0=(0,0)):=by
    have e:l.drop k = []:=List.drop_eq_nil_of_le (by rw[←Hn.out];omega)
    show _=_;rw[HK.out,e];rfl
   obtain⟨z0,z1⟩:=A0y bk
   have f0:=A0b bk 0
   have f1:=A0b bk 1
   clear ac hl bc ag bn
   go_wp2
   refine bodyPost_ret (v:=.agg #[.int .i64 0,.int .i64 0]) (by simp[results,Tryz.results40,go_sem, *]) rfl ?_
   exact⟨by rw[HE.out];rfl,(bp.setNew 0 _).setNew 1 _⟩
theorem B6k (w:World):Calls Tryz.prog 42 #[] w fun e w'=>e = .returned (.slice (some ⟨w.heap.size+2,0,none⟩) 1 1)∧((w.alloc (.cells #[.slice none 0 0] 93)).alloc (.cells #[.func (.func 154) #[] #[.pointer (some ⟨w.heap.size,0,none⟩)]] 152)).alloc (.cells #[.int .i64 7,.func (.func 93) #[] #[.pointer (some ⟨w.heap.size+1,0,none⟩)]] 154)=w':=by
 have ac:=A4j
 go_enter Tryz.func42,Tryz.ntmps42
 go_wp2_with fail
 refine(B0f w).mono ?_
 rintro e w1 ⟨rfl,rfl⟩
 go_wp2
 go_ret
 exact⟨rfl,rfl⟩
theorem C1q (w:World)(o1 o2 o3:Obj):(((w.alloc o1).alloc o2).alloc o3).heap[w.heap.size+2]?=some o3∧(((w.alloc o1).alloc o2).alloc o3).heap[w.heap.size+1]?=some o2∧(((w.alloc o1).alloc o2).alloc o3).heap[w.heap.size]?=some o1:=by
 refine⟨?_,?_,?_⟩
 ·have:=heap_alloc_new ((w.alloc o1).alloc o2) o3
  rwa [show((w.alloc o1).alloc o2).heap.size=w.heap.size+2 by simp] at this
 ·rw[Below.heap_alloc _ _ _ (by simp)];exact A0j _ _ _
 ·rw[Below.heap_alloc _ _ _ (by simp;omega)];exact A0o _ _ _
structure SSt (W:World) (B c p:Nat) (l:List (List UInt8)):Prop where
 row:∃ v,W.heap[c]?=some (.cells #[v] 93 (0,0))∧Row ekS W B v l
 fn:W.heap[p]?=some (.cells #[.func (.func 154) #[] #[.pointer (some ⟨c,0,none⟩)]] 152 (0,0))
 lt:c<B
theorem SSt.below {W W':World}{B c p:Nat}{l:List (List UInt8)}(h:SSt W B c p l)(hb:Below W.heap.size W W'):SSt W' B c p l:=by
 obtain⟨⟨v,h1,h2⟩,h3,h4⟩:=h
 exact⟨⟨v,(hb.block c (Array.getElem?_eq_some_iff.1 h1).1).trans h1,h2.below hb⟩,(hb.block p (Array.getElem?_eq_some_iff.1 h3).1).trans h3,h4⟩
theorem SSt.call {W:World}{B c p:Nat}{l:List (List UInt8)}(h:SSt W B c p l)(hB:B≤W.heap.size)(hl:l.length≤1000)(cs:List Nat)(hc:c∈cs)(hp:p∉cs)(x:List UInt8) :
  Calls Tryz.prog 154 #[.string (S x),.pointer (some ⟨c,0,none⟩)] W fun e W'=>e = .returned (.bool (decide (x∈l)))∧SSt W' B c p (A6t x l)∧Fr B cs W W':=by
 obtain⟨⟨v,h1,h2⟩,h3,h4⟩:=h
 refine(B2a h1 h2 h4 hB hl x).mono ?_
 rintro e W' ⟨rfl,v',k1,k2,hu⟩
 have hF:Fr B cs W W':=by
  refine⟨hu.os,hu.tape,hu.output,hu.size,fun k hk ac hq=>hu.block k hk (fun e=>ac (e▸hc)) ?_⟩
  intro e
  have hown:=h2.own k e
  rcases h2.2 with⟨hv,_⟩|⟨g,cap,cur,hv,_,hg,_⟩
  ·rw[hv] at e;simp[Value.ownBlock] at e
  ·rw[hv] at e
   have e:g=k:=by simpa [Value.ownBlock] using e
   subst e
   rcases hq with hq|hq
   ·omega
   ·exact(hq cur (0,0)).1 hg
 exact⟨rfl,⟨⟨v',k1,k2⟩,hF.keep h3 hp (by decide),h4⟩,hF⟩
def B6i (s:List UInt8)(l:List (List UInt8)):Bool:=!A7d s||(keptB s||decide (s∈l))
theorem B6j {W:World}{B c p:Nat}{l:List (List UInt8)}(h:SSt W B c p l)(hB:B≤W.heap.size)(hl:l.length≤1000)(hp:p≠c)(s:List UInt8)(hs:s.length≤9223372036854775807) :
  Calls Tryz.prog 93 #[.string (S s),.pointer (some ⟨p,0,none⟩)] W fun e W'=>e = .returned (.bool (B6i s l))∧(B6i s l=false→SSt W' B c p (A6t s l))∧Fr B [c] W W':=by
 have c0:W.cell? ⟨p,0,none⟩=some (.func (.func 154) #[] #[.pointer (some ⟨c,0,none⟩)]):=A0a h.fn 0 _ rfl
 have ag:=B3c s hs W
 have ac:=C4u s W
 go_enter Tryz.func93,Tryz.ntmps93
 go_wp2_with fail
 refine ag.mono ?_
 rintro e w1 ⟨rfl,rfl⟩
 cases hq:A7d s with
 | false=>
  have HN:Hid (B6i s l=true):=by show _=_;rw[B6i,hq];rfl
  clear hq ag ac
  go_wp2
  go_ret
  refine⟨by rw[HN.out];rfl,fun e=>?_,Fr.refl _ _ _⟩
  rw[HN.out] at e;cases e
 | true=>
  go_wp2_with fail
  refine ac.mono ?_
  rintro e w2 ⟨rfl,hb2⟩
  cases hk:keptB s with
  | true=>
   have HN:Hid (B6i s l=true):=by show _=_;rw[B6i,hq,hk];rfl
   clear hq ag ac hk
   go_wp2
   go_ret
   refine⟨by rw[HN.out];rfl,fun e=>?_,Fr.of_below hb2⟩
   rw[HN.out] at e;cases e
  | false=>
   have HN:Hid (B6i s l=decide (s∈l)):=by show _=_;rw[B6i,hq,hk];rfl
   have h2:=h.below hb2
   have c2:w2.cell? ⟨p,0,none⟩=some (.func (.func 154) #[] #[.pointer (some ⟨c,0,none⟩)]):=A0a h2.fn 0 _ rfl
   have hcc:=h2.call (Nat.le_trans hB hb2.size) hl [c] (by simp) (by simpa using hp) s
   clear hq ag ac hk c0
   go_wp2_with fail
   refine hcc.mono ?_
   rintro e w3 ⟨rfl,h3,ah⟩
   go_wp2
   go_ret
   exact⟨by rw[HN.out];rfl,fun _=>h3,(Fr.of_below hb2).trans ah⟩
def B6w:Nat→List UInt8→List (List UInt8)→Bool×List (List UInt8):=fun _ s l=>(B6i s l,A6t s l)
theorem B8j {w:World}{vl:Value}{l:List (List UInt8)}(hl:RdL 1 SAt w vl l)(hn:l.length≤1000)(hs:∀ s∈l,s.length≤9223372036854775807) :
  Calls Tryz.prog 40 #[vl,.slice (some ⟨w.heap.size+2,0,none⟩) 1 1] (((w.alloc (.cells #[.slice none 0 0] 93)).alloc (.cells #[.func (.func 154) #[] #[.pointer (some ⟨w.heap.size,0,none⟩)]] 152)).alloc (.cells #[.int .i64 7,.func (.func 93) #[] #[.pointer (some ⟨w.heap.size+1,0,none⟩)]] 154)) fun e w'=>e = .returned (.agg #[.int .i64 (A0i B6w [7] 0 l []).1,.int .i64 (((A0i B6w [7] 0 l []).2:Nat):Int)])∧Below w.heap.size w w':=by
 obtain⟨W3,ac⟩:∃ W3,Hid (W3=((w.alloc (.cells #[.slice none 0 0] 93)).alloc (.cells #[.func (.func 154) #[] #[.pointer (some ⟨w.heap.size,0,none⟩)]] 152)).alloc (.cells #[.int .i64 7,.func (.func 93) #[] #[.pointer (some ⟨w.heap.size+1,0,none⟩)]] 154)):=⟨_,rfl⟩
 have hz:W3.heap.size=w.heap.size+3:=by rw[ac.out];simp
 have hb:Below w.heap.size w W3:=by rw[ac.out];exact(((Below.refl _ _).alloc (Nat.le_refl _) _).alloc (by simp) _).alloc (by simp;omega) _
 obtain⟨a3,a2,a1⟩:=C1q w (.cells #[.slice none 0 0] 93) (.cells #[.func (.func 154) #[] #[.pointer (some ⟨w.heap.size,0,none⟩)]] 152) (.cells #[.int .i64 7,.func (.func 93) #[] #[.pointer (some ⟨w.heap.size+1,0,none⟩)]] 154)
 rw[←ac.out] at a1 a2 a3 ⊢
 have hB:=B9x (B:=W3.heap.size) (B0:=w.heap.size) (cs:=[w.heap.size]) (w:=W3) (l:=l) (rs:=[⟨7,93,#[.pointer (some ⟨w.heap.size+1,0,none⟩)]⟩]) (g:=w.heap.size+2) B6w (fun k j s W=>SSt W W3.heap.size w.heap.size (w.heap.size+1) s∧s.length≤k+j) []
  (fun W hW=>hl.below SAt.stays (hb.trans hW)) a3 (by simp) (by omega) (Nat.le_refl _) (by simp) (by simp;omega) (by simp) ?_ ⟨⟨⟨_,a1,Row.nil _ _ _⟩,a2,by omega⟩,by simp⟩ (fun k j s W W' hW hI hb'=>⟨hI.1.below hb',hI.2⟩) (fun k s W _ hI=>⟨hI.1,hI.2⟩) ?_
 ·refine hB.mono ?_
  rintro e w' ⟨rfl,hF⟩
  exact⟨rfl,hb.trans (hF.below (by omega) (by omega) (by simp))⟩
 ·intro r hr args w'
  rw[List.mem_singleton] at hr
  subst hr
  exact enters_of Tryz.func93 (by kernel_rfl) rfl args w'
 ·intro k j r f s W hf hr ag _ hI
  have hj:j=0:=by
   cases j with
   | zero=>rfl
   | succ j=>simp at hr
  subst hj
  have hr:r=⟨7,93,#[.pointer (some ⟨w.heap.size+1,0,none⟩)]⟩:=by simpa using hr.symm
  subst hr
  have hk:=(List.getElem?_eq_some_iff.1 hf).1
  refine(B6j hI.1 ag (by have:=hI.2;omega) (by omega) f (hs f (A3u hf))).mono ?_
  rintro e W' ⟨rfl,h1,h2⟩
  refine⟨rfl,fun e=>⟨h1 e,?_⟩,h2⟩
  have:(A6t f s).length≤s.length+1:=by unfold A6t;split <;> simp
  have h3:=hI.2
  show(A6t f s).length≤k+(0+1)
  omega
end L
end Go.Proofs.YtgaoojpakjjdnaaGreatDoor
