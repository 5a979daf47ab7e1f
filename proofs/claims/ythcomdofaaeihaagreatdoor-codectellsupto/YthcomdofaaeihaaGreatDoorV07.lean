import Derived.Test.YthcomdofaaeihaaGreatDoorV05
import Derived.Laws.EntriesVeiled
set_option maxHeartbeats 32000000
set_option maxRecDepth 100000
namespace Go.Proofs.YthcomdofaaeihaaGreatDoor
namespace L
open Go.RowKit
variable{α σ:Type}{k j B g B0:Nat}{vl:Value}{w' w:World}{cs:List Nat}{errs:List Int}
structure Fr (B:Nat) (cs:List Nat) (w w':World):Prop where
 os:w'.os=w.os
 tape:w'.tape=w.tape
 output:w'.output=w.output
 size:w.heap.size≤w'.heap.size
 block:∀ k,k<w.heap.size→k∉cs→(k<B∨∀ xs fr,w.heap[k]?≠some (.cells xs 9 fr)∧w.heap[k]?≠some (.cells xs 3 fr))→w'.heap[k]?=w.heap[k]?
theorem Fr.refl (B:Nat)(cs:List Nat)(w:World):Fr B cs w w:=⟨rfl,rfl,rfl,zG _,fun _ _ _ _=>rfl⟩
theorem Fr.trans {a b c:World}(h:Fr B cs a b)(k:Fr B cs b c):Fr B cs a c:=
 ⟨k.os.trans h.os,k.tape.trans h.tape,k.output.trans h.output,yN h.size k.size,fun i hi hc hk=>by
  have e:=h.block i hi hc hk
  rw[k.block i (nD hi h.size) hc ?_,e]
  rcases hk with hk|hk
  ·exact .inl hk
  ·right;intro xs fr;rw[e];exact hk xs fr⟩
theorem Fr.of_below (h:zB w w'):Fr B cs w w':=⟨h.os,h.tape,h.output,h.size,fun k hk _ _=>h.block k hk⟩
theorem Fr.bL (h:Fr B cs w w')(hB:B0≤B)(hw:B0≤w.heap.size)(hc:∀ c∈cs,B0≤c):Below B0 w w':=
 ⟨h.os,h.tape,h.output,h.size,fun k hk=>h.block k (by omega) (fun e=>by have:=hc k e;omega) (.inl (by omega))⟩
theorem Fr.setNew {x:World}(h:Fr B cs w x)(i:Nat)(v:Value):Fr B cs w (x.setCell ⟨w.heap.size,i,none⟩ v):=
 ⟨h.os,h.tape,h.output,by simpa using h.size,fun k hk hc hq=>(zZ x ⟨w.heap.size,i,none⟩ v k (show k≠w.heap.size by omega)).trans (h.block k hk hc hq)⟩
def xH {α σ:Type}(step:Nat→α→σ→Bool×σ):Nat→List Int→α→σ→Option Int×σ
 | _,[],_,s=>(none,s)
 | j,e::r,x,s=>if (step j x s).1 then(some e,(step j x s).2) else xH step (j+1) r x (step j x s).2
def xC {α σ:Type}(step:Nat→α→σ→Bool×σ)(errs:List Int):Nat→List α→σ→Int×Nat
 | _,[],_=>(0,0)
 | i,x::l,s=>match xH step 0 errs x s with
  | (some e,_)=>(e,i)
  | (none,s')=>xC step errs (i+1) l s'
def fv (f:FI):Value:=.agg #[.string (S f.name),.int .i64 f.nU,.int .i64 f.kind,.string (S f.type),.bool f.many,.int .i64 f.cE]
structure Ru where
 err:Int
 fn:Nat
 cap:Array Value
def kW (rs:List Ru):Array Value:=(rs.flatMap fun r=>[.int .i64 r.err,.func (.func r.fn) #[] r.cap]).toArray
theorem TT {step:Nat→α→σ→Bool×σ}{e:Int}(he:errs[j]?=some e)(x : α)(s : σ):xH step j (errs.drop j) x s=if (step j x s).1 then(some e,(step j x s).2) else xH step (j+1) (errs.drop (j+1)) x (step j x s).2:=by
 obtain⟨hk,e1⟩:=yG.1 he;rw[uQ hk,e1,xH]
theorem TZ {step:Nat→α→σ→Bool×σ}{l:List α}{a : α}(ha:l[k]?=some a)(s : σ):xC step errs k (l.drop k) s=match xH step 0 errs a s with|(some e,_)=>(e,k)|(none,s')=>xC step errs (k+1) (l.drop (k+1)) s':=by
 obtain⟨hk,e1⟩:=yG.1 ha;rw[uQ hk,e1,xC]
theorem Fr.keep (h:Fr B cs w w'){xs:Array Value}{t:TypeId}{fr:Nat×Nat}(hk:w.heap[k]?=some (.cells xs t fr))(hc:k∉cs)(ht:t≠9∧t≠3):w'.heap[k]?=some (.cells xs t fr):=by
 rw[h.block k (zR hk) hc ?_]
 ·exact hk
 right;intro ys f;rw[hk];simp;exact⟨fun _ e=>absurd e ht.1,fun _ e=>absurd e ht.2⟩
theorem WM {rs:List Ru}{r:Ru}(h:rs[j]?=some r):(kW rs)[j*2]?=some (.int .i64 r.err)∧(kW rs)[j*2+1]?=some (.func (.func r.fn) #[] r.cap):=by
 unfold kW;rw[bP,bP]
 induction rs generalizing j with
 | nil=>simp at h
 | cons q rs ih=>
 cases j with
 | zero=>simp at h;subst h;simp
 | succ j=>
 have h':rs[j]?=some r:=by simpa using h
 have:=ih h';rw[rC];rw[show(j+1)*2=(j*2)+2 by omega,show(j*2)+2+1=(j*2+1)+2 by omega];simpa using this
theorem aI{P:Prop}(h:P:=by
 have HE:Hid (xC step errs 0 l s0=xC step errs (k+1) (l.drop (k+1)) s'):=by
  have e:errs.drop j = []:=sF (by rw[ah.out,yX,←Hm.out];omega);show _=_;rw[cu.out,HJ.out,e];rfl
 have d9:Inv (k+1) 0 s' wi:=by
  have fh:j=rs.length:=by rw[←Hm.out];omega
  rw[fh] at bn;exact bh k s' wi (by rw[←Hn.out];exact hlt) bn
 clear ac hl au ag bh;go_wp2_with fail
 go_roundg (n-(k+1))
 case measure=>omega
 case rel=>exact⟨k+1,s',by omega,by go_num,d9,aw.trans (bk.trans aj),HE⟩):P:=h
theorem XX{P:Prop}(h:P:=by
 have dl:Hid (xH step 0 errs f s=xH step (j+1) (errs.drop (j+1)) f (step j f s').2):=by show _=_;rw[cj.out,←Hq.out];rfl
 go_wp2_with fail
 refine hc.mono ?_;rintro e w3 ⟨rfl,dz,av⟩;clear hen;go_wp2_with fail
 go_roundg (m-(j+1))
 case measure=>omega
 case rel=>exact⟨j+1,_,by omega,by go_num,dz trivial,dw.trans av,dl⟩):P:=h
theorem Qf0{P:Prop}(h:P:=by
 have e:l.drop k = []:=sF (by rw[←Hn.out];omega);show _=_;rw[HK.out,e];rfl):P:=h
theorem B9r {l:List FI}{rs:List Ru}(step:Nat→FI→σ→Bool×σ)(Inv:Nat→Nat→σ→World→Prop)(s0 : σ)
  (hl:∀ W,Below B0 w W→RdL 6 FAt W vl l) (hg:w.heap[g]?=some (.cells (kW rs) 204 (0,0))) (fe:g∉cs) (dt:B0≤B) (dv:B≤w.heap.size) (hcs:∀ c∈cs,B0≤c) (ak:∀ c∈cs,c<B) (fj:rs.length≤100)
  (ag:∀ r∈rs,∀ (args:Array Value) (w:World),(callFunc r.fn args).run Tryz.prog w = .ok (.enter r.fn args) w) (hI:Inv 0 0 s0 w) (au:∀ k j s W W',B≤W.heap.size→Inv k j s W→zB W W'→Inv k j s W') (bh:∀ k s W,k<l.length→Inv k rs.length s W→Inv (k+1) 0 s W)
  (ac:∀ k j r f s W,l[k]?=some f→rs[j]?=some r→B≤W.heap.size→Fr B cs w W→Inv k j s W→Calls Tryz.prog r.fn (#[fv f]++r.cap) W fun e W'=>e = .returned (.bool (step j f s).1)∧((step j f s).1=false→Inv k (j+1) (step j f s).2 W')∧Fr B cs W W') :
  Calls Tryz.prog 95 #[vl,.slice (some ⟨g,0,none⟩) rs.length rs.length] w fun e w'=>e = .returned (.agg #[.int .i64 (xC step (rs.map Ru.err) 0 l s0).1,.int .i64 (((xC step (rs.map Ru.err) 0 l s0).2:Nat):Int)])∧Fr B cs w w':=by
 obtain⟨ao,n,cap,rfl,Hn,fd⟩:=(hl w (zH _ _)).sH;obtain⟨m,Hm⟩:=zM (rs.length);have hm:m≤100:=by rw[Hm.out];exact fj
 rw[←Hm.out];obtain⟨errs,ah⟩:=zM (rs.map Ru.err);rw[←ah.out];obtain⟨W0,dm,hb0,eo,hz0⟩:=zV w (.cells #[.int .i64 0,.int .i64 0] 54);have cg:w.heap.size∉cs:=fun e=>by have:=ak _ e;omega
 have cw:Fr B cs w W0:=Fr.of_below hb0;go_enter Tryz.func95,Tryz.ntmps95;go_wp2_with fail
 rw[←dm.out];go_loopg [11] n (fun gm i wr=>∃ (k:Nat) (s : σ),k+gm=n∧i = .int .i64 k∧Inv k 0 s wr∧Fr B cs W0 wr∧Hid (xC step errs 0 l s0=xC step errs k (l.drop k) s))
 case atStart=>exact⟨0,s0,by omega,rfl,au _ _ _ _ _ dv hI hb0,Fr.refl _ _ _,rfl⟩
 case round=>
  obtain⟨k,s,hk,rfl,ee,aw,HK⟩:=hrel;obtain⟨wo,dr⟩:∃ wo,wo=wr:=⟨_,rfl⟩
  subst dr;have bl:=cw.trans aw;have bg:=aw.keep eo cg (by decide);have fw:=yN hz0 aw.size;by_cases hlt:k<n
  ·obtain⟨f,Hf⟩:=yE (l:=l) (k:=k) (by rw[←Hn.out];exact hlt);have cu:Hid (xC step errs 0 l s0=match xH step 0 errs f s with|(some e,_)=>(e,k)|(none,s')=>xC step errs (k+1) (l.drop (k+1)) s'):=by show _=_;rw[HK.out,TZ Hf.out]
   obtain⟨b,off,rfl,hat⟩:=(hl wo (bl.bL dt (by omega) hcs)).get FAt.plain Hf.out;obtain⟨t0,t1,t2,t3,t4,t5⟩:=hat.at;have fq:(k:Int)<(n:Int):=by omega
   obtain⟨W1,dn,hb1,eu,hz1⟩:=zV wo (.cells #[.string (S f.name),.int .i64 f.nU,.int .i64 f.kind,.string (S f.type),.bool f.many,.int .i64 f.cE] 47);have bk:Fr B cs wo W1:=Fr.of_below hb1;have ew:wo.heap.size∉cs:=fun e=>by have:=ak _ e;omega
   have dy:=au _ _ _ _ _ (by omega) ee hb1;clear hat;go_wp2_with fail
   rw[←dn.out];go_loopg [18] m (fun gm i wi=>∃ (j:Nat) (s' : σ),j+gm=m∧i = .int .i64 j∧Inv k j s' wi∧Fr B cs W1 wi∧Hid (xH step 0 errs f s=xH step j (errs.drop j) f s'))
   case atStart=>exact⟨0,s,by omega,rfl,dy,Fr.refl _ _ _,rfl⟩
   case round=>
    clear t0 t1 t2 t3 t4 t5;obtain⟨j,s',hj,rfl,bn,aj,HJ⟩:=hrel;obtain⟨wi,dp⟩:∃ wi,wi=wr:=⟨_,rfl⟩
    subst dp;have ba:=bl.trans (bk.trans aj);have fu:=yN hz1 aj.size;by_cases hjl:j<m
    ·obtain⟨r,Hr⟩:=yE (l:=rs) (k:=j) (by rw[←Hm.out];exact hjl);have He:Hid (errs[j]?=some r.err):=by show _=_;rw[ah.out,sE,Hr.out];rfl
     have cj:Hid (xH step 0 errs f s=if (step j f s').1 then(some r.err,(step j f s').2) else xH step (j+1) (errs.drop (j+1)) f (step j f s').2):=by show _=_;rw[HJ.out,TT He.out]
     have di:=ba.keep hg fe (by decide);obtain⟨ra,rb⟩:=WM Hr.out;have g0:=zL di _ _ ra;have g1:=zL di _ _ rb;have fk:(j:Int)<(m:Int):=by omega
     obtain⟨W2,bc,hb2,df,-⟩:=zV wi (.cells #[.int .i64 r.err,.func (.func r.fn) #[] r.cap] 204);have hF2:Fr B cs wi W2:=Fr.of_below hb2;have ei:wi.heap.size∉cs:=fun e=>by have:=ak _ e;omega
     have dg:=(aj.trans hF2).keep eu ew (by decide);have hc:=ac k j r f s' W2 Hf.out Hr.out (by have:=hb2.size;omega) (ba.trans hF2) (au _ _ _ _ _ (by omega) bn hb2);rw[bc.out] at hc dg;obtain⟨x0,x1,x2,x3,x4,x5⟩:=tW dg;unfold fv at hc;have hen:=ag r (xV Hr.out);have dh:=(hb2.block w.heap.size (by omega)).trans ((aj.keep ((hb1.block w.heap.size (by omega)).trans bg) cg (by decide)));rw[bc.out] at dh df;have dx:Fr B cs W0 (wi.alloc (.cells #[.int .i64 r.err,.func (.func r.fn) #[] r.cap] 204)):=by rw[←bc.out];exact aw.trans (bk.trans (aj.trans hF2))
     have dw:Fr B cs W1 (wi.alloc (.cells #[.int .i64 r.err,.func (.func r.fn) #[] r.cap] 204)):=by rw[←bc.out];exact aj.trans hF2
     obtain⟨q,Hq⟩:=zM ((step j f s').1);rw[←Hq.out] at hc;clear ra rb ac hl au ag bh;cases q with
     | true=>
      have HE:Hid (xC step errs 0 l s0=(r.err,k)):=by show _=_;rw[cu.out,cj.out,←Hq.out];rfl
      go_wp2_with fail
      refine hc.mono ?_;rintro e w3 ⟨rfl,_,av⟩;have eh:=av.keep df ei (by decide);have bu:=av.keep dh cg (by decide);obtain⟨y0,y1⟩:=zO eh;obtain⟨z0,z1⟩:=zO bu;have f0:=zJ bu 0;have f1:=zJ bu 1;clear hen;go_wp2;refine bodyPost_ret (v:=.agg #[.int .i64 r.err,.int .i64 (k:Int)]) (by simp[results,Tryz.results95,go_sem, *]) rfl ?_;exact⟨by rw[HE.out],(((cw.trans dx).trans av).setNew 0 _).setNew 1 _⟩
     | false=>
      exact XX
    ·exact aI
  ·have HE:Hid (xC step errs 0 l s0=(0,0)):=by
    exact Qf0
   obtain⟨z0,z1⟩:=zO bg;have f0:=zJ bg 0;have f1:=zJ bg 1;clear ac hl au ag bh;go_wp2;refine bodyPost_ret (v:=.agg #[.int .i64 0,.int .i64 0]) (by simp[results,Tryz.results95,go_sem, *]) rfl ?_;exact⟨by rw[HE.out];rfl,(bl.setNew 0 _).setNew 1 _⟩
def iv (i:II):Value:=.agg #[.string (S i.name),.int .i64 i.value]
theorem B9s {l:List II}{rs:List Ru}(step:Nat→II→σ→Bool×σ)(Inv:Nat→Nat→σ→World→Prop)(s0 : σ)
  (hl:∀ W,Below B0 w W→RdL 2 TAt W vl l) (hg:w.heap[g]?=some (.cells (kW rs) 210 (0,0))) (fe:g∉cs) (dt:B0≤B) (dv:B≤w.heap.size) (hcs:∀ c∈cs,B0≤c) (ak:∀ c∈cs,c<B) (fj:rs.length≤100)
  (ag:∀ r∈rs,∀ (args:Array Value) (w:World),(callFunc r.fn args).run Tryz.prog w = .ok (.enter r.fn args) w) (hI:Inv 0 0 s0 w) (au:∀ k j s W W',B≤W.heap.size→Inv k j s W→zB W W'→Inv k j s W') (bh:∀ k s W,k<l.length→Inv k rs.length s W→Inv (k+1) 0 s W)
  (ac:∀ k j r f s W,l[k]?=some f→rs[j]?=some r→B≤W.heap.size→Fr B cs w W→Inv k j s W→Calls Tryz.prog r.fn (#[iv f]++r.cap) W fun e W'=>e = .returned (.bool (step j f s).1)∧((step j f s).1=false→Inv k (j+1) (step j f s).2 W')∧Fr B cs W W') :
  Calls Tryz.prog 97 #[vl,.slice (some ⟨g,0,none⟩) rs.length rs.length] w fun e w'=>e = .returned (.agg #[.int .i64 (xC step (rs.map Ru.err) 0 l s0).1,.int .i64 (((xC step (rs.map Ru.err) 0 l s0).2:Nat):Int)])∧Fr B cs w w':=by
 obtain⟨ao,n,cap,rfl,Hn,fd⟩:=(hl w (zH _ _)).sH;obtain⟨m,Hm⟩:=zM (rs.length);have hm:m≤100:=by rw[Hm.out];exact fj
 rw[←Hm.out];obtain⟨errs,ah⟩:=zM (rs.map Ru.err);rw[←ah.out];obtain⟨W0,dm,hb0,eo,hz0⟩:=zV w (.cells #[.int .i64 0,.int .i64 0] 54);have cg:w.heap.size∉cs:=fun e=>by have:=ak _ e;omega
 have cw:Fr B cs w W0:=Fr.of_below hb0;go_enter Tryz.func97,Tryz.ntmps97;go_wp2_with fail
 rw[←dm.out];go_loopg [11] n (fun gm i wr=>∃ (k:Nat) (s : σ),k+gm=n∧i = .int .i64 k∧Inv k 0 s wr∧Fr B cs W0 wr∧Hid (xC step errs 0 l s0=xC step errs k (l.drop k) s))
 case atStart=>exact⟨0,s0,by omega,rfl,au _ _ _ _ _ dv hI hb0,Fr.refl _ _ _,rfl⟩
 case round=>
  obtain⟨k,s,hk,rfl,ee,aw,HK⟩:=hrel;obtain⟨wo,dr⟩:∃ wo,wo=wr:=⟨_,rfl⟩
  subst dr;have bl:=cw.trans aw;have bg:=aw.keep eo cg (by decide);have fw:=yN hz0 aw.size;by_cases hlt:k<n
  ·obtain⟨f,Hf⟩:=yE (l:=l) (k:=k) (by rw[←Hn.out];exact hlt);have cu:Hid (xC step errs 0 l s0=match xH step 0 errs f s with|(some e,_)=>(e,k)|(none,s')=>xC step errs (k+1) (l.drop (k+1)) s'):=by show _=_;rw[HK.out,TZ Hf.out]
   obtain⟨b,off,rfl,hat⟩:=(hl wo (bl.bL dt (by omega) hcs)).get TAt.plain Hf.out;obtain⟨t0,t1⟩:=hat.at;have fq:(k:Int)<(n:Int):=by omega
   obtain⟨W1,dn,hb1,eu,hz1⟩:=zV wo (.cells #[.string (S f.name),.int .i64 f.value] 105);have bk:Fr B cs wo W1:=Fr.of_below hb1;have ew:wo.heap.size∉cs:=fun e=>by have:=ak _ e;omega
   have dy:=au _ _ _ _ _ (by omega) ee hb1;clear hat;go_wp2_with fail
   rw[←dn.out];go_loopg [18] m (fun gm i wi=>∃ (j:Nat) (s' : σ),j+gm=m∧i = .int .i64 j∧Inv k j s' wi∧Fr B cs W1 wi∧Hid (xH step 0 errs f s=xH step j (errs.drop j) f s'))
   case atStart=>exact⟨0,s,by omega,rfl,dy,Fr.refl _ _ _,rfl⟩
   case round=>
    clear t0 t1;obtain⟨j,s',hj,rfl,bn,aj,HJ⟩:=hrel;obtain⟨wi,dp⟩:∃ wi,wi=wr:=⟨_,rfl⟩
    subst dp;have ba:=bl.trans (bk.trans aj);have fu:=yN hz1 aj.size;by_cases hjl:j<m
    ·obtain⟨r,Hr⟩:=yE (l:=rs) (k:=j) (by rw[←Hm.out];exact hjl);have He:Hid (errs[j]?=some r.err):=by show _=_;rw[ah.out,sE,Hr.out];rfl
     have cj:Hid (xH step 0 errs f s=if (step j f s').1 then(some r.err,(step j f s').2) else xH step (j+1) (errs.drop (j+1)) f (step j f s').2):=by show _=_;rw[HJ.out,TT He.out]
     have di:=ba.keep hg fe (by decide);obtain⟨ra,rb⟩:=WM Hr.out;have g0:=zL di _ _ ra;have g1:=zL di _ _ rb;have fk:(j:Int)<(m:Int):=by omega
     obtain⟨W2,bc,hb2,df,-⟩:=zV wi (.cells #[.int .i64 r.err,.func (.func r.fn) #[] r.cap] 210);have hF2:Fr B cs wi W2:=Fr.of_below hb2;have ei:wi.heap.size∉cs:=fun e=>by have:=ak _ e;omega
     have dg:=(aj.trans hF2).keep eu ew (by decide);have hc:=ac k j r f s' W2 Hf.out Hr.out (by have:=hb2.size;omega) (ba.trans hF2) (au _ _ _ _ _ (by omega) bn hb2);rw[bc.out] at hc dg;obtain⟨x0,x1⟩:=zO dg;unfold iv at hc;have hen:=ag r (xV Hr.out);have dh:=(hb2.block w.heap.size (by omega)).trans ((aj.keep ((hb1.block w.heap.size (by omega)).trans bg) cg (by decide)));rw[bc.out] at dh df;have dx:Fr B cs W0 (wi.alloc (.cells #[.int .i64 r.err,.func (.func r.fn) #[] r.cap] 210)):=by rw[←bc.out];exact aw.trans (bk.trans (aj.trans hF2))
     have dw:Fr B cs W1 (wi.alloc (.cells #[.int .i64 r.err,.func (.func r.fn) #[] r.cap] 210)):=by rw[←bc.out];exact aj.trans hF2
     obtain⟨q,Hq⟩:=zM ((step j f s').1);rw[←Hq.out] at hc;clear ra rb ac hl au ag bh;cases q with
     | true=>
      have HE:Hid (xC step errs 0 l s0=(r.err,k)):=by show _=_;rw[cu.out,cj.out,←Hq.out];rfl
      go_wp2_with fail
      refine hc.mono ?_;rintro e w3 ⟨rfl,_,av⟩;have eh:=av.keep df ei (by decide);have bu:=av.keep dh cg (by decide);obtain⟨y0,y1⟩:=zO eh;obtain⟨z0,z1⟩:=zO bu;have f0:=zJ bu 0;have f1:=zJ bu 1;clear hen;go_wp2;refine bodyPost_ret (v:=.agg #[.int .i64 r.err,.int .i64 (k:Int)]) (by simp[results,Tryz.results97,go_sem, *]) rfl ?_;exact⟨by rw[HE.out],(((cw.trans dx).trans av).setNew 0 _).setNew 1 _⟩
     | false=>
      exact XX
    ·exact aI
  ·have HE:Hid (xC step errs 0 l s0=(0,0)):=by
    exact Qf0
   obtain⟨z0,z1⟩:=zO bg;have f0:=zJ bg 0;have f1:=zJ bg 1;clear ac hl au ag bh;go_wp2;refine bodyPost_ret (v:=.agg #[.int .i64 0,.int .i64 0]) (by simp[results,Tryz.results97,go_sem, *]) rfl ?_;exact⟨by rw[HE.out];rfl,(bl.setNew 0 _).setNew 1 _⟩
theorem B9t {l:List (List UInt8)}{rs:List Ru}(step:Nat→List UInt8→σ→Bool×σ)(Inv:Nat→Nat→σ→World→Prop)(s0 : σ)
  (hl:∀ W,Below B0 w W→RdL 1 SAt W vl l) (hg:w.heap[g]?=some (.cells (kW rs) 146 (0,0))) (eh:g∉cs) (dn:B0≤B) (dp:B≤w.heap.size) (hcs:∀ c∈cs,B0≤c) (ba:∀ c∈cs,c<B) (eo:rs.length≤100)
  (ag:∀ r∈rs,∀ (args:Array Value) (w:World),(callFunc r.fn args).run Tryz.prog w = .ok (.enter r.fn args) w) (hI:Inv 0 0 s0 w) (aw:∀ k j s W W',B≤W.heap.size→Inv k j s W→zB W W'→Inv k j s W') (bh:∀ k s W,k<l.length→Inv k rs.length s W→Inv (k+1) 0 s W)
  (ac:∀ k j r f s W,l[k]?=some f→rs[j]?=some r→B≤W.heap.size→Fr B cs w W→Inv k j s W→Calls Tryz.prog r.fn (#[.string (S f)]++r.cap) W fun e W'=>e = .returned (.bool (step j f s).1)∧((step j f s).1=false→Inv k (j+1) (step j f s).2 W')∧Fr B cs W W') :
  Calls Tryz.prog 38 #[vl,.slice (some ⟨g,0,none⟩) rs.length rs.length] w fun e w'=>e = .returned (.agg #[.int .i64 (xC step (rs.map Ru.err) 0 l s0).1,.int .i64 (((xC step (rs.map Ru.err) 0 l s0).2:Nat):Int)])∧Fr B cs w w':=by
 obtain⟨ao,n,cap,rfl,Hn,ee⟩:=(hl w (zH _ _)).sH;obtain⟨m,Hm⟩:=zM (rs.length);have hm:m≤100:=by rw[Hm.out];exact eo
 rw[←Hm.out];obtain⟨errs,ah⟩:=zM (rs.map Ru.err);rw[←ah.out];obtain⟨W0,di,hb0,d9,hz0⟩:=zV w (.cells #[.int .i64 0,.int .i64 0] 54);have bu:w.heap.size∉cs:=fun e=>by have:=ba _ e;omega
 have cu:Fr B cs w W0:=Fr.of_below hb0;go_enter Tryz.func38,Tryz.ntmps38;go_wp2_with fail
 rw[←di.out];go_loopg [11] n (fun gm i wr=>∃ (k:Nat) (s : σ),k+gm=n∧i = .int .i64 k∧Inv k 0 s wr∧Fr B cs W0 wr∧Hid (xC step errs 0 l s0=xC step errs k (l.drop k) s))
 case atStart=>exact⟨0,s0,by omega,rfl,aw _ _ _ _ _ dp hI hb0,Fr.refl _ _ _,rfl⟩
 case round=>
  obtain⟨k,s,hk,rfl,dx,au,HK⟩:=hrel;obtain⟨wo,dm⟩:∃ wo,wo=wr:=⟨_,rfl⟩
  subst dm;have bk:=cu.trans au;have bg:=au.keep d9 bu (by decide);have fe:=yN hz0 au.size;by_cases hlt:k<n
  ·obtain⟨f,Hf⟩:=yE (l:=l) (k:=k) (by rw[←Hn.out];exact hlt);have cj:Hid (xC step errs 0 l s0=match xH step 0 errs f s with|(some e,_)=>(e,k)|(none,s')=>xC step errs (k+1) (l.drop (k+1)) s'):=by show _=_;rw[HK.out,TZ Hf.out]
   obtain⟨b,off,rfl,hat⟩:=(hl wo (bk.bL dn (by omega) hcs)).get SAt.plain Hf.out;have hat:wo.cell? ⟨b,off+k*1,none⟩=some (.string (S f)):=hat;rw[tS] at hat;have ew:(k:Int)<(n:Int):=by omega
   go_wp2_with fail
   go_loopg [18] m (fun gm i wi=>∃ (j:Nat) (s' : σ),j+gm=m∧i = .int .i64 j∧Inv k j s' wi∧Fr B cs wo wi∧Hid (xH step 0 errs f s=xH step j (errs.drop j) f s'))
   case atStart=>exact⟨0,s,by omega,rfl,dx,Fr.refl _ _ _,rfl⟩
   case round=>
    clear hat;obtain⟨j,s',hj,rfl,bl,aj,HJ⟩:=hrel;obtain⟨wi,dl⟩:∃ wi,wi=wr:=⟨_,rfl⟩
    subst dl;have av:=bk.trans aj;have fd:=aj.size;by_cases hjl:j<m
    ·obtain⟨r,Hr⟩:=yE (l:=rs) (k:=j) (by rw[←Hm.out];exact hjl);have He:Hid (errs[j]?=some r.err):=by show _=_;rw[ah.out,sE,Hr.out];rfl
     have cg:Hid (xH step 0 errs f s=if (step j f s').1 then(some r.err,(step j f s').2) else xH step (j+1) (errs.drop (j+1)) f (step j f s').2):=by show _=_;rw[HJ.out,TT He.out]
     have dg:=av.keep hg eh (by decide);obtain⟨ra,rb⟩:=WM Hr.out;have g0:=zL dg _ _ ra;have g1:=zL dg _ _ rb;have eu:(j:Int)<(m:Int):=by omega
     obtain⟨W2,bc,hb2,cw,-⟩:=zV wi (.cells #[.int .i64 r.err,.func (.func r.fn) #[] r.cap] 146);have hF2:Fr B cs wi W2:=Fr.of_below hb2;have dz:wi.heap.size∉cs:=fun e=>by have:=ba _ e;omega
     have hc:=ac k j r f s' W2 Hf.out Hr.out (by have:=hb2.size;omega) (av.trans hF2) (aw _ _ _ _ _ (by omega) bl hb2);rw[bc.out] at hc;have hen:=ag r (xV Hr.out);have df:=(hb2.block w.heap.size (by omega)).trans ((aj.keep bg bu (by decide)));rw[bc.out] at df cw;have dt:Fr B cs W0 (wi.alloc (.cells #[.int .i64 r.err,.func (.func r.fn) #[] r.cap] 146)):=by rw[←bc.out];exact au.trans (aj.trans hF2)
     have dr:Fr B cs wo (wi.alloc (.cells #[.int .i64 r.err,.func (.func r.fn) #[] r.cap] 146)):=by rw[←bc.out];exact aj.trans hF2
     obtain⟨q,Hq⟩:=zM ((step j f s').1);rw[←Hq.out] at hc;clear ra rb ac hl aw ag bh;cases q with
     | true=>
      have HE:Hid (xC step errs 0 l s0=(r.err,k)):=by show _=_;rw[cj.out,cg.out,←Hq.out];rfl
      go_wp2_with fail
      refine hc.mono ?_;rintro e w3 ⟨rfl,_,ak⟩;have dy:=ak.keep cw dz (by decide);have bn:=ak.keep df bu (by decide);obtain⟨y0,y1⟩:=zO dy;obtain⟨z0,z1⟩:=zO bn;have f0:=zJ bn 0;have f1:=zJ bn 1;clear hen;go_wp2;refine bodyPost_ret (v:=.agg #[.int .i64 r.err,.int .i64 (k:Int)]) (by simp[results,Tryz.results38,go_sem, *]) rfl ?_;exact⟨by rw[HE.out],(((cu.trans dt).trans ak).setNew 0 _).setNew 1 _⟩
     | false=>
      have dh:Hid (xH step 0 errs f s=xH step (j+1) (errs.drop (j+1)) f (step j f s').2):=by show _=_;rw[cg.out,←Hq.out];rfl
      go_wp2_with fail
      refine hc.mono ?_;rintro e w3 ⟨rfl,dv,ak⟩;clear hen;go_wp2_with fail
      go_roundg (m-(j+1))
      case measure=>omega
      case rel=>exact⟨j+1,_,by omega,by go_num,dv trivial,dr.trans ak,dh⟩
    ·have HE:Hid (xC step errs 0 l s0=xC step errs (k+1) (l.drop (k+1)) s'):=by
      have e:errs.drop j = []:=sF (by rw[ah.out,yX,←Hm.out];omega);show _=_;rw[cj.out,HJ.out,e];rfl
     have dw:Inv (k+1) 0 s' wi:=by
      have ei:j=rs.length:=by rw[←Hm.out];omega
      rw[ei] at bl;exact bh k s' wi (by rw[←Hn.out];exact hlt) bl
     clear ac hl aw ag bh;go_wp2_with fail
     go_roundg (n-(k+1))
     case measure=>omega
     case rel=>exact⟨k+1,s',by omega,by go_num,dw,au.trans aj,HE⟩
  ·have HE:Hid (xC step errs 0 l s0=(0,0)):=by
    exact Qf0
   obtain⟨z0,z1⟩:=zO bg;have f0:=zJ bg 0;have f1:=zJ bg 1;clear ac hl aw ag bh;go_wp2;refine bodyPost_ret (v:=.agg #[.int .i64 0,.int .i64 0]) (by simp[results,Tryz.results38,go_sem, *]) rfl ?_;exact⟨by rw[HE.out];rfl,(bk.setNew 0 _).setNew 1 _⟩
end L
end Go.Proofs.YthcomdofaaeihaaGreatDoor
