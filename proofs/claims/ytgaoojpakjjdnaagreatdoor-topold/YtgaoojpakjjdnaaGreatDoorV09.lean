import Derived.Test.YtgaoojpakjjdnaaGreatDoorV08
import Derived.Maps.OwnOps
import Derived.Maps.Views
import Derived.Maps.OwnSet
set_option maxHeartbeats 32000000
set_option maxRecDepth 100000
namespace Go.Proofs.YtgaoojpakjjdnaaGreatDoor
namespace L
open Go.RowKit
def linkL (g:GI):GI:=⟨g.msgs.map (C8d g),g.enums⟩
theorem C4z (g:GI)(x:FI):(A8j g x).name=x.name:=by unfold A8j;split <;> rfl
theorem GOk.fitsL {g:GI}(h:GOk g):Fits (linkL g):=by
  obtain⟨h1,h2⟩:=h.fits
  refine⟨fun m hm=>?_,h2⟩
  obtain⟨m0,ac,rfl⟩:=List.mem_map.1 hm
  refine⟨(h1 m0 ac).1,fun f hf=>?_⟩
  obtain⟨f0,ag,rfl⟩:=List.mem_map.1 hf
  rw[C4z]
  exact(h1 m0 ac).2 f0 ag
theorem OwnG.keep {w w':World}{base:Nat}{vm ve:Value}{lm:List (MI×LV×LV)}{le:List (EI×LV)}(h:OwnG w base vm ve lm le)(hb:∀ k,base≤k→k<w.heap.size→w'.heap[k]?=w.heap[k]?):OwnG w' base vm ve lm le:=
  ⟨h.rowm.keep hb,h.rowe.keep hb,fun p hp=>⟨(h.ms p hp).1.keep hb,(h.ms p hp).2.keep hb⟩,fun p hp=>(h.es p hp).keep hb⟩
theorem OwnG.mono {w:World}{base base':Nat}{vm ve:Value}{lm:List (MI×LV×LV)}{le:List (EI×LV)}(h:OwnG w base vm ve lm le)(hb:base'≤base):OwnG w base' vm ve lm le:=
  ⟨h.rowm.mono hb,h.rowe.mono hb,fun p hp=>⟨(h.ms p hp).1.mono hb,(h.ms p hp).2.mono hb⟩,fun p hp=>(h.es p hp).mono hb⟩
theorem link_any {w:World}{vm ve:Value}{g:GI}(hg:GRd w vm ve g)(bh:GOk g) :
    Calls Tryz.prog 24 #[.agg #[vm,ve]] w fun e w'=>Below w.heap.size w w'∧
      (((wrongL (linkL g)).1=0∧∃ cw cu lm le,e = .returned (.tuple #[.agg #[cw,cu],.agg #[.int .i64 0,.int .i64 0]])∧OwnG w' w.heap.size cw cu lm le∧lm.map Prod.fst=(linkL g).msgs∧le.map Prod.fst=g.enums)∨
       ((wrongL (linkL g)).1≠0∧e = .returned (.tuple #[.agg #[.slice none 0 0,.slice none 0 0],.agg #[.int .i64 (wrongL (linkL g)).1,.int .i64 (((wrongL (linkL g)).2:Nat):Int)]]))):=by
  obtain⟨a1,n1,c1,rfl,H1,_⟩:=hg.1.shape
  obtain⟨a2,n2,c2,rfl,H2,_⟩:=hg.2.shape
  have hr:reachBytes≤140737488355328:=by unfold reachBytes;omega
  have h1:n1≤140737488355328:=by have:=bh.2.2.1;rw[H1.out];omega
  have h2:n2≤140737488355328:=by have:=bh.2.2.2;rw[H2.out];omega
  obtain⟨W0,ac⟩:∃ W0,Hid (W0=((w.alloc (.cells #[.slice a1 n1 c1,.slice a2 n2 c2] 25)).alloc (.cells #[.slice none 0 0,.slice none 0 0] 25)).alloc (.cells #[.int .i64 0,.int .i64 0] 50)):=⟨_,rfl⟩
  have hb0:Below w.heap.size w W0:=by rw[ac.out];exact(((Below.refl _ _).alloc (Nat.le_refl _) _).alloc (by simp) _).alloc (by simp;omega) _
  have hz0:w.heap.size+3≤W0.heap.size:=by rw[ac.out];simp
  have x1:W0.heap[w.heap.size]?=some (.cells #[.slice a1 n1 c1,.slice a2 n2 c2] 25 (0,0)):=by
    rw[ac.out,Below.heap_alloc _ _ _ (by simp;omega)];exact A0o _ _ _
  have x2:W0.heap[w.heap.size+1]?=some (.cells #[.slice none 0 0,.slice none 0 0] 25 (0,0)):=by
    rw[ac.out,Below.heap_alloc _ _ _ (by simp)];exact A0j _ _ _
  obtain⟨E,HE⟩:∃ E,Hid (E=w.heap.size+1+1):=⟨_,rfl⟩
  have dm:E≤w.heap.size+2:=Nat.le_of_eq HE.out
  have dn:w.heap.size+2≤E:=Nat.le_of_eq HE.out.symm
  have x3:W0.heap[E]?=some (.cells #[.int .i64 0,.int .i64 0] 50 (0,0)):=by
    have:=heap_alloc_new ((w.alloc (.cells #[.slice a1 n1 c1,.slice a2 n2 c2] 25)).alloc (.cells #[.slice none 0 0,.slice none 0 0] 25)) (.cells #[.int .i64 0,.int .i64 0] 50)
    rw[←ac.out] at this
    rw[HE.out];simpa using this
  have aw:∀ V,Below W0.heap.size W0 V→V.heap[w.heap.size]?=some (.cells #[.slice a1 n1 c1,.slice a2 n2 c2] 25 (0,0))∧V.heap[w.heap.size+1]?=some (.cells #[.slice none 0 0,.slice none 0 0] 25 (0,0))∧V.heap[E]?=some (.cells #[.int .i64 0,.int .i64 0] 50 (0,0))∧Below w.heap.size w V:=fun V hV=>⟨(hV.block _ (by omega)).trans x1,(hV.block _ (by omega)).trans x2,(hV.block _ (by omega)).trans x3,hb0.trans (hV.mono (by omega))⟩
  have ah:=B2j (w:=W0) (a1:=a1) (a2:=a2) (c1:=c1) (c2:=c2) h1 h2
  by_cases hbig:10<n1+n2
  · have HW:Hid (wrongL (linkL g)=(5,0)):=by show _=_;rw[wrongL,if_pos (by simp only[linkL,List.length_map];rw[←H1.out,←H2.out];exact hbig)]
    rw[show decide (10<n1+n2)=true by simp;omega] at ah
    go_enter Tryz.func24,Tryz.ntmps24
    go_wp2_with fail
    rw[←ac.out,←HE.out]
    refine ah.mono ?_
    rintro e w1 ⟨rfl,hb1⟩
    obtain⟨_,y2,y3,ak⟩:=aw w1 hb1
    obtain⟨z0,z1⟩:=A0y y2
    obtain⟨z2,z3⟩:=A0y y3
    have f0:=A0b y2 0
    have f1:=A0b y2 1
    have f2:=A0b y3 0
    have f3:=A0b y3 1
    clear aw ah
    go_wp2
    refine bodyPost_ret (v:=.tuple #[.agg #[.slice none 0 0,.slice none 0 0],.agg #[.int .i64 5,.int .i64 0]]) (by simp[results,Tryz.results24,go_sem, *]) rfl ?_
    refine⟨?_,.inr ⟨by rw[HW.out];decide,by rw[HW.out];rfl⟩⟩
    exact A5r (A5r (A5r (A5r ak (by omega)) (by omega)) (by omega)) (by omega)
  · rw[show decide (10<n1+n2)=false by simp;omega] at ah
    go_enter Tryz.func24,Tryz.ntmps24
    go_wp2_with fail
    rw[←ac.out,←HE.out]
    refine ah.mono ?_
    rintro e w1 ⟨rfl,hb1⟩
    obtain⟨y1,y2,y3,ak⟩:=aw w1 hb1
    obtain⟨u0,u1⟩:=A0y y1
    have cj:=C3z (hg.below ak) (by rw[←H1.out];omega) (by rw[←H2.out];omega) bh y1 (hg.below ak)
    clear ah
    go_wp2_with fail
    refine cj.mono ?_
    rintro e w2 ⟨ee,d9,lm,le,rfl,bq,bp,hle,hb2⟩
    obtain⟨am,nm,cm,rfl,Hm⟩:=bq.rowm.shape'
    obtain⟨ae,ne,ce,rfl,He⟩:=bq.rowe.shape'
    have bv:Hid (lm.map Prod.fst=(linkL g).msgs):=bp
    have bu:Hid (le.map Prod.fst=g.enums):=hle
    have dr:lm.length≤10:=by have:=congrArg List.length bp;simp at this;rw[this,←H1.out];omega
    have di:le.length≤10:=by have:=congrArg List.length hle;simp at this;rw[this,←H2.out];omega
    have bk:Below W0.heap.size W0 w2:=hb1.trans (hb2.mono hb1.size)
    obtain⟨W3,aj⟩:∃ W3,Hid (W3=w2.alloc (.cells #[.slice am nm cm,.slice ae ne ce] 25)):=⟨_,rfl⟩
    have hb3:Below w2.heap.size w2 W3:=by rw[aj.out];exact(Below.refl _ _).alloc (Nat.le_refl _) _
    have bw:W3.heap[w2.heap.size]?=some (.cells #[.slice am nm cm,.slice ae ne ce] 25 (0,0)):=by rw[aj.out];exact heap_alloc_new _ _
    have hz3:w2.heap.size+1≤W3.heap.size:=by rw[aj.out];simp
    have ba:=bq.below hb3
    have hgr:GRd W3 (.slice am nm cm) (.slice ae ne ce) (linkL g):=by
      have:=ba.rd
      rw[bv.out,bu.out] at this
      exact this
    have hwr:=B1z hgr (by simp only[linkL,List.length_map];rw[←H1.out];omega) (by simp only[linkL];rw[←H2.out];omega) bh.fitsL
    obtain⟨q0,q1⟩:=A0y bw
    rw[aj.out] at q0 q1
    clear cj bp hle u0 u1
    go_wp2_with fail
    rw[←aj.out]
    refine hwr.mono ?_
    rintro e w4 ⟨rfl,hb4⟩
    have bg:Below W0.heap.size W0 w4:=(bk.trans (hb3.mono bk.size)).trans (hb4.mono (by have:=bk.size;omega))
    have br:=ba.below hb4
    have cg:=(hb4.block w2.heap.size (by omega)).trans bw
    generalize hq:wrongL (linkL g)=q
    obtain⟨qe,qi⟩:=q
    obtain⟨W5,ag⟩:∃ W5,Hid (W5=w4.alloc (.cells #[.int .i64 qe,.int .i64 (qi:Int)] 50)):=⟨_,rfl⟩
    have bn:Below w4.heap.size w4 W5:=by rw[ag.out];exact(Below.refl _ _).alloc (Nat.le_refl _) _
    have df:Below W0.heap.size W0 W5:=bg.trans (bn.mono bg.size)
    have dg:W5.heap[w4.heap.size]?=some (.cells #[.int .i64 qe,.int .i64 (qi:Int)] 50 (0,0)):=by rw[ag.out];exact heap_alloc_new _ _
    have dh:=(bn.block w2.heap.size (Array.getElem?_eq_some_iff.1 cg).1).trans cg
    have bt:=br.below bn
    obtain⟨y1,y2,y3,au⟩:=aw W5 df
    obtain⟨z0,z1⟩:=A0y y2
    obtain⟨z2,z3⟩:=A0y y3
    obtain⟨z4,z5⟩:=A0y dg
    obtain⟨z6,z7⟩:=A0y dh
    have f0:=A0b y2 0
    have f1:=A0b y2 1
    have f2:=A0b y3 0
    have f3:=A0b y3 1
    clear aw hwr q0 q1
    by_cases hqe:qe=0
    · have HQ:Hid (qe=0):=hqe
      have bc:Hid (wrongL (linkL g)=(qe,qi)):=hq
      have dl:(qe != 0)=false:=by simp[hqe]
      clear hqe hq
      rw[ag.out] at z0 z1 z2 z3 z4 z5 z6 z7 f0 f1 f2 f3
      go_wp2
      refine bodyPost_ret (v:=.tuple #[.agg #[.slice am nm cm,.slice ae ne ce],.agg #[.int .i64 0,.int .i64 0]]) (by simp[results,Tryz.results24,go_sem, *]) rfl ?_
      rw[←ag.out]
      refine⟨?_,.inl ⟨by rw[bc.out];exact HQ.out,_,_,lm,le,rfl,?_,bv.out,bu.out⟩⟩
      · exact A5r (A5r (A5r (A5r au (by omega)) (by omega)) (by omega)) (by omega)
      · have h6:OwnG W5 w1.heap.size (.slice am nm cm) (.slice ae ne ce) lm le:=bt
        refine(h6.keep (w':=_) ?_).mono (by have:=ak.size;omega)
        intro k hk dp
        have e1:=hb1.size
        rw[Below.heap_setCell _ _ _ _ (show k≠E by omega),Below.heap_setCell _ _ _ _ (show k≠E by omega),Below.heap_setCell _ _ _ _ (show k≠w.heap.size+1 by omega),Below.heap_setCell _ _ _ _ (show k≠w.heap.size+1 by omega)]
    · have HQ:Hid (qe≠0):=hqe
      have bc:Hid (wrongL (linkL g)=(qe,qi)):=hq
      have dl:(qe != 0)=true:=by simp[hqe]
      clear hqe hq
      rw[ag.out] at z0 z1 z2 z3 z4 z5 z6 z7 f0 f1 f2 f3
      go_wp2_with fail
      rw[←ag.out]
      rw[←ag.out] at z0 z1 z2 z3 z4 z5 z6 z7 f0 f1 f2 f3
      have dt:¬ w4.heap.size=w.heap.size+1:=by have:=bg.size;omega
      have dv:¬ w4.heap.size=E:=by have:=bg.size;omega
      have dw:¬ E=w.heap.size+1:=by omega
      have dx:¬ w.heap.size+1=w4.heap.size:=by omega
      have dy:¬ E=w4.heap.size:=by omega
      have dz:¬ w.heap.size+1=E:=by omega
      go_region
      all_goals go_wp2
      all_goals refine bodyPost_ret (v:=.tuple #[.agg #[.slice none 0 0,.slice none 0 0],.agg #[.int .i64 qe,.int .i64 (qi:Int)]]) (by simp[results,Tryz.results24,go_sem, *]) rfl ?_
      all_goals refine⟨?_,.inr ⟨by rw[bc.out];exact HQ.out,by rw[bc.out]⟩⟩
      all_goals exact A5r (A5r (A5r (A5r au.drew (by omega)) (by omega)) (by omega)) (by omega)
def A3z (k:Int):Int:=if k=6 then 1 else if k=7 then 5 else if k=8∨k=9∨k=10 then 2 else 0
def D9z:FI:=⟨[],0,0,[],false,0⟩
def A0l (l:List FI)(n:Int):FI:=(l.find? fun f=>decide (f.number=n)).getD D9z
theorem D1r {l:List FI}{n:Int}(h:∃ f∈l,f.number=n):∃ k:Nat,A0k (fun f=>decide (f.number=n)) l=(k:Int)∧l[k]?=some (A0l l n)∧(A0l l n).number=n∧A0l l n∈l:=by
 unfold A0k A0l
 induction l with
 | nil=>obtain⟨f,hf,_⟩:=h;cases hf
 | cons a r ih=>
  by_cases ha:a.number=n
  ·refine⟨0,?_,?_,?_,?_⟩ <;> simp[List.findIdx?_cons,ha]
  ·have h':∃ f∈r,f.number=n:=by
    obtain⟨f,hf,hn⟩:=h
    rcases List.mem_cons.1 hf with rfl|hf
    ·exact absurd hn ha
    ·exact⟨f,hf,hn⟩
   obtain⟨k,h1,h2,h3,h4⟩:=ih h'
   have e:(a::r).find? (fun f=>decide (f.number=n))=r.find? fun f=>decide (f.number=n):=by simp[ha]
   rw[e]
   refine⟨k+1,?_,by simpa using h2,h3,List.mem_cons_of_mem _ h4⟩
   rw[List.findIdx?_cons]
   simp only[ha,decide_false,Bool.false_eq_true,if_false]
   cases hx:r.findIdx? (fun f=>decide (f.number=n)) with
   | none=>rw[hx] at h1;simp at h1
   | some j=>rw[hx] at h1;simp at h1 ⊢;omega
theorem KBT {A V V':World}(h:Below A.heap.size A V)(k:Below V.heap.size V V'):Below A.heap.size A V':=h.trans (k.mono h.size)
theorem B1m {W V:World}{B:Nat}(h:Below B W V)(hB:B≤W.heap.size)(o:Obj):Below B W (V.alloc o):=h.alloc (Nat.le_trans hB h.size) o
theorem D7k {W V V':World}{B:Nat}{r:Option Nat}(h:Below B W V)(hB:B≤W.heap.size)(hg:V.grownBy V' r)(hr:∀ k,r=some k→B≤k):Below B W V':=h.grown hg (Nat.le_trans hB h.size) hr
theorem B1s {α:Type}(E:EK α)(w:World)(y : α):∀ ad,some (⟨w.heap.size,0,none⟩:Addr)=some ad→∀ k z,[y][k]?=some z→∀ j u,(E.enc z)[j]?=some u→(w.alloc (.cells (E.enc y).toArray E.elem)).cell? (ad.add (k*E.size+j))=some u:=by
 intro ad had k z hz j u hu
 cases had
 cases k with
 | succ k=>simp at hz
 | zero=>
  have hz:y=z:=by simpa using hz
  subst hz
  rw[A0e,Nat.zero_mul,Nat.zero_add,Nat.zero_add]
  exact A0a (heap_alloc_new w _) j u (by simpa using hu)
theorem D6h {α β:Type}{sz:Nat}{P:World→Addr→α→Prop}{R:World→Addr→β→Prop}{w:World}{v:Value}{l:List α}(f : α→β)(h:RdL sz P w v l)(hf:∀ x a,a∈l→P w x a→R w x (f a)):RdL sz R w v (l.map f):=by
 obtain⟨ao,n,cap,e,h1,h2,h3,h4,h5⟩:=h
 refine⟨ao,n,cap,e,by simpa using h1,h2,h3,h4,fun x hx k b hb=>?_⟩
 rw[List.getElem?_map] at hb
 cases ha:l[k]? with
 | none=>rw[ha] at hb;simp at hb
 | some a=>
  rw[ha] at hb
  simp at hb
  subst hb
  exact hf _ a (List.mem_of_getElem? ha) (h5 x hx k a ha)
theorem Row.low {α:Type}{E:EK α}{w:World}{base g:Nat}{v:Value}{l:List α}(h:Row E w base v l)(hg:g<base)(i:Nat)(x:Value):Row E (w.setCell ⟨g,i,none⟩ x) base v l:=
 h.other (fun e=>by have:=(h.own g e).1;omega) i x
theorem KB_set {W V:World}{B g i:Nat}{x:Value}(h:Below B W V)(hg:B≤g):Below B W (V.setCell ⟨g,i,none⟩ x):=h.setCell (p:=⟨g,i,none⟩) hg x
theorem C7n {w:World}{c:Nat}{x:Int}(hc:w.heap[c]?=some (.cells #[.int .i64 x] 3 (0,0)))(f:FI) :
  Calls Tryz.prog 89 #[.agg #[.string (S f.name),.int .i64 f.number,.int .i64 f.kind,.string (S f.type),.bool f.many,.int .i64 f.choice],.pointer (some ⟨c,0,none⟩)] w fun e w'=>e = .returned (.bool (decide (f.number=x)))∧Below w.heap.size w w':=by
 have c0:w.cell? ⟨c,0,none⟩=some (.int .i64 x):=A0a hc 0 _ rfl
 have ag:c<w.heap.size:=(Array.getElem?_eq_some_iff.1 hc).1
 have ac:=(Below.refl w.heap.size w).alloc (Nat.le_refl _) (.cells #[.string (S f.name),.int .i64 f.number,.int .i64 f.kind,.string (S f.type),.bool f.many,.int .i64 f.choice] 40)
 obtain⟨q,Hq⟩:∃ q,Hid (q=decide (f.number=x)):=⟨_,rfl⟩
 have hq:(f.number==x)=q:=by rw[Hq.out,Bool.eq_iff_iff];simp
 rw[←Hq.out]
 go_enter Tryz.func89,Tryz.ntmps89
 go_wp2
 go_ret
 exact⟨rfl,ac⟩
theorem C4o {v:Value}{l:List FI}{w:World}{c:Nat}{x:Int}(h:RdL 6 FAt w v l)(hc:w.heap[c]?=some (.cells #[.int .i64 x] 3 (0,0))) :
  Calls Tryz.prog 88 #[v,.func (.func 89) #[] #[.pointer (some ⟨c,0,none⟩)]] w fun e w'=>e = .returned (.int .i64 (A0k (fun f=>decide (f.number=x)) l))∧Below w.heap.size w w':=by
 obtain⟨ao,n,cap,rfl,Hn,ag⟩:=h.shape
 go_enter Tryz.func88,Tryz.ntmps88
 go_wp2_with fail
 go_loopg [8] n (fun m i wr=>∃ k:Nat,k+m=n∧i = .int .i64 k∧Hid (∀ a∈l.take k,decide (a.number=x)=false)∧Below w.heap.size w wr)
 case atStart=>exact⟨0,by omega,rfl,by show ∀ a∈_,_;simp,Below.refl _ _⟩
 case round=>
  obtain⟨k,hk,rfl,HK,hb⟩:=hrel
  have ah:=(hb.block c (Array.getElem?_eq_some_iff.1 hc).1).trans hc
  by_cases hlt:k<n
  ·obtain⟨a,Ha⟩:∃ a,Hid (l[k]?=some a):=⟨l[k]'(by rw[←Hn.out];exact hlt),List.getElem?_eq_getElem (by rw[←Hn.out];exact hlt)⟩
   obtain⟨b,off,rfl,hat⟩:=(h.below FAt.stays hb).get FAt.plain Ha.out
   obtain⟨s0,s1,s2,s3,s4,s5⟩:=hat.at
   have aj:(k:Int)<(n:Int):=by omega
   have ac:=C7n ah a
   cases hq:decide (a.number=x) with
   | true=>
    have HF:Hid (A0k (fun f=>decide (f.number=x)) l=(k:Int)):=A7o Ha.out HK.out hq
    rw[hq] at ac
    clear hq hat
    go_wp2_with fail
    refine ac.mono ?_
    rintro e w1 ⟨rfl,hb1⟩
    go_wp2
    go_ret
    exact⟨by rw[HF.out];rfl,hb.trans (hb1.mono hb.size)⟩
   | false=>
    have HX:Hid (∀ a∈l.take (k+1),decide (a.number=x)=false):=by
     show ∀ a∈_,_
     rw[A0z Ha.out]
     intro y hy
     rcases List.mem_append.1 hy with hy|hy
     ·exact HK.out y hy
     ·rw[List.mem_singleton] at hy;rw[hy];exact hq
    rw[hq] at ac
    clear hq hat
    go_wp2_with fail
    refine ac.mono ?_
    rintro e w1 ⟨rfl,hb1⟩
    go_wp2_with fail
    go_roundg (n-(k+1))
    case measure=>omega
    case rel=>exact⟨k+1,by omega,by go_num,HX,hb.trans (hb1.mono hb.size)⟩
  ·have HF:Hid (A0k (fun f=>decide (f.number=x)) l = -1):=by
    have:=HK.out
    rw[List.take_of_length_le (by rw[←Hn.out];omega)] at this
    exact A4m this
   go_wp2
   go_ret
   exact⟨by rw[HF.out];rfl,hb⟩
theorem A3e {nm vf vb:Value}{l:List FI}{w:World}(h:RdL 6 FAt w vf l)(ah:∃ ao n cap,vb = .slice ao n cap)(ag:∃ s:List UInt8,nm = .string (S s))(x:Int) :
  Calls Tryz.prog 37 #[.agg #[nm,vf,vb],.int .i64 x] w fun e w'=>e = .returned (.int .i64 (A0k (fun f=>decide (f.number=x)) l))∧Below w.heap.size w w':=by
 obtain⟨ao,n,cap,rfl,Hn,ac⟩:=h.shape
 obtain⟨ae,ne,ce,rfl⟩:=ah
 obtain⟨s,rfl⟩:=ag
 have hb2:Below w.heap.size w ((w.alloc (.cells #[.string (S s),.slice ao n cap,.slice ae ne ce] 38)).alloc (.cells #[.int .i64 x] 3)):=((Below.refl _ _).alloc (Nat.le_refl _) _).alloc (by simp) _
 have hi:=C4o (h.below FAt.stays hb2) (A0j w _ _)
 have aj:=A4j
 go_enter Tryz.func37,Tryz.ntmps37
 go_wp2_with fail
 refine hi.mono ?_
 rintro e w1 ⟨rfl,hb1⟩
 go_wp2
 go_ret
 exact⟨rfl,hb2.trans (hb1.mono hb2.size)⟩
theorem D0k {β:Type}{w:World}{c:Nat}{x:Int}(hc:w.heap[c]?=some (.cells #[.int .i64 x] 3 (0,0)))(v:VI β)(a1:Option Addr)(n1 c1:Nat)(a2:Option Addr)(n2 c2:Nat)(a3:Option Addr)(n3 c3:Nat) :
  Calls Tryz.prog 80 #[.agg #[.int .i64 v.number,.slice a1 n1 c1,.slice a2 n2 c2,.slice a3 n3 c3],.pointer (some ⟨c,0,none⟩)] w fun e w'=>e = .returned (.bool (decide (v.number=x)))∧Below w.heap.size w w':=by
 have c0:w.cell? ⟨c,0,none⟩=some (.int .i64 x):=A0a hc 0 _ rfl
 have ag:c<w.heap.size:=(Array.getElem?_eq_some_iff.1 hc).1
 have ac:=(Below.refl w.heap.size w).alloc (Nat.le_refl _) (.cells #[.int .i64 v.number,.slice a1 n1 c1,.slice a2 n2 c2,.slice a3 n3 c3] 62)
 obtain⟨q,Hq⟩:∃ q,Hid (q=decide (v.number=x)):=⟨_,rfl⟩
 have hq:(v.number==x)=q:=by rw[Hq.out,Bool.eq_iff_iff];simp
 rw[←Hq.out]
 go_enter Tryz.func80,Tryz.ntmps80
 go_wp2
 go_ret
 exact⟨rfl,ac⟩
theorem C5y {β:Type}{P:World→Addr→β→Prop}(hP:A5g P){v:Value}{l:List (VI β)}{w:World}{c:Nat}{x:Int}(h:RdL 4 (VAt P) w v l)(hc:w.heap[c]?=some (.cells #[.int .i64 x] 3 (0,0))) :
  Calls Tryz.prog 79 #[v,.func (.func 80) #[] #[.pointer (some ⟨c,0,none⟩)]] w fun e w'=>e = .returned (.int .i64 (A0k (fun v=>decide (v.number=x)) l))∧Below w.heap.size w w':=by
 obtain⟨ao,n,cap,rfl,Hn,ag⟩:=h.shape
 go_enter Tryz.func79,Tryz.ntmps79
 go_wp2_with fail
 go_loopg [8] n (fun m i wr=>∃ k:Nat,k+m=n∧i = .int .i64 k∧Hid (∀ a∈l.take k,decide (a.number=x)=false)∧Below w.heap.size w wr)
 case atStart=>exact⟨0,by omega,rfl,by show ∀ a∈_,_;simp,Below.refl _ _⟩
 case round=>
  obtain⟨k,hk,rfl,HK,hb⟩:=hrel
  have ah:=(hb.block c (Array.getElem?_eq_some_iff.1 hc).1).trans hc
  by_cases hlt:k<n
  ·obtain⟨a,Ha⟩:∃ a,Hid (l[k]?=some a):=⟨l[k]'(by rw[←Hn.out];exact hlt),List.getElem?_eq_getElem (by rw[←Hn.out];exact hlt)⟩
   obtain⟨b,off,rfl,hat⟩:=(h.below (VAt.stays hP) hb).get VAt.plain Ha.out
   obtain⟨v1,v2,v3,s0,s1,s2,s3,r1,r2,r3⟩:=hat.at
   obtain⟨a1,n1,c1,rfl,_,_⟩:=r1.shape
   obtain⟨a2,n2,c2,rfl,_,_⟩:=r2.shape
   obtain⟨a3,n3,c3,rfl,_,_⟩:=r3.shape
   have aj:(k:Int)<(n:Int):=by omega
   have ac:=D0k ah a a1 n1 c1 a2 n2 c2 a3 n3 c3
   cases hq:decide (a.number=x) with
   | true=>
    have HF:Hid (A0k (fun v=>decide (v.number=x)) l=(k:Int)):=A7o Ha.out HK.out hq
    rw[hq] at ac
    clear hq hat r1 r2 r3
    go_wp2_with fail
    refine ac.mono ?_
    rintro e w1 ⟨rfl,hb1⟩
    go_wp2
    go_ret
    exact⟨by rw[HF.out];rfl,hb.trans (hb1.mono hb.size)⟩
   | false=>
    have HX:Hid (∀ a∈l.take (k+1),decide (a.number=x)=false):=by
     show ∀ a∈_,_
     rw[A0z Ha.out]
     intro y hy
     rcases List.mem_append.1 hy with hy|hy
     ·exact HK.out y hy
     ·rw[List.mem_singleton] at hy;rw[hy];exact hq
    rw[hq] at ac
    clear hq hat r1 r2 r3
    go_wp2_with fail
    refine ac.mono ?_
    rintro e w1 ⟨rfl,hb1⟩
    go_wp2_with fail
    go_roundg (n-(k+1))
    case measure=>omega
    case rel=>exact⟨k+1,by omega,by go_num,HX,hb.trans (hb1.mono hb.size)⟩
  ·have HF:Hid (A0k (fun v=>decide (v.number=x)) l = -1):=by
    have:=HK.out
    rw[List.take_of_length_le (by rw[←Hn.out];omega)] at this
    exact A4m this
   go_wp2
   go_ret
   exact⟨by rw[HF.out];rfl,hb⟩
theorem C1m {β:Type}{P:World→Addr→β→Prop}(hP:A5g P){v0 v1:Value}{l:List (VI β)}{w:World}(h:RdL 4 (VAt P) w v0 l)(ag:∃ ao n cap,v1 = .slice ao n cap)(x:Int) :
  Calls Tryz.prog 33 #[.agg #[v0,v1],.int .i64 x] w fun e w'=>e = .returned (.int .i64 (A0k (fun v=>decide (v.number=x)) l))∧Below w.heap.size w w':=by
 obtain⟨ao,n,cap,rfl,Hn,ac⟩:=h.shape
 obtain⟨ae,ne,ce,rfl⟩:=ag
 have hb2:Below w.heap.size w ((w.alloc (.cells #[.slice ao n cap,.slice ae ne ce] 29)).alloc (.cells #[.int .i64 x] 3)):=((Below.refl _ _).alloc (Nat.le_refl _) _).alloc (by simp) _
 have hi:=C5y hP (h.below (VAt.stays hP) hb2) (A0j w _ _)
 have ah:=A4j
 go_enter Tryz.func33,Tryz.ntmps33
 go_wp2_with fail
 refine hi.mono ?_
 rintro e w1 ⟨rfl,hb1⟩
 go_wp2
 go_ret
 exact⟨rfl,hb2.trans (hb1.mono hb2.size)⟩
open Go.RowKit Go.WideMaps Go.Maps
theorem C7z:Keyed Tryz.prog 3:=int_keyed Tryz.underlying3
theorem D8c (w:World):(zeroValue 3).run Tryz.prog w = .ok (.int .i64 0) w:=by kernel_rfl
abbrev OwnM (w:World) (b n:Nat) (D:DataW Unit):Prop:=w.ownsMap Tryz.prog 3 (plainElem (H:=Unit) Tryz.prog 3) b n D
theorem OwnM.below {w w':World}{b n:Nat}{D:DataW Unit}(h:OwnM w b n D)(hb:Below w.heap.size w w'):OwnM w' b n D:=by
 have hlt:=h.lt
 obtain⟨es,clock,h1,F,hs,hD⟩:=h
 exact⟨es,clock,(hb.block b hlt).trans h1,F,hs,hD⟩
theorem OwnM.block {w w':World}{b n:Nat}{D:DataW Unit}(h:OwnM w b n D)(hb:w'.heap[b]?=w.heap[b]?):OwnM w' b n D:=by
 obtain⟨es,clock,h1,F,hs,hD⟩:=h
 exact⟨es,clock,hb.trans h1,F,hs,hD⟩
def A1d (l:List FI)(x:Int):Int:=match l.find? (fun f=>decide (f.number=x)) with|some f=>f.choice|none=>0
def ChD (D:DataW Unit)(l:List FI):Prop:=∀ x:Int,D.atKey (.int .i64 x) (.lit (.int .i64 0)) = .lit (.int .i64 (A1d l x))∧Maps.has D (.int .i64 x)=l.any fun f=>decide (f.number=x)
theorem ChD.nil:ChD (.map []) []:=fun _=>⟨rfl,rfl⟩
theorem ChD.put {D:DataW Unit}{l:List FI}{f:FI}(h:ChD D l)(hD:IsMap D)(hf:(l.any fun g=>decide (g.number=f.number))=false):ChD (D.put (.int .i64 f.number) (.lit (.int .i64 f.choice))) (l++[f]):=by
 intro x
 by_cases e:x=f.number
 ·subst e
  rw[atKey_put_same hD (show WideAt.IsKeyLit (.int .i64 f.number) from trivial),has_put_same hD (show WideAt.IsKeyLit (.int .i64 f.number) from trivial)]
  have h1:l.find? (fun g=>decide (g.number=f.number))=none:=by
   rw[List.find?_eq_none]
   intro y hy
   rw[List.any_eq_false] at hf
   exact hf y hy
  refine⟨?_,by simp⟩
  unfold A1d
  rw[List.find?_append,h1]
  simp
 ·have e':¬ f.number=x:=fun h=>e h.symm
  rw[atKey_put_other (by simpa using e),has_put_other (by simpa using e),(h x).1,(h x).2]
  unfold A1d
  rw[List.find?_append,List.any_append]
  simp[e']
theorem ChD.skip {D:DataW Unit}{l:List FI}{f:FI}(h:ChD D l)(hf:(l.any fun g=>decide (g.number=f.number))=true):ChD D (l++[f]):=by
 intro x
 rw[(h x).1,(h x).2]
 unfold A1d
 rw[List.find?_append,List.any_append]
 by_cases e:f.number=x
 ·subst e
  rw[List.any_eq_true] at hf
  obtain⟨y,hy,hq⟩:=hf
  cases h1:l.find? (fun g=>decide (g.number=f.number)) with
  | none=>rw[List.find?_eq_none] at h1;exact absurd hq (h1 y hy)
  | some z=>exact⟨by simp,by simp;exact⟨y,hy,of_decide_eq_true hq⟩⟩
 ·simp[e]
theorem ChD.get {D:DataW Unit}{l:List FI}{x c:Int}(h:ChD D l)(hc:D.atKey (.int .i64 x) (.lit (.int .i64 0)) = .lit (.int .i64 c)):c=A1d l x:=by
 have:=(h x).1.symm.trans hc
 injection this with h1
 injection h1 with _ h2
 exact h2.symm
theorem B5m {nm vf vb:Value}{l:List FI}{w:World}(h:RdL 6 FAt w vf l)(bq:∃ ao n cap,vb = .slice ao n cap)(bn:∃ s:List UInt8,nm = .string (S s))(bp:∀ f∈l,I64 f.number∧I64 f.choice)(hl:l.length≤140737488355328) :
  Calls Tryz.prog 143 #[.agg #[nm,vf,vb]] w fun e w'=>∃ b D,e = .returned (.map (some b))∧w.heap.size≤b∧OwnM w' b l.length D∧ChD D l∧Below w.heap.size w w':=by
 obtain⟨ao,n,cap,rfl,Hn,bg⟩:=h.shape
 obtain⟨ae,ne,ce,rfl⟩:=bq
 obtain⟨s,rfl⟩:=bn
 have bw:=@run_makeMap Tryz.prog
 have hn:n≤140737488355328:=by rw[Hn.out];exact hl
 obtain⟨W2,aj⟩:∃ W2,Hid (W2=w.alloc (.cells #[.string (S s),.slice ao n cap,.slice ae ne ce] 38)):=⟨_,rfl⟩
 have hb2:Below w.heap.size w W2:=by rw[aj.out];exact(Below.refl _ _).alloc (Nat.le_refl _) _
 have hz2:W2.heap.size=w.heap.size+1:=by rw[aj.out];simp
 obtain⟨B,HB⟩:∃ B,Hid (B=w.heap.size+1):=⟨_,rfl⟩
 have bt:B≤w.heap.size+1:=Nat.le_of_eq HB.out
 have bu:w.heap.size+1≤B:=Nat.le_of_eq HB.out.symm
 have ba:OwnM (W2.alloc (.map #[] 0)) B 0 (.map []):=by
  have:=World.ownsMap_made W2 Tryz.prog 3 (plainElem (H:=Unit) Tryz.prog 3)
  rw[hz2,←HB.out] at this
  exact this
 have hb3:Below B W2 (W2.alloc (.map #[] 0)):=(Below.refl _ _).alloc (by omega) _
 obtain⟨W3,aw⟩:∃ W3,Hid (W3=W2.alloc (.map #[] 0)):=⟨_,rfl⟩
 rw[←aw.out] at ba hb3
 have bc:∀ V,Below B W2 V→Below w.heap.size w V:=fun V hV=>hb2.trans (hV.mono (by omega))
 have br:=Nat.le_of_eq hz2
 clear hz2
 go_enter Tryz.func143,Tryz.ntmps143
 go_wp2_with fail
 rw[←aj.out,←aw.out,←HB.out]
 go_loopg [12] n (fun gm i wr=>∃ (k:Nat) (D:DataW Unit),k+gm=n∧i = .int .i64 k∧OwnM wr B k D∧ChD D (l.take k)∧Below B W2 wr)
 case atStart=>exact⟨0,.map [],by omega,rfl,ba,by rw[List.take_zero];exact ChD.nil,hb3⟩
 case round=>
  obtain⟨k,D,hk,rfl,hown,hch,hbr⟩:=hrel
  by_cases hlt:k<n
  ·obtain⟨a,Ha⟩:∃ a,Hid (l[k]?=some a):=⟨l[k]'(by rw[←Hn.out];exact hlt),List.getElem?_eq_getElem (by rw[←Hn.out];exact hlt)⟩
   obtain⟨b,off,rfl,hat⟩:=(h.below FAt.stays (bc wr hbr)).get FAt.plain Ha.out
   obtain⟨s0,s1,s2,s3,s4,s5⟩:=hat.at
   have bv:(k:Int)<(n:Int):=by omega
   obtain⟨i1,i2⟩:=bp a (List.mem_of_getElem? Ha.out)
   have hkey:keyOf Tryz.prog 3 (.int .i64 a.number)=some (.int .i64 a.number):=keyOf_int_mk Tryz.underlying3 (WalkArith.wf_i64 i1)
   have hval:plainElem (H:=Unit) Tryz.prog 3 (.int .i64 a.choice)=some (.lit (.int .i64 a.choice),[]):=plainElem_int Tryz.underlying3 (WalkArith.wf_i64 i2)
   obtain⟨Wm,ag⟩:∃ Wm,Hid (Wm=wr.alloc (.cells #[.string (S a.name),.int .i64 a.number,.int .i64 a.kind,.string (S a.type),.bool a.many,.int .i64 a.choice] 40)):=⟨_,rfl⟩
   have au:Below wr.heap.size wr Wm:=by rw[ag.out];exact(Below.refl _ _).alloc (Nat.le_refl _) _
   have cg:=hown.lt
   have ah:Below B W2 Wm:=hbr.trans (au.mono (by omega))
   have ac:=hown.below au
   have bk:=ac.isMap
   obtain⟨v,ps,hrun,hv⟩:=ac.look_ok C7z Tryz.underlying206 (D8c _) (plainElem_int Tryz.underlying3 (WalkArith.wf_i64 (by omega))) hkey
   obtain⟨c,rfl,_,_⟩:=plainElem_int_inv Tryz.underlying3 hv
   rw[(hch a.number).2] at hrun
   cases hq:(l.take k).any (fun f=>decide (f.number=a.number)) with
   | true=>
    have HX:ChD D (l.take (k+1)):=by rw[A0z Ha.out];exact hch.skip hq
    rw[hq,ag.out] at hrun
    clear hq hat hch hv hown
    go_wp2_with fail
    rw[←ag.out]
    go_roundg (n-(k+1))
    case measure=>omega
    case rel=>exact⟨k+1,D,by omega,by go_num,ac.mono (by omega),HX,ah⟩
   | false=>
    have HX:ChD (D.put (.int .i64 a.number) (.lit (.int .i64 a.choice))) (l.take (k+1)):=by rw[A0z Ha.out];exact hch.put bk hq
    rw[hq,ag.out] at hrun
    clear hq hat hch hv hown
    rw[ag.out] at ac
    go_wp2_with (at_mapUpdate;refine wpList_mapUpdate_own _ rfl _ _ _ 206 rfl 3 3 C7z Tryz.underlying206 _ B k _ rfl ac (by unfold maxLen;omega) _ _ _ rfl rfl hkey _ [] hval ?_)
    intro w1 hown1 hg1
    rw[←ag.out] at hg1
    have ak:Below B W2 w1:=ah.grown hg1 (by have:=au.size;omega) (fun j hj=>by cases hj;exact Nat.le_refl _)
    clear hrun ac
    go_wp2_with fail
    go_roundg (n-(k+1))
    case measure=>omega
    case rel=>exact⟨k+1,_,by omega,by go_num,hown1,HX,ak⟩
  ·have HT:Hid (l.take k=l):=List.take_of_length_le (by rw[←Hn.out];omega)
   have bh:Hid (k=l.length):=(show k=l.length by rw[←Hn.out];omega)
   go_wp2
   go_ret
   exact⟨B,D,rfl,by omega,by rw[←bh.out];exact hown,by rw[HT.out] at hch;exact hch,bc _ hbr⟩
def C4d (n:Nat):Bool:=decide (n<2147483648)||decide (18446744071562067968≤n)
def A2h (kind:Int)(n:Nat):Int:=
 if kind=1∨kind=2∨kind=3∨kind=6 then 0
 else if kind=4 then(if n≤1 then 0 else 3)
 else if kind=5 then(if C4d n then 0 else 3)
 else if kind=7 then(if n≤4294967295 then 0 else 3)
 else 1
theorem C7h (n:Nat)(hn:n<18446744073709551616):(IntKind.u64.wrap (wrap32 (n:Int))==(n:Int))=C4d n:=by
 have e:IntKind.u64.wrap (wrap32 (n:Int))=wrap32 (n:Int)%18446744073709551616:=by simp[IntKind.wrap,IntKind.bits,IntKind.signed]
 rw[e,Bool.eq_iff_iff]
 unfold wrap32 C4d
 simp
 omega
theorem D1t {w:World}(kind:Int)(n:Nat)(hn:n<18446744073709551616) :
  Calls Tryz.prog 129 #[.int .i64 kind,.int .u64 (n:Int)] w fun e w'=>e = .returned (.int .i64 (A2h kind n))∧w=w':=by
 have hw:=C7h n hn
 by_cases h5:kind=5
 ·subst h5
  cases hq:C4d n with
  | true=>
   have HR:Hid (A2h 5 n=0):=by show _=_;unfold A2h;simp[hq]
   rw[hq] at hw
   clear hq
   go_enter Tryz.func129,Tryz.ntmps129
   go_wp2
   go_ret
   exact⟨by rw[HR.out];rfl,rfl⟩
  | false=>
   have HR:Hid (A2h 5 n=3):=by show _=_;unfold A2h;simp[hq]
   rw[hq] at hw
   clear hq
   go_enter Tryz.func129,Tryz.ntmps129
   go_wp2
   go_ret
   exact⟨by rw[HR.out];rfl,rfl⟩
 clear hw
 by_cases h4:kind=4
 ·subst h4
  by_cases hq:n≤1
  ·have HR:Hid (A2h 4 n=0):=by show _=_;unfold A2h;simp[hq]
   have hq':decide ((n:Int)≤1)=true:=by simp;omega
   clear hq
   go_enter Tryz.func129,Tryz.ntmps129
   go_wp2
   go_ret
   exact⟨by rw[HR.out];rfl,rfl⟩
  ·have HR:Hid (A2h 4 n=3):=by show _=_;unfold A2h;simp[hq]
   have hq':decide ((n:Int)≤1)=false:=by simp;omega
   clear hq
   go_enter Tryz.func129,Tryz.ntmps129
   go_wp2
   go_ret
   exact⟨by rw[HR.out];rfl,rfl⟩
 by_cases h7:kind=7
 ·subst h7
  by_cases hq:n≤4294967295
  ·have HR:Hid (A2h 7 n=0):=by show _=_;unfold A2h;simp[hq]
   have hq':decide ((n:Int)≤4294967295)=true:=by simp;omega
   clear hq
   go_enter Tryz.func129,Tryz.ntmps129
   go_wp2
   go_ret
   exact⟨by rw[HR.out];rfl,rfl⟩
  ·have HR:Hid (A2h 7 n=3):=by show _=_;unfold A2h;simp[hq]
   have hq':decide ((n:Int)≤4294967295)=false:=by simp;omega
   clear hq
   go_enter Tryz.func129,Tryz.ntmps129
   go_wp2
   go_ret
   exact⟨by rw[HR.out];rfl,rfl⟩
 by_cases h0:kind=1∨kind=2∨kind=3∨kind=6
 ·have HR:Hid (A2h kind n=0):=by show _=_;unfold A2h;rw[if_pos h0]
  clear h5 h4 h7
  rcases h0 with rfl|rfl|rfl|rfl
  all_goals
   go_enter Tryz.func129,Tryz.ntmps129
   go_wp2
   go_ret
   exact⟨by rw[HR.out];rfl,rfl⟩
 ·have HR:Hid (A2h kind n=1):=by show _=_;unfold A2h;rw[if_neg h0,if_neg h4,if_neg h5,if_neg h7]
  have e1:(kind==1)=false:=by simp;omega
  have e2:(kind==2)=false:=by simp;omega
  have e3:(kind==3)=false:=by simp;omega
  have e4:(kind==4)=false:=by simpa using h4
  have e5:(kind==5)=false:=by simpa using h5
  have e6:(kind==6)=false:=by simp;omega
  have e7:(kind==7)=false:=by simpa using h7
  clear h0 h4 h5 h7
  go_enter Tryz.func129,Tryz.ntmps129
  go_wp2
  go_ret
  exact⟨by rw[HR.out];rfl,rfl⟩
def A1i {β:Type}(v:VI β):Nat:=v.bits.length+v.bytes.length+v.subs.length
def A0v {β:Type}(x:FI)(v:VI β):Bool:=
 if x.kind=8∨x.kind=9 then decide (0<v.bits.length+v.subs.length)
 else if x.kind=10 then decide (0<v.bits.length+v.bytes.length)
 else decide (0<v.bytes.length+v.subs.length)
def A3p {β:Type}(x:FI)(v:VI β):Bool:=decide (A1i v<1)||(decide (60<A1i v)||(decide (1<A1i v)&&!x.many))
end L
end Go.Proofs.YtgaoojpakjjdnaaGreatDoor
