import Derived.Test.YtgaoojpakjjdnaaGreatDoorX05
import Derived.Test.YtgaoojpakjjdnaaGreatDoorX02
import Derived.ProofKit
import Derived.OpenShut
import Derived.Deep.Slices
import Derived.SizedLaws
set_option maxHeartbeats 32000000
set_option maxRecDepth 100000
namespace Go.Proofs.YtgaoojpakjjdnaaGreatDoor
namespace L
open Go.RowKit
def A6h (g:GI):Nat→List MI→Option (Int×Nat)
 | _,[]=>none
 | i,m::r=>if A3j g m≠0 then some (A3j g m,i) else A6h g (i+1) r
def A5c:Nat→List EI→Option (Int×Nat)
 | _,[]=>none
 | i,e::r=>if A6z e≠0 then some (A6z e,i) else A5c (i+1) r
def wrongL (g:GI):Int×Nat:=
 if 10<g.msgs.length+g.enums.length then(5,0)
 else if (A0j B7d [7] 0 (A8o g) []).1≠0 then A0j B7d [7] 0 (A8o g) []
 else match A6h g 0 g.msgs with
  | some q=>q
  | none=>match A5c 0 g.enums with
   | some q=>(q.1,g.msgs.length+q.2)
   | none=>(0,0)
def Fits (g:GI):Prop:=(∀ m∈g.msgs,m.name.length≤9223372036854775807∧∀ f∈m.fields,f.name.length≤9223372036854775807)∧∀ e∈g.enums,e.name.length≤9223372036854775807∧∀ i∈e.items,i.name.length≤9223372036854775807
theorem Fits.names {g:GI}(h:Fits g):∀ s∈A8o g,s.length≤9223372036854775807:=by
 intro s hs
 rcases List.mem_append.1 hs with hs|hs
 ·obtain⟨m,hm,rfl⟩:=List.mem_map.1 hs;exact(h.1 m hm).1
 ·obtain⟨m,hm,rfl⟩:=List.mem_map.1 hs;exact(h.2 m hm).1
theorem C9v {g:GI}{l:List MI}{k:Nat}{m:MI}(h:l[k]?=some m):A6h g k (l.drop k)=if A3j g m≠0 then some (A3j g m,k) else A6h g (k+1) (l.drop (k+1)):=by
 obtain⟨hk,e⟩:=List.getElem?_eq_some_iff.1 h
 rw[List.drop_eq_getElem_cons hk,e,A6h]
theorem C5h {l:List EI}{k:Nat}{m:EI}(h:l[k]?=some m):A5c k (l.drop k)=if A6z m≠0 then some (A6z m,k) else A5c (k+1) (l.drop (k+1)):=by
 obtain⟨hk,e⟩:=List.getElem?_eq_some_iff.1 h
 rw[List.drop_eq_getElem_cons hk,e,A5c]
theorem D9w {w x:World}(h:Below w.heap.size w x)(a b:Value):Below w.heap.size w ((x.setCell ⟨w.heap.size+1,0,none⟩ a).setCell ⟨w.heap.size+1,1,none⟩ b):=
 (h.setCell (p:=⟨w.heap.size+1,0,none⟩) (show w.heap.size≤w.heap.size+1 by omega) a).setCell (p:=⟨w.heap.size+1,1,none⟩) (show w.heap.size≤w.heap.size+1 by omega) b
theorem A9d {w:World}{vm ve:Value}{g:GI}(hg:GRd w vm ve g)(dz:g.msgs.length≤140737488355328)(ee:g.enums.length≤140737488355328)(hf:Fits g) :
  Calls Tryz.prog 20 #[.agg #[vm,ve]] w fun e w'=>e = .returned (.agg #[.int .i64 (wrongL g).1,.int .i64 (((wrongL g).2:Nat):Int)])∧Below w.heap.size w w':=by
 obtain⟨a1,n1,c1,rfl,H1,_⟩:=hg.1.shape
 obtain⟨a2,n2,c2,rfl,H2,_⟩:=hg.2.shape
 obtain⟨W2,bh⟩:∃ W2,Hid (W2=(w.alloc (.cells #[.slice a1 n1 c1,.slice a2 n2 c2] 25)).alloc (.cells #[.int .i64 0,.int .i64 0] 50)):=⟨_,rfl⟩
 have hb2:Below w.heap.size w W2:=by rw[bh.out];exact((Below.refl _ _).alloc (Nat.le_refl _) _).alloc (by simp) _
 have hx1:W2.heap[w.heap.size]?=some (.cells #[.slice a1 n1 c1,.slice a2 n2 c2] 25 (0,0)):=by rw[bh.out];exact A0l _ _ _
 have hx2:W2.heap[w.heap.size+1]?=some (.cells #[.int .i64 0,.int .i64 0] 50 (0,0)):=by rw[bh.out];exact A0i _ _ _
 have hz2:W2.heap.size=w.heap.size+2:=by rw[bh.out];simp
 have bp:=B2i (w:=W2) (a1:=a1) (a2:=a2) (c1:=c1) (c2:=c2) (show n1≤140737488355328 by rw[H1.out];exact dz) (show n2≤140737488355328 by rw[H2.out];exact ee)
 have ac:∀ W,Below (w.heap.size+2) W2 W→W.heap[w.heap.size]?=some (.cells #[.slice a1 n1 c1,.slice a2 n2 c2] 25 (0,0))∧W.heap[w.heap.size+1]?=some (.cells #[.int .i64 0,.int .i64 0] 50 (0,0))∧Below w.heap.size w W:=fun W hW=>⟨(hW.block _ (by omega)).trans hx1,(hW.block _ (by omega)).trans hx2,hb2.trans (hW.mono (by omega))⟩
 by_cases hbig:10<n1+n2
 ·have HE:Hid (wrongL g=(5,0)):=by show _=_;rw[wrongL,if_pos (by rw[←H1.out,←H2.out];exact hbig)]
  rw[show decide (10<n1+n2)=true by simp;omega] at bp
  go_enter Tryz.func20,Tryz.ntmps20
  go_wp2_with fail
  rw[←bh.out]
  refine bp.mono ?_
  rintro e w1 ⟨rfl,hb1⟩
  obtain⟨_,y2,aj⟩:=ac w1 (hb1.mono (by omega))
  obtain⟨z0,z1⟩:=A0r y2
  have f0:=A0b y2 0
  have f1:=A0b y2 1
  clear ac bp
  go_wp2
  refine bodyPost_ret (v:=.agg #[.int .i64 5,.int .i64 0]) (by simp[results,Tryz.results20,go_sem, *]) rfl ?_
  exact⟨by rw[HE.out];rfl,D9w aj _ _⟩
 ·have hno:¬ 10<g.msgs.length+g.enums.length:=by rw[←H1.out,←H2.out];exact hbig
  rw[show decide (10<n1+n2)=false by simp;omega] at bp
  have d9:n1≤10:=by omega
  have eh:n2≤10:=by omega
  go_enter Tryz.func20,Tryz.ntmps20
  go_wp2_with fail
  rw[←bh.out]
  refine bp.mono ?_
  rintro e w1 ⟨rfl,hb1⟩
  have bt:Below (w.heap.size+2) W2 w1:=hb1.mono (by omega)
  obtain⟨y1,y2,aj⟩:=ac w1 bt
  obtain⟨u0,u1⟩:=A0r y1
  have dl:=C9w (hg.below aj) (by rw[←H1.out];omega) (by rw[←H2.out];omega)
  clear bp
  go_wp2_with fail
  refine dl.mono ?_
  rintro e w3 ⟨an,nn,cn,rfl,dt,hb3⟩
  have bu:Below (w.heap.size+2) W2 w3:=bt.trans (hb3.mono (by have:=bt.size;omega))
  have dm:=B6s w3
  have di:=B8y dt (by simp[A8o];rw[←H1.out,←H2.out];omega) hf.names
  clear u0 u1 y1 y2 dl
  go_wp2_with fail
  refine dm.mono ?_
  rintro e w4 ⟨rfl,hw4⟩
  go_wp2_with fail
  rw[←hw4]
  refine di.mono ?_
  rintro e w5 ⟨rfl,dg⟩
  have bv:Below (w.heap.size+2) W2 w5:=bu.trans (dg.mono (by have:=bu.size;omega))
  generalize hp:A0j B7d [7] 0 (A8o g) []=p
  obtain⟨pe,pi⟩:=p
  have HP:Hid (A0j B7d [7] 0 (A8o g) []=(pe,pi)):=hp
  clear hp di dm hw4
  obtain⟨W6,bk⟩:∃ W6,Hid (W6=w5.alloc (.cells #[.int .i64 pe,.int .i64 (pi:Int)] 50)):=⟨_,rfl⟩
  have dh:Below w5.heap.size w5 W6:=by rw[bk.out];exact(Below.refl _ _).alloc (Nat.le_refl _) _
  have dv:W6.heap[w5.heap.size]?=some (.cells #[.int .i64 pe,.int .i64 (pi:Int)] 50 (0,0)):=by rw[bk.out];exact heap_alloc_new _ _
  have bw:Below (w.heap.size+2) W2 W6:=bv.trans (dh.mono (by have:=bv.size;omega))
  obtain⟨y1,y2,br⟩:=ac W6 bw
  by_cases hpe:pe=0
  ·have dx:Hid ((A0j B7d [7] 0 (A8o g) []).1=0):=by show _=_;rw[HP.out];exact hpe
   have ei:(pe != 0)=false:=by simp[hpe]
   have HE:Hid (wrongL g=match A6h g 0 (g.msgs.drop 0) with|some q=>q|none=>match A5c 0 g.enums with|some q=>(q.1,g.msgs.length+q.2)|none=>(0,0)):=by
    show _=_;rw[wrongL,if_neg hno,if_neg (by rw[dx.out];simp)];rfl
   obtain⟨u0,u1⟩:=A0r y1
   rw[bk.out] at u0 u1
   clear hpe HP y1 y2
   go_wp2_with fail
   rw[←bk.out]
   go_loopg [24] n1 (fun m i wr=>∃ k:Nat,k+m=n1∧i = .int .i64 k∧Hid (wrongL g=match A6h g k (g.msgs.drop k) with|some q=>q|none=>match A5c 0 g.enums with|some q=>(q.1,g.msgs.length+q.2)|none=>(0,0))∧Below (w.heap.size+2) W2 wr)
   case atStart=>exact⟨0,by omega,rfl,HE,bw⟩
   case round=>
    clear u0 u1 HE bw dh dv br bv dg bu hb3 bt hb1 dt aj
    obtain⟨k,hk,rfl,HK,ah⟩:=hrel
    obtain⟨y1,y2,aj⟩:=ac wr ah
    obtain⟨u0,u1⟩:=A0r y1
    obtain⟨z0,z1⟩:=A0r y2
    have f0:=A0b y2 0
    have f1:=A0b y2 1
    have bq:w.heap.size+2≤wr.heap.size:=by have:=ah.size;omega
    by_cases hlt:k<n1
    ·obtain⟨a,Ha⟩:∃ a,Hid (g.msgs[k]?=some a):=⟨g.msgs[k]'(by rw[←H1.out];exact hlt),List.getElem?_eq_getElem (by rw[←H1.out];exact hlt)⟩
     obtain⟨b,off,rfl,hat⟩:=(hg.below aj).1.get MAt.plain Ha.out
     obtain⟨vf,vb,s0,s1,s2,dp,dn⟩:=hat.at
     obtain⟨af,nf,cf,rfl,_,_⟩:=dp.shape
     obtain⟨ab,nb,cb,rfl,_,_⟩:=dn.shape
     have dy:(k:Int)<(n1:Int):=by omega
     have au:=(Below.refl wr.heap.size wr).alloc (Nat.le_refl _) (.cells #[.string (S a.name),.slice af nf cf,.slice ab nb cb] 38)
     have ej:=(au.block w.heap.size (by omega)).trans y1
     obtain⟨u2,u3⟩:=A0r ej
     have cw:=B1m a ((hg.below aj).below au) (dp.below FAt.stays au) (dn.below NAt.stays au) (hf.1 a (A3z Ha.out)).2
     obtain⟨q,HQ⟩:∃ q,Hid (q=A3j g a):=⟨_,rfl⟩
     have ag:=HK.out
     rw[C9v Ha.out,←HQ.out] at ag
     rw[←HQ.out] at cw
     clear hat HK
     by_cases hq:q=0
     ·have aw:Hid (wrongL g=match A6h g (k+1) (g.msgs.drop (k+1)) with|some q=>q|none=>match A5c 0 g.enums with|some q=>(q.1,g.msgs.length+q.2)|none=>(0,0)):=by
       show _=_;rw[ag,if_neg (by simp[hq])]
      have cj:(q != 0)=false:=by simp[hq]
      clear ag hq ac
      go_wp2_with fail
      refine cw.mono ?_
      rintro e w7 ⟨rfl,a8⟩
      go_wp2_with fail
      go_roundg (n1-(k+1))
      case measure=>omega
      case rel=>exact⟨k+1,by omega,by go_num,aw,(ah.trans (au.mono bq)).trans (a8.mono (by simp;omega))⟩
     ·have aw:Hid (wrongL g=(q,k)):=by show _=_;rw[ag,if_pos hq]
      have cj:(q != 0)=true:=by simp[hq]
      have ak:=ac
      clear ag hq ac
      go_wp2_with fail
      refine cw.mono ?_
      rintro e w7 ⟨rfl,a8⟩
      have cg:Below (w.heap.size+2) W2 w7:=(ah.trans (au.mono bq)).trans (a8.mono (by simp;omega))
      obtain⟨_,y3,bg⟩:=ak w7 cg
      obtain⟨z3,z4⟩:=A0r y3
      have f3:=A0b y3 0
      have f4:=A0b y3 1
      clear ak z0 z1 f0 f1
      go_wp2
      refine bodyPost_ret (v:=.agg #[.int .i64 q,.int .i64 (k:Int)]) (by simp[results,Tryz.results20,go_sem, *]) rfl ?_
      exact⟨by rw[aw.out],D9w bg _ _⟩
    ·have df:Hid (wrongL g=match A5c 0 (g.enums.drop 0) with|some q=>(q.1,g.msgs.length+q.2)|none=>(0,0)):=by
      have e:g.msgs.drop k = []:=List.drop_eq_nil_of_le (by rw[←H1.out];omega)
      show _=_;rw[HK.out,e];rfl
     clear HK
     go_wp2_with fail
     go_loopg [41] n2 (fun m i wr=>∃ k:Nat,k+m=n2∧i = .int .i64 k∧Hid (wrongL g=match A5c k (g.enums.drop k) with|some q=>(q.1,g.msgs.length+q.2)|none=>(0,0))∧Below (w.heap.size+2) W2 wr)
     case atStart=>exact⟨0,by omega,rfl,df,ah⟩
     case round=>
      clear u0 u1 z0 z1 f0 f1 y1 y2 aj ah df bq
      obtain⟨k2,hk2,rfl,HK,ah⟩:=hrel
      obtain⟨y1,y2,aj⟩:=ac wr ah
      obtain⟨u0,u1⟩:=A0r y1
      obtain⟨z0,z1⟩:=A0r y2
      have f0:=A0b y2 0
      have f1:=A0b y2 1
      have bq:w.heap.size+2≤wr.heap.size:=by have:=ah.size;omega
      by_cases hlt2:k2<n2
      ·obtain⟨a,Ha⟩:∃ a,Hid (g.enums[k2]?=some a):=⟨g.enums[k2]'(by rw[←H2.out];exact hlt2),List.getElem?_eq_getElem (by rw[←H2.out];exact hlt2)⟩
       obtain⟨b,off,rfl,hat⟩:=(hg.below aj).2.get EAt.plain Ha.out
       obtain⟨vi,s0,s1,dr⟩:=hat.at
       obtain⟨ai,ni,ci,rfl,_,_⟩:=dr.shape
       have dy:(k2:Int)<(n2:Int):=by omega
       have au:=(Below.refl wr.heap.size wr).alloc (Nat.le_refl _) (.cells #[.string (S a.name),.slice ai ni ci] 100)
       have cu:=B7m a (dr.below TAt.stays au) (hf.2 a (A3z Ha.out)).2
       obtain⟨q,HQ⟩:∃ q,Hid (q=A6z a):=⟨_,rfl⟩
       have ag:=HK.out
       rw[C5h Ha.out,←HQ.out] at ag
       rw[←HQ.out] at cu
       clear hat HK
       by_cases hq:q=0
       ·have aw:Hid (wrongL g=match A5c (k2+1) (g.enums.drop (k2+1)) with|some q=>(q.1,g.msgs.length+q.2)|none=>(0,0)):=by
         show _=_;rw[ag,if_neg (by simp[hq])]
        have cj:(q != 0)=false:=by simp[hq]
        clear ag hq ac
        go_wp2_with fail
        refine cu.mono ?_
        rintro e w7 ⟨rfl,a8⟩
        go_wp2_with fail
        go_roundg (n2-(k2+1))
        case measure=>omega
        case rel=>exact⟨k2+1,by omega,by go_num,aw,(ah.trans (au.mono bq)).trans (a8.mono (by simp;omega))⟩
       ·have aw:Hid (wrongL g=(q,n1+k2)):=by show _=_;rw[ag,if_pos hq,H1.out]
        have cj:(q != 0)=true:=by simp[hq]
        have ak:=ac
        clear ag hq ac
        go_wp2_with fail
        refine cu.mono ?_
        rintro e w7 ⟨rfl,a8⟩
        have cg:Below (w.heap.size+2) W2 w7:=(ah.trans (au.mono bq)).trans (a8.mono (by simp;omega))
        obtain⟨y4,y3,bg⟩:=ak w7 cg
        obtain⟨z3,z4⟩:=A0r y3
        obtain⟨z5,z6⟩:=A0r y4
        have f3:=A0b y3 0
        have f4:=A0b y3 1
        clear ak z0 z1 f0 f1 u0 u1
        go_wp2
        refine bodyPost_ret (v:=.agg #[.int .i64 q,.int .i64 ((n1:Int)+(k2:Int))]) (by simp[results,Tryz.results20,go_sem, *]) rfl ?_
        exact⟨by rw[aw.out];simp,D9w bg _ _⟩
      ·have dw:Hid (wrongL g=(0,0)):=by
        have e:g.enums.drop k2 = []:=List.drop_eq_nil_of_le (by rw[←H2.out];omega)
        show _=_;rw[HK.out,e];rfl
       clear HK ac
       go_wp2
       refine bodyPost_ret (v:=.agg #[.int .i64 0,.int .i64 0]) (by simp[results,Tryz.results20,go_sem, *]) rfl ?_
       exact⟨by rw[dw.out];rfl,D9w aj _ _⟩
  ·have HE:Hid (wrongL g=(pe,pi)):=by show _=_;rw[wrongL,if_neg hno,if_pos (by rw[HP.out];exact hpe),HP.out]
   have ei:(pe != 0)=true:=by simp[hpe]
   obtain⟨z0,z1⟩:=A0r y2
   obtain⟨z2,z3⟩:=A0r dv
   have f0:=A0b y2 0
   have f1:=A0b y2 1
   rw[bk.out] at z0 z1 z2 z3 f0 f1
   clear hpe HP ac
   go_wp2
   refine bodyPost_ret (v:=.agg #[.int .i64 pe,.int .i64 (pi:Int)]) (by simp[results,Tryz.results20,go_sem, *]) rfl ?_
   exact⟨by rw[HE.out],by rw[←bk.out];exact D9w br _ _⟩
open Go.ChangeShapes Go.WideShapes Go.ChangeAt Go.RowKit
section
variable {H:Type}{enc:TypeId×Value→H}{w:World}{base:Nat}{spare:Nat→Bool}{held:Bool}
def Sz (t:TypeId)(d:DataW H):Prop:=∀ n∈d.weights Tryz.prog t,n≤reachBytes
theorem C7t {e:TypeId}:∀ {l:List (DataW H)}{d:DataW H},d∈l→∀ n∈d.weights Tryz.prog e,n∈DataW.weightsAll Tryz.prog e l
 | [],_,h,_,_=>by simp at h
 | x::l,d,h,n,hn=>by
  simp only[DataW.weightsAll,List.mem_append]
  rcases List.mem_cons.1 h with rfl|h
  ·exact .inl hn
  ·exact .inr (C7t h n hn)
theorem A6u {fuel:Nat}{c:Value}{x:DataW H×List MemPlace}(h:DataW.trod enc Tryz.prog w base spare held fuel 3 [c]=some x):∃ n:Int,c = .int .i64 n∧I64 n:=by
 obtain⟨n,h1,_,h2⟩:=DataW.trod_int Tryz.underlying3 h
 simp at h1
 exact⟨n,h1,by have:=bounds_i64 h2;unfold I64;omega⟩
theorem B0s {t:TypeId}{fs:Array Field}{xs:List (DataW H×List MemPlace)}(ht:Tryz.prog.underlying t=some (.struct fs))(h:Sz t (.agg (xs.map (·.1)))){i:Nat}{f:Field}{y:DataW H×List MemPlace}(hf:fs[i]?=some f)(hy:xs[i]?=some y):Sz f.type y.1:=by
 intro n hn
 refine h n ?_
 rw[DataW.weights,ht]
 refine DataW.weights_mem_each (j:=i) ?_ ?_ n hn
 ·rw[List.getElem?_map,Array.getElem?_toList,hf];rfl
 ·rw[List.getElem?_map,hy];rfl
def FOk (f:FI):Prop:=f.name.length≤maxLen∧f.type.length≤maxLen∧I64 f.number∧I64 f.kind∧I64 f.choice
def TOk (i:II):Prop:=i.name.length≤maxLen∧I64 i.value
theorem D4z (fuel:Nat)(a:Addr)(cs:List Value)(d:DataW H)(pl:List MemPlace)(hc:w.cells? base a 1=some cs)(h:DataW.trod enc Tryz.prog w base spare held fuel 3 cs=some (d,pl))(_:Sz 3 d):∃ y,NAt w a y∧I64 y:=by
 obtain⟨_,hlen,hcell⟩:=World.cells?_some hc
 match cs,hlen with
 | [v0],_=>
  obtain⟨n1,rfl,z1⟩:=A6u h
  refine⟨n1,?_,z1⟩
  have:=hcell 0 (by omega)
  simpa [Addr.add,NAt] using this
def MOk (m:MI):Prop:=m.name.length≤maxLen∧(∀ f∈m.fields,FOk f)∧(∀ n∈m.barred,I64 n)∧m.fields.length*64≤reachBytes∧m.barred.length*8≤reachBytes
def EOk (e:EI):Prop:=e.name.length≤maxLen∧(∀ f∈e.items,TOk f)∧e.items.length*24≤reachBytes
def GOk (g:GI):Prop:=(∀ m∈g.msgs,MOk m)∧(∀ e∈g.enums,EOk e)∧g.msgs.length*64≤reachBytes∧g.enums.length*40≤reachBytes
theorem GOk.fits {g:GI}(h:GOk g):Fits g:=by
 have hm:maxLen≤9223372036854775807:=by unfold maxLen;omega
 exact⟨fun m ac=>⟨Nat.le_trans (h.1 m ac).1 hm,fun f hf=>Nat.le_trans ((h.1 m ac).2.1 f hf).1 hm⟩,fun e he=>⟨Nat.le_trans (h.2.1 e he).1 hm,fun i hi=>Nat.le_trans ((h.2.1 e he).2.1 i hi).1 hm⟩⟩
end
theorem E2b {w x:World}(h:Below w.heap.size w x)(a b c d e f:Value):Below w.heap.size w ((((((x.setCell ⟨w.heap.size+1,0,none⟩ a).setCell ⟨w.heap.size+1,1,none⟩ b).setCell ⟨w.heap.size+1,2,none⟩ c).setCell ⟨w.heap.size+1,3,none⟩ d).setCell ⟨w.heap.size+1,4,none⟩ e).setCell ⟨w.heap.size+1,5,none⟩ f):=by
 have k:∀ {y:World}(_:Below w.heap.size w y) (i:Nat) (v:Value),Below w.heap.size w (y.setCell ⟨w.heap.size+1,i,none⟩ v):=fun hy i v=>hy.setCell (p:=⟨w.heap.size+1,i,none⟩) (show w.heap.size≤w.heap.size+1 by omega) v
 exact k (k (k (k (k (k h 0 a) 1 b) 2 c) 3 d) 4 e) 5 f
def linkF (g:GI)(x:FI):FI:=if x.kind=10∧A0g (fun m=>decide (m.name=x.type)) g.msgs<0∧0≤A0g (fun m=>decide (m.name=x.type)) g.enums then⟨x.name,x.number,5,x.type,x.many,x.choice⟩ else x
theorem C5z {W:World}{p:Nat}{vm ve:Value}{g:GI}(hp:W.heap[p]?=some (.cells #[vm,ve] 25 (0,0)))(hg:GRd W vm ve g)(x:FI) :
  Calls Tryz.prog 53 #[fv x,.pointer (some ⟨p,0,none⟩)] W fun e W'=>e = .returned (fv (linkF g x))∧Below W.heap.size W W':=by
 obtain⟨a1,n1,c1,rfl,_,_⟩:=hg.1.shape
 obtain⟨a2,n2,c2,rfl,_,_⟩:=hg.2.shape
 obtain⟨W2,ag⟩:∃ W2,Hid (W2=(W.alloc (.cells #[.string (S x.name),.int .i64 x.number,.int .i64 x.kind,.string (S x.type),.bool x.many,.int .i64 x.choice] 40)).alloc (.cells #[.string ⟨#[]⟩,.int .i64 0,.int .i64 0,.string ⟨#[]⟩,.bool false,.int .i64 0] 40)):=⟨_,rfl⟩
 have hb2:Below W.heap.size W W2:=by rw[ag.out];exact((Below.refl _ _).alloc (Nat.le_refl _) _).alloc (by simp) _
 have ak:Below W.heap.size W ((W.alloc (.cells #[.string (S x.name),.int .i64 x.number,.int .i64 x.kind,.string (S x.type),.bool x.many,.int .i64 x.choice] 40)).alloc (.cells #[.string (S x.name),.int .i64 x.number,.int .i64 x.kind,.string (S x.type),.bool x.many,.int .i64 x.choice] 40)):=((Below.refl _ _).alloc (Nat.le_refl _) _).alloc (by simp) _
 have hpl:p<W.heap.size:=(Array.getElem?_eq_some_iff.1 hp).1
 have hx1:W2.heap[W.heap.size]?=some (.cells #[.string (S x.name),.int .i64 x.number,.int .i64 x.kind,.string (S x.type),.bool x.many,.int .i64 x.choice] 40 (0,0)):=by rw[ag.out];exact A0l _ _ _
 have hx2:W2.heap[W.heap.size+1]?=some (.cells #[.string ⟨#[]⟩,.int .i64 0,.int .i64 0,.string ⟨#[]⟩,.bool false,.int .i64 0] 40 (0,0)):=by rw[ag.out];exact A0i _ _ _
 have hz2:W2.heap.size=W.heap.size+2:=by rw[ag.out];simp
 have ah:∀ V,Below W2.heap.size W2 V→V.heap[W.heap.size]?=some (.cells #[.string (S x.name),.int .i64 x.number,.int .i64 x.kind,.string (S x.type),.bool x.many,.int .i64 x.choice] 40 (0,0))∧V.heap[W.heap.size+1]?=some (.cells #[.string ⟨#[]⟩,.int .i64 0,.int .i64 0,.string ⟨#[]⟩,.bool false,.int .i64 0] 40 (0,0))∧V.heap[p]?=some (.cells #[.slice a1 n1 c1,.slice a2 n2 c2] 25 (0,0))∧Below W.heap.size W V:=fun V hV=>⟨(hV.block _ (by omega)).trans hx1,(hV.block _ (by omega)).trans hx2,(hV.block _ (by omega)).trans ((hb2.block _ hpl).trans hp),hb2.trans (hV.mono (by omega))⟩
 unfold fv
 by_cases h10:x.kind=10
 ·have hk:(x.kind==10)=true:=by simp[h10]
  have aw:Hid (x.kind=10):=h10
  clear h10
  obtain⟨_,_,p2,_⟩:=ah W2 (Below.refl _ _)
  obtain⟨f0,f1⟩:=A0r p2
  rw[ag.out] at f0 f1
  have aj:=A2u (hg.below hb2).1 ⟨a2,n2,c2,rfl⟩ x.type
  obtain⟨r1,H1⟩:∃ r1,Hid (r1=A0g (fun m=>decide (m.name=x.type)) g.msgs):=⟨_,rfl⟩
  obtain⟨r2,H2⟩:∃ r2,Hid (r2=A0g (fun m=>decide (m.name=x.type)) g.enums):=⟨_,rfl⟩
  rw[←H1.out] at aj
  by_cases q1:r1<0
  ·go_enter Tryz.func53,Tryz.ntmps53
   go_wp2_with fail
   rw[←ag.out]
   refine aj.mono ?_
   rintro e w3 ⟨rfl,hb3⟩
   obtain⟨y1,y2,y3,au⟩:=ah w3 hb3
   obtain⟨x0,x1,x2,x3,x4,x5⟩:=B1g y1
   obtain⟨g0,g1⟩:=A0r y3
   have hen:=A9j (hg.below au).2 ⟨a1,n1,c1,rfl⟩ x.type
   rw[←H2.out] at hen
   clear f0 f1 aj
   go_wp2_with fail
   refine hen.mono ?_
   rintro e w4 ⟨rfl,hb4⟩
   have br:Below W2.heap.size W2 w4:=hb3.trans (hb4.mono hb3.size)
   obtain⟨y4,y5,_,ac⟩:=ah w4 br
   obtain⟨u0,u1,u2,u3,u4,u5⟩:=B1g y4
   obtain⟨v0,v1,v2,v3,v4,v5⟩:=B1g y5
   have e2:=A0b y4 2
   have e3:=A0b y5
   have a8:=e3 0
   have bg:=e3 1
   have bh:=e3 2
   have bk:=e3 3
   have bp:=e3 4
   have bq:=e3 5
   clear e3 x0 x1 x2 x3 x4 x5 g0 g1 hen ah
   by_cases q2:0≤r2
   ·have HL:Hid (linkF g x=⟨x.name,x.number,5,x.type,x.many,x.choice⟩):=by show _=_;rw[linkF,if_pos ⟨aw.out,by rw[←H1.out];exact q1,by rw[←H2.out];exact q2⟩]
    go_wp2
    refine bodyPost_ret (v:=.agg #[.string (S x.name),.int .i64 x.number,.int .i64 5,.string (S x.type),.bool x.many,.int .i64 x.choice]) (by simp[results,Tryz.results53,go_sem, *]) rfl ?_
    exact⟨by rw[HL.out],E2b (ac.setCell (p:=⟨W.heap.size,2,none⟩) (show W.heap.size≤W.heap.size from Nat.le_refl _) _) _ _ _ _ _ _⟩
   ·have HL:Hid (linkF g x=x):=by show _=_;rw[linkF,if_neg (fun h=>q2 (by rw[H2.out];exact h.2.2))]
    go_wp2
    refine bodyPost_ret (v:=.agg #[.string (S x.name),.int .i64 x.number,.int .i64 x.kind,.string (S x.type),.bool x.many,.int .i64 x.choice]) (by simp[results,Tryz.results53,go_sem, *]) rfl ?_
    exact⟨by rw[HL.out],E2b ac _ _ _ _ _ _⟩
  ·have HL:Hid (linkF g x=x):=by show _=_;rw[linkF,if_neg (fun h=>q1 (by rw[H1.out];exact h.2.1))]
   rw[HL.out]
   go_enter Tryz.func53,Tryz.ntmps53
   go_wp2_with fail
   rw[←ag.out]
   refine aj.mono ?_
   rintro e w3 ⟨rfl,hb3⟩
   obtain⟨y4,y5,_,ac⟩:=ah w3 hb3
   obtain⟨u0,u1,u2,u3,u4,u5⟩:=B1g y4
   obtain⟨v0,v1,v2,v3,v4,v5⟩:=B1g y5
   have e3:=A0b y5
   have a8:=e3 0
   have bg:=e3 1
   have bh:=e3 2
   have bk:=e3 3
   have bp:=e3 4
   have bq:=e3 5
   clear e3 f0 f1 aj ah
   go_wp2
   refine bodyPost_ret (v:=.agg #[.string (S x.name),.int .i64 x.number,.int .i64 x.kind,.string (S x.type),.bool x.many,.int .i64 x.choice]) (by simp[results,Tryz.results53,go_sem, *]) rfl ?_
   exact⟨rfl,E2b ac _ _ _ _ _ _⟩
 ·have HL:Hid (linkF g x=x):=by show _=_;rw[linkF,if_neg (fun h=>h10 h.1)]
  have hk:(x.kind==10)=false:=by simp[h10]
  clear h10 ah
  rw[HL.out]
  go_enter Tryz.func53,Tryz.ntmps53
  go_wp2
  refine bodyPost_ret (v:=.agg #[.string (S x.name),.int .i64 x.number,.int .i64 x.kind,.string (S x.type),.bool x.many,.int .i64 x.choice]) (by simp[results,Tryz.results53,go_sem, *]) rfl ?_
  exact⟨rfl,ak⟩
def E2m (f:FI):List Value:=[.string (S f.name),.int .i64 f.number,.int .i64 f.kind,.string (S f.type),.bool f.many,.int .i64 f.choice]
def ekF:EK FI where
 elem:=40
 slice:=36
 size:=6
 bytes:=64
 zero:=.agg #[.string ⟨#[]⟩,.int .i64 0,.int .i64 0,.string ⟨#[]⟩,.bool false,.int .i64 0]
 enc:=E2m
 under:=Tryz.underlying36
 info:=by kernel_rfl
 zs:=rfl
 pos:=by decide
 small:=by decide
 len:=fun _=>rfl
 one:=by intro a u hu;simp only[E2m,List.mem_cons,List.mem_nil_iff,or_false] at hu;rcases hu with rfl|rfl|rfl|rfl|rfl|rfl <;> rfl
def E0f (f:II):List Value:=[.string (S f.name),.int .i64 f.value]
def ekT:EK II where
 elem:=162
 slice:=98
 size:=2
 bytes:=24
 zero:=.agg #[.string ⟨#[]⟩,.int .i64 0]
 enc:=E0f
 under:=Tryz.underlying98
 info:=by kernel_rfl
 zs:=rfl
 pos:=by decide
 small:=by decide
 len:=fun _=>rfl
 one:=by intro a u hu;simp only[E0f,List.mem_cons,List.mem_nil_iff,or_false] at hu;rcases hu with rfl|rfl <;> rfl
abbrev LV:=Option Addr×Nat×Nat
def LV.v (p:LV):Value:=.slice p.1 p.2.1 p.2.2
def E2n (p:MI×LV×LV):List Value:=[.string (S p.1.name),p.2.1.v,p.2.2.v]
def ekM:EK (MI×LV×LV) where
 elem:=38
 slice:=22
 size:=3
 bytes:=64
 zero:=.agg #[.string ⟨#[]⟩,.slice none 0 0,.slice none 0 0]
 enc:=E2n
 under:=Tryz.underlying22
 info:=by kernel_rfl
 zs:=rfl
 pos:=by decide
 small:=by decide
 len:=fun _=>rfl
 one:=by intro a u hu;simp only[E2n,List.mem_cons,List.mem_nil_iff,or_false] at hu;rcases hu with rfl|rfl|rfl <;> rfl
def E2l (p:EI×LV):List Value:=[.string (S p.1.name),p.2.v]
def ekE:EK (EI×LV) where
 elem:=100
 slice:=23
 size:=2
 bytes:=40
 zero:=.agg #[.string ⟨#[]⟩,.slice none 0 0]
 enc:=E2l
 under:=Tryz.underlying23
 info:=by kernel_rfl
 zs:=rfl
 pos:=by decide
 small:=by decide
 len:=fun _=>rfl
 one:=by intro a u hu;simp only[E2l,List.mem_cons,List.mem_nil_iff,or_false] at hu;rcases hu with rfl|rfl <;> rfl
structure OwnG (w:World) (base:Nat) (vm ve:Value) (lm:List (MI×LV×LV)) (le:List (EI×LV)):Prop where
 rowm:Row ekM w base vm lm
 rowe:Row ekE w base ve le
 ms:∀ p∈lm,Row ekF w base p.2.1.v p.1.fields∧Row ekN w base p.2.2.v p.1.barred
 es:∀ p∈le,Row ekT w base p.2.v p.1.items
theorem Row.rdF {w:World}{base:Nat}{v:Value}{l:List FI}(h:Row ekF w base v l):RdL 6 FAt w v l:=h.rd FAt fun g i a hc=>by
 have h0:=hc 0 _ rfl
 refine⟨by simpa using h0,?_,?_,?_,?_,?_⟩
 ·rw[A0d];exact hc 1 _ rfl
 ·rw[A0d];exact hc 2 _ rfl
 ·rw[A0d];exact hc 3 _ rfl
 ·rw[A0d];exact hc 4 _ rfl
 ·rw[A0d];exact hc 5 _ rfl
theorem Row.rdT {w:World}{base:Nat}{v:Value}{l:List II}(h:Row ekT w base v l):RdL 2 TAt w v l:=h.rd TAt fun g i a hc=>by
 have h0:=hc 0 _ rfl
 refine⟨by simpa using h0,?_⟩
 rw[A0d];exact hc 1 _ rfl
theorem RdL.map {α β:Type}{sz:Nat}{P:World→Addr→α→Prop}{R:World→Addr→β→Prop}{w:World}{v:Value}{l:List α}(f : α→β)(h:RdL sz P w v l)(hf:∀ x a,a∈l→P w x a→R w x (f a)):RdL sz R w v (l.map f):=by
 obtain⟨ao,n,cap,e,h1,h2,h3,h4,h5⟩:=h
 refine⟨ao,n,cap,e,by simpa using h1,h2,h3,h4,fun x hx k b hb=>?_⟩
 rw[List.getElem?_map] at hb
 cases ha:l[k]? with
 | none=>rw[ha] at hb;simp at hb
 | some a=>
  rw[ha] at hb
  simp at hb
  subst hb
  exact hf _ a (List.mem_of_getElem? ha) (h5 x hx k a ha)
theorem OwnG.rd {w:World}{base:Nat}{vm ve:Value}{lm:List (MI×LV×LV)}{le:List (EI×LV)}(h:OwnG w base vm ve lm le):GRd w vm ve ⟨lm.map Prod.fst,le.map Prod.fst⟩:=by
 refine⟨?_,?_⟩
 ·refine RdL.map (P:=fun w x (p:MI×LV×LV)=>w.cell? x=some (.string (S p.1.name))∧w.cell? (x.add 1)=some p.2.1.v∧w.cell? (x.add 2)=some p.2.2.v) Prod.fst (h.rowm.rd _ fun g i a hc=>?_) ?_
  ·refine⟨by simpa using hc 0 _ rfl,?_,?_⟩
   ·rw[A0d];exact hc 1 _ rfl
   ·rw[A0d];exact hc 2 _ rfl
  ·rintro x p hp ⟨h0,h1,h2⟩
   exact⟨p.2.1.v,p.2.2.v,h0,h1,h2,(h.ms p hp).1.rdF,(h.ms p hp).2.rdN⟩
 ·refine RdL.map (P:=fun w x (p:EI×LV)=>w.cell? x=some (.string (S p.1.name))∧w.cell? (x.add 1)=some p.2.v) Prod.fst (h.rowe.rd _ fun g i a hc=>?_) ?_
  ·refine⟨by simpa using hc 0 _ rfl,?_⟩
   rw[A0d];exact hc 1 _ rfl
  ·rintro x p hp ⟨h0,h1⟩
   exact⟨p.2.v,h0,h1,(h.es p hp).rdT⟩
end L
end Go.Proofs.YtgaoojpakjjdnaaGreatDoor
