import Derived.Test.YtgaoojpakjjdnaaGreatDoorV05
import Derived.ProofKit
import Derived.OpenShut
import Derived.Deep.Slices
import Derived.SizedLaws
set_option maxHeartbeats 32000000
set_option maxRecDepth 100000
namespace Go.Proofs.YtgaoojpakjjdnaaGreatDoor
namespace L
open Go.RowKit
def A4g (g:GI):Nat→List MI→Option (Int×Nat)
 | _,[]=>none
 | i,m::r=>if A3s g m≠0 then some (A3s g m,i) else A4g g (i+1) r
def A3b:Nat→List EI→Option (Int×Nat)
 | _,[]=>none
 | i,e::r=>if A6r e≠0 then some (A6r e,i) else A3b (i+1) r
def wrongL (g:GI):Int×Nat:=
 if 10<g.msgs.length+g.enums.length then(5,0)
 else if (A0i B6w [7] 0 (A5y g) []).1≠0 then A0i B6w [7] 0 (A5y g) []
 else match A4g g 0 g.msgs with
  | some q=>q
  | none=>match A3b 0 g.enums with
   | some q=>(q.1,g.msgs.length+q.2)
   | none=>(0,0)
def Fits (g:GI):Prop:=(∀ m∈g.msgs,m.name.length≤9223372036854775807∧∀ f∈m.fields,f.name.length≤9223372036854775807)∧∀ e∈g.enums,e.name.length≤9223372036854775807∧∀ i∈e.items,i.name.length≤9223372036854775807
theorem Fits.names {g:GI}(h:Fits g):∀ s∈A5y g,s.length≤9223372036854775807:=by
 intro s hs
 rcases List.mem_append.1 hs with hs|hs
 ·obtain⟨m,hm,rfl⟩:=List.mem_map.1 hs;exact(h.1 m hm).1
 ·obtain⟨m,hm,rfl⟩:=List.mem_map.1 hs;exact(h.2 m hm).1
theorem C8i {g:GI}{l:List MI}{k:Nat}{m:MI}(h:l[k]?=some m):A4g g k (l.drop k)=if A3s g m≠0 then some (A3s g m,k) else A4g g (k+1) (l.drop (k+1)):=by
 obtain⟨hk,e⟩:=List.getElem?_eq_some_iff.1 h
 rw[List.drop_eq_getElem_cons hk,e,A4g]
theorem C4e {l:List EI}{k:Nat}{m:EI}(h:l[k]?=some m):A3b k (l.drop k)=if A6r m≠0 then some (A6r m,k) else A3b (k+1) (l.drop (k+1)):=by
 obtain⟨hk,e⟩:=List.getElem?_eq_some_iff.1 h
 rw[List.drop_eq_getElem_cons hk,e,A3b]
theorem D7a {w x:World}(h:Below w.heap.size w x)(a b:Value):Below w.heap.size w ((x.setCell ⟨w.heap.size+1,0,none⟩ a).setCell ⟨w.heap.size+1,1,none⟩ b):=
 (h.setCell (p:=⟨w.heap.size+1,0,none⟩) (show w.heap.size≤w.heap.size+1 by omega) a).setCell (p:=⟨w.heap.size+1,1,none⟩) (show w.heap.size≤w.heap.size+1 by omega) b
theorem B1z {w:World}{vm ve:Value}{g:GI}(hg:GRd w vm ve g)(dx:g.msgs.length≤140737488355328)(dz:g.enums.length≤140737488355328)(hf:Fits g) :
  Calls Tryz.prog 20 #[.agg #[vm,ve]] w fun e w'=>e = .returned (.agg #[.int .i64 (wrongL g).1,.int .i64 (((wrongL g).2:Nat):Int)])∧Below w.heap.size w w':=by
 obtain⟨a1,n1,c1,rfl,H1,_⟩:=hg.1.shape
 obtain⟨a2,n2,c2,rfl,H2,_⟩:=hg.2.shape
 obtain⟨W2,bg⟩:∃ W2,Hid (W2=(w.alloc (.cells #[.slice a1 n1 c1,.slice a2 n2 c2] 25)).alloc (.cells #[.int .i64 0,.int .i64 0] 50)):=⟨_,rfl⟩
 have hb2:Below w.heap.size w W2:=by rw[bg.out];exact((Below.refl _ _).alloc (Nat.le_refl _) _).alloc (by simp) _
 have hx1:W2.heap[w.heap.size]?=some (.cells #[.slice a1 n1 c1,.slice a2 n2 c2] 25 (0,0)):=by rw[bg.out];exact A0o _ _ _
 have hx2:W2.heap[w.heap.size+1]?=some (.cells #[.int .i64 0,.int .i64 0] 50 (0,0)):=by rw[bg.out];exact A0j _ _ _
 have hz2:W2.heap.size=w.heap.size+2:=by rw[bg.out];simp
 have bk:=B2j (w:=W2) (a1:=a1) (a2:=a2) (c1:=c1) (c2:=c2) (show n1≤140737488355328 by rw[H1.out];exact dx) (show n2≤140737488355328 by rw[H2.out];exact dz)
 have ac:∀ W,Below (w.heap.size+2) W2 W→W.heap[w.heap.size]?=some (.cells #[.slice a1 n1 c1,.slice a2 n2 c2] 25 (0,0))∧W.heap[w.heap.size+1]?=some (.cells #[.int .i64 0,.int .i64 0] 50 (0,0))∧Below w.heap.size w W:=fun W hW=>⟨(hW.block _ (by omega)).trans hx1,(hW.block _ (by omega)).trans hx2,hb2.trans (hW.mono (by omega))⟩
 by_cases hbig:10<n1+n2
 ·have HE:Hid (wrongL g=(5,0)):=by show _=_;rw[wrongL,if_pos (by rw[←H1.out,←H2.out];exact hbig)]
  rw[show decide (10<n1+n2)=true by simp;omega] at bk
  go_enter Tryz.func20,Tryz.ntmps20
  go_wp2_with fail
  rw[←bg.out]
  refine bk.mono ?_
  rintro e w1 ⟨rfl,hb1⟩
  obtain⟨_,y2,aj⟩:=ac w1 (hb1.mono (by omega))
  obtain⟨z0,z1⟩:=A0y y2
  have f0:=A0b y2 0
  have f1:=A0b y2 1
  clear ac bk
  go_wp2
  refine bodyPost_ret (v:=.agg #[.int .i64 5,.int .i64 0]) (by simp[results,Tryz.results20,go_sem, *]) rfl ?_
  exact⟨by rw[HE.out];rfl,D7a aj _ _⟩
 ·have hno:¬ 10<g.msgs.length+g.enums.length:=by rw[←H1.out,←H2.out];exact hbig
  rw[show decide (10<n1+n2)=false by simp;omega] at bk
  have dy:n1≤10:=by omega
  have d9:n2≤10:=by omega
  go_enter Tryz.func20,Tryz.ntmps20
  go_wp2_with fail
  rw[←bg.out]
  refine bk.mono ?_
  rintro e w1 ⟨rfl,hb1⟩
  have bq:Below (w.heap.size+2) W2 w1:=hb1.mono (by omega)
  obtain⟨y1,y2,aj⟩:=ac w1 bq
  obtain⟨u0,u1⟩:=A0y y1
  have dh:=C8j (hg.below aj) (by rw[←H1.out];omega) (by rw[←H2.out];omega)
  clear bk
  go_wp2_with fail
  refine dh.mono ?_
  rintro e w3 ⟨an,nn,cn,rfl,dp,hb3⟩
  have br:Below (w.heap.size+2) W2 w3:=bq.trans (hb3.mono (by have:=bq.size;omega))
  have di:=B6k w3
  have dg:=B8j dp (by simp[A5y];rw[←H1.out,←H2.out];omega) hf.names
  clear u0 u1 y1 y2 dh
  go_wp2_with fail
  refine di.mono ?_
  rintro e w4 ⟨rfl,hw4⟩
  go_wp2_with fail
  rw[←hw4]
  refine dg.mono ?_
  rintro e w5 ⟨rfl,cw⟩
  have bt:Below (w.heap.size+2) W2 w5:=br.trans (cw.mono (by have:=br.size;omega))
  generalize hp:A0i B6w [7] 0 (A5y g) []=p
  obtain⟨pe,pi⟩:=p
  have HP:Hid (A0i B6w [7] 0 (A5y g) []=(pe,pi)):=hp
  clear hp dg di hw4
  obtain⟨W6,bh⟩:∃ W6,Hid (W6=w5.alloc (.cells #[.int .i64 pe,.int .i64 (pi:Int)] 50)):=⟨_,rfl⟩
  have df:Below w5.heap.size w5 W6:=by rw[bh.out];exact(Below.refl _ _).alloc (Nat.le_refl _) _
  have dr:W6.heap[w5.heap.size]?=some (.cells #[.int .i64 pe,.int .i64 (pi:Int)] 50 (0,0)):=by rw[bh.out];exact heap_alloc_new _ _
  have bu:Below (w.heap.size+2) W2 W6:=bt.trans (df.mono (by have:=bt.size;omega))
  obtain⟨y1,y2,bp⟩:=ac W6 bu
  by_cases hpe:pe=0
  ·have dv:Hid ((A0i B6w [7] 0 (A5y g) []).1=0):=by show _=_;rw[HP.out];exact hpe
   have ee:(pe != 0)=false:=by simp[hpe]
   have HE:Hid (wrongL g=match A4g g 0 (g.msgs.drop 0) with|some q=>q|none=>match A3b 0 g.enums with|some q=>(q.1,g.msgs.length+q.2)|none=>(0,0)):=by
    show _=_;rw[wrongL,if_neg hno,if_neg (by rw[dv.out];simp)];rfl
   obtain⟨u0,u1⟩:=A0y y1
   rw[bh.out] at u0 u1
   clear hpe HP y1 y2
   go_wp2_with fail
   rw[←bh.out]
   go_loopg [24] n1 (fun m i wr=>∃ k:Nat,k+m=n1∧i = .int .i64 k∧Hid (wrongL g=match A4g g k (g.msgs.drop k) with|some q=>q|none=>match A3b 0 g.enums with|some q=>(q.1,g.msgs.length+q.2)|none=>(0,0))∧Below (w.heap.size+2) W2 wr)
   case atStart=>exact⟨0,by omega,rfl,HE,bu⟩
   case round=>
    clear u0 u1 HE bu df dr bp bt cw br hb3 bq hb1 dp aj
    obtain⟨k,hk,rfl,HK,ah⟩:=hrel
    obtain⟨y1,y2,aj⟩:=ac wr ah
    obtain⟨u0,u1⟩:=A0y y1
    obtain⟨z0,z1⟩:=A0y y2
    have f0:=A0b y2 0
    have f1:=A0b y2 1
    have bn:w.heap.size+2≤wr.heap.size:=by have:=ah.size;omega
    by_cases hlt:k<n1
    ·obtain⟨a,Ha⟩:∃ a,Hid (g.msgs[k]?=some a):=⟨g.msgs[k]'(by rw[←H1.out];exact hlt),List.getElem?_eq_getElem (by rw[←H1.out];exact hlt)⟩
     obtain⟨b,off,rfl,hat⟩:=(hg.below aj).1.get MAt.plain Ha.out
     obtain⟨vf,vb,s0,s1,s2,dm,dl⟩:=hat.at
     obtain⟨af,nf,cf,rfl,_,_⟩:=dm.shape
     obtain⟨ab,nb,cb,rfl,_,_⟩:=dl.shape
     have dw:(k:Int)<(n1:Int):=by omega
     have au:=(Below.refl wr.heap.size wr).alloc (Nat.le_refl _) (.cells #[.string (S a.name),.slice af nf cf,.slice ab nb cb] 38)
     have eh:=(au.block w.heap.size (by omega)).trans y1
     obtain⟨u2,u3⟩:=A0y eh
     have cj:=B1l a ((hg.below aj).below au) (dm.below FAt.stays au) (dl.below NAt.stays au) (hf.1 a (A3u Ha.out)).2
     obtain⟨q,HQ⟩:∃ q,Hid (q=A3s g a):=⟨_,rfl⟩
     have ag:=HK.out
     rw[C8i Ha.out,←HQ.out] at ag
     rw[←HQ.out] at cj
     clear hat HK
     by_cases hq:q=0
     ·have aw:Hid (wrongL g=match A4g g (k+1) (g.msgs.drop (k+1)) with|some q=>q|none=>match A3b 0 g.enums with|some q=>(q.1,g.msgs.length+q.2)|none=>(0,0)):=by
       show _=_;rw[ag,if_neg (by simp[hq])]
      have bw:(q != 0)=false:=by simp[hq]
      clear ag hq ac
      go_wp2_with fail
      refine cj.mono ?_
      rintro e w7 ⟨rfl,ba⟩
      go_wp2_with fail
      go_roundg (n1-(k+1))
      case measure=>omega
      case rel=>exact⟨k+1,by omega,by go_num,aw,(ah.trans (au.mono bn)).trans (ba.mono (by simp;omega))⟩
     ·have aw:Hid (wrongL g=(q,k)):=by show _=_;rw[ag,if_pos hq]
      have bw:(q != 0)=true:=by simp[hq]
      have ak:=ac
      clear ag hq ac
      go_wp2_with fail
      refine cj.mono ?_
      rintro e w7 ⟨rfl,ba⟩
      have bv:Below (w.heap.size+2) W2 w7:=(ah.trans (au.mono bn)).trans (ba.mono (by simp;omega))
      obtain⟨_,y3,bc⟩:=ak w7 bv
      obtain⟨z3,z4⟩:=A0y y3
      have f3:=A0b y3 0
      have f4:=A0b y3 1
      clear ak z0 z1 f0 f1
      go_wp2
      refine bodyPost_ret (v:=.agg #[.int .i64 q,.int .i64 (k:Int)]) (by simp[results,Tryz.results20,go_sem, *]) rfl ?_
      exact⟨by rw[aw.out],D7a bc _ _⟩
    ·have cu:Hid (wrongL g=match A3b 0 (g.enums.drop 0) with|some q=>(q.1,g.msgs.length+q.2)|none=>(0,0)):=by
      have e:g.msgs.drop k = []:=List.drop_eq_nil_of_le (by rw[←H1.out];omega)
      show _=_;rw[HK.out,e];rfl
     clear HK
     go_wp2_with fail
     go_loopg [41] n2 (fun m i wr=>∃ k:Nat,k+m=n2∧i = .int .i64 k∧Hid (wrongL g=match A3b k (g.enums.drop k) with|some q=>(q.1,g.msgs.length+q.2)|none=>(0,0))∧Below (w.heap.size+2) W2 wr)
     case atStart=>exact⟨0,by omega,rfl,cu,ah⟩
     case round=>
      clear u0 u1 z0 z1 f0 f1 y1 y2 aj ah cu bn
      obtain⟨k2,hk2,rfl,HK,ah⟩:=hrel
      obtain⟨y1,y2,aj⟩:=ac wr ah
      obtain⟨u0,u1⟩:=A0y y1
      obtain⟨z0,z1⟩:=A0y y2
      have f0:=A0b y2 0
      have f1:=A0b y2 1
      have bn:w.heap.size+2≤wr.heap.size:=by have:=ah.size;omega
      by_cases hlt2:k2<n2
      ·obtain⟨a,Ha⟩:∃ a,Hid (g.enums[k2]?=some a):=⟨g.enums[k2]'(by rw[←H2.out];exact hlt2),List.getElem?_eq_getElem (by rw[←H2.out];exact hlt2)⟩
       obtain⟨b,off,rfl,hat⟩:=(hg.below aj).2.get EAt.plain Ha.out
       obtain⟨vi,s0,s1,dn⟩:=hat.at
       obtain⟨ai,ni,ci,rfl,_,_⟩:=dn.shape
       have dw:(k2:Int)<(n2:Int):=by omega
       have au:=(Below.refl wr.heap.size wr).alloc (Nat.le_refl _) (.cells #[.string (S a.name),.slice ai ni ci] 100)
       have cg:=B7g a (dn.below TAt.stays au) (hf.2 a (A3u Ha.out)).2
       obtain⟨q,HQ⟩:∃ q,Hid (q=A6r a):=⟨_,rfl⟩
       have ag:=HK.out
       rw[C4e Ha.out,←HQ.out] at ag
       rw[←HQ.out] at cg
       clear hat HK
       by_cases hq:q=0
       ·have aw:Hid (wrongL g=match A3b (k2+1) (g.enums.drop (k2+1)) with|some q=>(q.1,g.msgs.length+q.2)|none=>(0,0)):=by
         show _=_;rw[ag,if_neg (by simp[hq])]
        have bw:(q != 0)=false:=by simp[hq]
        clear ag hq ac
        go_wp2_with fail
        refine cg.mono ?_
        rintro e w7 ⟨rfl,ba⟩
        go_wp2_with fail
        go_roundg (n2-(k2+1))
        case measure=>omega
        case rel=>exact⟨k2+1,by omega,by go_num,aw,(ah.trans (au.mono bn)).trans (ba.mono (by simp;omega))⟩
       ·have aw:Hid (wrongL g=(q,n1+k2)):=by show _=_;rw[ag,if_pos hq,H1.out]
        have bw:(q != 0)=true:=by simp[hq]
        have ak:=ac
        clear ag hq ac
        go_wp2_with fail
        refine cg.mono ?_
        rintro e w7 ⟨rfl,ba⟩
        have bv:Below (w.heap.size+2) W2 w7:=(ah.trans (au.mono bn)).trans (ba.mono (by simp;omega))
        obtain⟨y4,y3,bc⟩:=ak w7 bv
        obtain⟨z3,z4⟩:=A0y y3
        obtain⟨z5,z6⟩:=A0y y4
        have f3:=A0b y3 0
        have f4:=A0b y3 1
        clear ak z0 z1 f0 f1 u0 u1
        go_wp2
        refine bodyPost_ret (v:=.agg #[.int .i64 q,.int .i64 ((n1:Int)+(k2:Int))]) (by simp[results,Tryz.results20,go_sem, *]) rfl ?_
        exact⟨by rw[aw.out];simp,D7a bc _ _⟩
      ·have dt:Hid (wrongL g=(0,0)):=by
        have e:g.enums.drop k2 = []:=List.drop_eq_nil_of_le (by rw[←H2.out];omega)
        show _=_;rw[HK.out,e];rfl
       clear HK ac
       go_wp2
       refine bodyPost_ret (v:=.agg #[.int .i64 0,.int .i64 0]) (by simp[results,Tryz.results20,go_sem, *]) rfl ?_
       exact⟨by rw[dt.out];rfl,D7a aj _ _⟩
  ·have HE:Hid (wrongL g=(pe,pi)):=by show _=_;rw[wrongL,if_neg hno,if_pos (by rw[HP.out];exact hpe),HP.out]
   have ee:(pe != 0)=true:=by simp[hpe]
   obtain⟨z0,z1⟩:=A0y y2
   obtain⟨z2,z3⟩:=A0y dr
   have f0:=A0b y2 0
   have f1:=A0b y2 1
   rw[bh.out] at z0 z1 z2 z3 f0 f1
   clear hpe HP ac
   go_wp2
   refine bodyPost_ret (v:=.agg #[.int .i64 pe,.int .i64 (pi:Int)]) (by simp[results,Tryz.results20,go_sem, *]) rfl ?_
   exact⟨by rw[HE.out],by rw[←bh.out];exact D7a bp _ _⟩
open Go.ChangeShapes Go.WideShapes Go.ChangeAt Go.RowKit
section
variable {H:Type}{enc:TypeId×Value→H}{w:World}{base:Nat}{spare:Nat→Bool}{held:Bool}
def Sz (t:TypeId)(d:DataW H):Prop:=∀ n∈d.weights Tryz.prog t,n≤reachBytes
theorem B9r {e:TypeId}:∀ {l:List (DataW H)}{d:DataW H},d∈l→∀ n∈d.weights Tryz.prog e,n∈DataW.weightsAll Tryz.prog e l
 | [],_,h,_,_=>by simp at h
 | x::l,d,h,n,hn=>by
  simp only[DataW.weightsAll,List.mem_append]
  rcases List.mem_cons.1 h with rfl|h
  ·exact .inl hn
  ·exact .inr (B9r h n hn)
theorem open_list {α:Type}{P:World→Addr→α→Prop}{Q : α→Prop}{sz bytes:Nat}{t e:TypeId}(ht:Tryz.prog.underlying t=some (.slice e))(hc:Tryz.prog.cellsOf e=sz)(hby:Tryz.prog.bytesOf e=bytes)(dflt : α)
  (ac:∀ (fuel:Nat) (a:Addr) (cs:List Value) (d:DataW H) (pl:List MemPlace),w.cells? base a sz=some cs→DataW.trod enc Tryz.prog w base spare held fuel e cs=some (d,pl)→Sz e d→∃ y,P w a y∧Q y)
  {fuel:Nat}{cs:List Value}{d:DataW H}{pl:List MemPlace}(h:DataW.trod enc Tryz.prog w base spare held fuel t cs=some (d,pl)) (hsz:Sz t d) :
  ∃ v l,cs = [v]∧RdL sz P w v l∧(∀ y∈l,Q y)∧l.length*bytes≤reachBytes:=by
 rcases Go.Deep.open_slice ht h with⟨hcs,_⟩|⟨a,len,cap,m,n,D,Pl,hcs,_,hl,hm,hmm,hx,hels⟩
 ·exact⟨_,[],hcs,RdL.nil _ _ _,fun y hy=>by simp at hy,by simp⟩
 ·rw[hc] at hels
  have hd:=(Prod.mk.inj hx).1
  have ah:len≤m:=by rw[hmm];split <;> omega
  have hw:(len+(m-len))*bytes≤reachBytes:=by
   refine hsz _ ?_
   rw[hd,DataW.weights,ht]
   simp[hby]
  have hex:∀ i,i<len→∃ y,P w (a.add (i*sz)) y∧Q y:=by
   intro i hi
   obtain⟨cs',h1,h2⟩:=hels i (by omega)
   refine ac n _ cs' (D i) (Pl i) h1 h2 ?_
   intro q hq
   refine hsz q ?_
   rw[hd,DataW.weights,ht]
   simp only[List.mem_cons,List.mem_append]
   exact .inr (.inl (B9r (List.mem_map.2 ⟨i,List.mem_range.2 hi,rfl⟩) q hq))
  obtain⟨f,hf⟩:∃ f:Nat→α,∀ i,i<len→P w (a.add (i*sz)) (f i)∧Q (f i):=by
   refine⟨fun i=>if hi:i<len then Classical.choose (hex i hi) else dflt,fun i hi=>?_⟩
   simp only[dif_pos hi]
   exact Classical.choose_spec (hex i hi)
  refine⟨_,(List.range len).map f,hcs,⟨some a,len,cap,rfl,by simp,hl,hm,fun h=>(by cases h),?_⟩,?_,?_⟩
  ·intro x ag k y hy
   cases ag
   rw[List.getElem?_map] at hy
   by_cases hk:k<len
   ·rw[List.getElem?_range hk] at hy
    cases hy
    exact(hf k hk).1
   ·rw[List.getElem?_eq_none (by simp;omega)] at hy
    cases hy
  ·intro y hy
   obtain⟨i,hi,rfl⟩:=List.mem_map.1 hy
   exact(hf i (List.mem_range.1 hi)).2
  ·simp only[List.length_map,List.length_range]
   exact Nat.le_trans (Nat.mul_le_mul_right _ (Nat.le_add_right _ _)) hw
theorem A9p {fuel:Nat}{c:Value}{x:DataW H×List MemPlace}(h:DataW.trod enc Tryz.prog w base spare held fuel 9 [c]=some x):∃ s:List UInt8,c = .string (S s)∧s.length≤maxLen:=by
 obtain⟨s,h1,_,h2⟩:=DataW.trod_string Tryz.underlying9 h
 simp at h1
 refine⟨s.data.toList,by rw[h1];simp[S],?_⟩
 rw[Array.length_toList]
 exact h2
theorem A5k {fuel:Nat}{c:Value}{x:DataW H×List MemPlace}(h:DataW.trod enc Tryz.prog w base spare held fuel 3 [c]=some x):∃ n:Int,c = .int .i64 n∧I64 n:=by
 obtain⟨n,h1,_,h2⟩:=DataW.trod_int Tryz.underlying3 h
 simp at h1
 exact⟨n,h1,by have:=bounds_i64 h2;unfold I64;omega⟩
theorem C8p {fuel:Nat}{c:Value}{x:DataW H×List MemPlace}(h:DataW.trod enc Tryz.prog w base spare held fuel 4 [c]=some x):∃ b:Bool,c = .bool b:=by
 obtain⟨b,h1,_⟩:=DataW.trod_bool Tryz.underlying4 h
 simp at h1
 exact⟨b,h1⟩
theorem A5a {t:TypeId}{fs:Array Field}{xs:List (DataW H×List MemPlace)}(ht:Tryz.prog.underlying t=some (.struct fs))(h:Sz t (.agg (xs.map (·.1)))){i:Nat}{f:Field}{y:DataW H×List MemPlace}(hf:fs[i]?=some f)(hy:xs[i]?=some y):Sz f.type y.1:=by
 intro n hn
 refine h n ?_
 rw[DataW.weights,ht]
 refine DataW.weights_mem_each (j:=i) ?_ ?_ n hn
 ·rw[List.getElem?_map,Array.getElem?_toList,hf];rfl
 ·rw[List.getElem?_map,hy];rfl
def FOk (f:FI):Prop:=f.name.length≤maxLen∧f.type.length≤maxLen∧I64 f.number∧I64 f.kind∧I64 f.choice
theorem D2x (fuel:Nat)(a:Addr)(cs:List Value)(d:DataW H)(pl:List MemPlace)(hc:w.cells? base a 6=some cs)(h:DataW.trod enc Tryz.prog w base spare held fuel 40 cs=some (d,pl))(_:Sz 40 d):∃ y,FAt w a y∧FOk y:=by
 obtain⟨_,hlen,hcell⟩:=World.cells?_some hc
 obtain⟨xs,n,_,_,_,ac,hf⟩:=DataW.trod_struct Tryz.underlying40 h
 match cs,hlen with
 | [v0,v1,v2,v3,v4,v5],_=>
  have ag:xs.length=6:=ac
  have f0:DataW.trod enc Tryz.prog w base spare held n 9 [v0]=xs[0]?:=hf 0 _ rfl
  have f1:DataW.trod enc Tryz.prog w base spare held n 3 [v1]=xs[1]?:=hf 1 _ rfl
  have f2:DataW.trod enc Tryz.prog w base spare held n 3 [v2]=xs[2]?:=hf 2 _ rfl
  have f3:DataW.trod enc Tryz.prog w base spare held n 9 [v3]=xs[3]?:=hf 3 _ rfl
  have f4:DataW.trod enc Tryz.prog w base spare held n 4 [v4]=xs[4]?:=hf 4 _ rfl
  have f5:DataW.trod enc Tryz.prog w base spare held n 3 [v5]=xs[5]?:=hf 5 _ rfl
  rw[List.getElem?_eq_getElem (by omega)] at f0 f1 f2 f3 f4 f5
  obtain⟨s0,rfl,z0⟩:=A9p f0
  obtain⟨n1,rfl,z1⟩:=A5k f1
  obtain⟨n2,rfl,z2⟩:=A5k f2
  obtain⟨s3,rfl,z3⟩:=A9p f3
  obtain⟨b4,rfl⟩:=C8p f4
  obtain⟨n5,rfl,z5⟩:=A5k f5
  refine⟨⟨s0,n1,n2,s3,b4,n5⟩,⟨?_,hcell 1 (by omega),hcell 2 (by omega),hcell 3 (by omega),hcell 4 (by omega),hcell 5 (by omega)⟩,z0,z3,z1,z2,z5⟩
  have:=hcell 0 (by omega)
  simpa [Addr.add] using this
def TOk (i:II):Prop:=i.name.length≤maxLen∧I64 i.value
theorem D2y (fuel:Nat)(a:Addr)(cs:List Value)(d:DataW H)(pl:List MemPlace)(hc:w.cells? base a 2=some cs)(h:DataW.trod enc Tryz.prog w base spare held fuel 162 cs=some (d,pl))(_:Sz 162 d):∃ y,TAt w a y∧TOk y:=by
 obtain⟨_,hlen,hcell⟩:=World.cells?_some hc
 obtain⟨xs,n,_,_,_,ac,hf⟩:=DataW.trod_struct Tryz.underlying162 h
 match cs,hlen with
 | [v0,v1],_=>
  have ag:xs.length=2:=ac
  have f0:DataW.trod enc Tryz.prog w base spare held n 9 [v0]=xs[0]?:=hf 0 _ rfl
  have f1:DataW.trod enc Tryz.prog w base spare held n 3 [v1]=xs[1]?:=hf 1 _ rfl
  rw[List.getElem?_eq_getElem (by omega)] at f0 f1
  obtain⟨s0,rfl,z0⟩:=A9p f0
  obtain⟨n1,rfl,z1⟩:=A5k f1
  refine⟨⟨s0,n1⟩,⟨?_,hcell 1 (by omega)⟩,z0,z1⟩
  have:=hcell 0 (by omega)
  simpa [Addr.add] using this
theorem open_int (fuel:Nat)(a:Addr)(cs:List Value)(d:DataW H)(pl:List MemPlace)(hc:w.cells? base a 1=some cs)(h:DataW.trod enc Tryz.prog w base spare held fuel 3 cs=some (d,pl))(_:Sz 3 d):∃ y,NAt w a y∧I64 y:=by
 obtain⟨_,hlen,hcell⟩:=World.cells?_some hc
 match cs,hlen with
 | [v0],_=>
  obtain⟨n1,rfl,z1⟩:=A5k h
  refine⟨n1,?_,z1⟩
  have:=hcell 0 (by omega)
  simpa [Addr.add,NAt] using this
def MOk (m:MI):Prop:=m.name.length≤maxLen∧(∀ f∈m.fields,FOk f)∧(∀ n∈m.barred,I64 n)∧m.fields.length*64≤reachBytes∧m.barred.length*8≤reachBytes
theorem D2z (fuel:Nat)(a:Addr)(cs:List Value)(d:DataW H)(pl:List MemPlace)(hc:w.cells? base a 3=some cs)(h:DataW.trod enc Tryz.prog w base spare held fuel 38 cs=some (d,pl))(hsz:Sz 38 d):∃ y,MAt w a y∧MOk y:=by
 obtain⟨_,hlen,hcell⟩:=World.cells?_some hc
 obtain⟨xs,n,_,hx,_,ac,hf⟩:=DataW.trod_struct Tryz.underlying38 h
 have hd:=(Prod.mk.inj hx).1
 rw[hd] at hsz
 match cs,hlen with
 | [v0,v1,v2],_=>
  have ag:xs.length=3:=ac
  have f0:DataW.trod enc Tryz.prog w base spare held n 9 [v0]=xs[0]?:=hf 0 _ rfl
  have f1:DataW.trod enc Tryz.prog w base spare held n 36 [v1]=xs[1]?:=hf 1 _ rfl
  have f2:DataW.trod enc Tryz.prog w base spare held n 30 [v2]=xs[2]?:=hf 2 _ rfl
  rw[List.getElem?_eq_getElem (by omega)] at f0 f1 f2
  have q1:Sz 36 (xs[1]'(by omega)).1:=A5a (i:=1) Tryz.underlying38 hsz rfl (List.getElem?_eq_getElem (by omega))
  have q2:Sz 30 (xs[2]'(by omega)).1:=A5a (i:=2) Tryz.underlying38 hsz rfl (List.getElem?_eq_getElem (by omega))
  obtain⟨s0,rfl,z0⟩:=A9p f0
  obtain⟨u1,l1,e1,r1,k1,b1⟩:=open_list (P:=FAt) (Q:=FOk) (sz:=6) (bytes:=64) Tryz.underlying36 (by kernel_rfl) (by kernel_rfl) ⟨[],0,0,[],false,0⟩ D2x f1 q1
  obtain⟨u2,l2,e2,r2,k2,b2⟩:=open_list (P:=NAt) (Q:=I64) (sz:=1) (bytes:=8) Tryz.underlying30 (by kernel_rfl) (by kernel_rfl) 0 open_int f2 q2
  simp at e1 e2
  subst e1 e2
  refine⟨⟨s0,l1,l2⟩,⟨v1,v2,?_,hcell 1 (by omega),hcell 2 (by omega),r1,r2⟩,z0,k1,k2,b1,b2⟩
  have:=hcell 0 (by omega)
  simpa [Addr.add] using this
def EOk (e:EI):Prop:=e.name.length≤maxLen∧(∀ f∈e.items,TOk f)∧e.items.length*24≤reachBytes
theorem D2w (fuel:Nat)(a:Addr)(cs:List Value)(d:DataW H)(pl:List MemPlace)(hc:w.cells? base a 2=some cs)(h:DataW.trod enc Tryz.prog w base spare held fuel 100 cs=some (d,pl))(hsz:Sz 100 d):∃ y,EAt w a y∧EOk y:=by
 obtain⟨_,hlen,hcell⟩:=World.cells?_some hc
 obtain⟨xs,n,_,hx,_,ac,hf⟩:=DataW.trod_struct Tryz.underlying100 h
 have hd:=(Prod.mk.inj hx).1
 rw[hd] at hsz
 match cs,hlen with
 | [v0,v1],_=>
  have ag:xs.length=2:=ac
  have f0:DataW.trod enc Tryz.prog w base spare held n 9 [v0]=xs[0]?:=hf 0 _ rfl
  have f1:DataW.trod enc Tryz.prog w base spare held n 98 [v1]=xs[1]?:=hf 1 _ rfl
  rw[List.getElem?_eq_getElem (by omega)] at f0 f1
  have q1:Sz 98 (xs[1]'(by omega)).1:=A5a (i:=1) Tryz.underlying100 hsz rfl (List.getElem?_eq_getElem (by omega))
  obtain⟨s0,rfl,z0⟩:=A9p f0
  obtain⟨u1,l1,e1,r1,k1,b1⟩:=open_list (P:=TAt) (Q:=TOk) (sz:=2) (bytes:=24) Tryz.underlying98 (by kernel_rfl) (by kernel_rfl) ⟨[],0⟩ D2y f1 q1
  simp at e1
  subst e1
  refine⟨⟨s0,l1⟩,⟨v1,?_,hcell 1 (by omega),r1⟩,z0,k1,b1⟩
  have:=hcell 0 (by omega)
  simpa [Addr.add] using this
def GOk (g:GI):Prop:=(∀ m∈g.msgs,MOk m)∧(∀ e∈g.enums,EOk e)∧g.msgs.length*64≤reachBytes∧g.enums.length*40≤reachBytes
theorem open_file {v:Value}{fuel:Nat}{d:DataW H}{pl:List MemPlace}(h:DataW.trod enc Tryz.prog w base spare held fuel 25 v.cells.toList=some (d,pl))(hsz:Sz 25 d):∃ vm ve g,v = .agg #[vm,ve]∧GRd w vm ve g∧GOk g:=by
 obtain⟨xs,n,_,hx,hlen,ac,hf⟩:=DataW.trod_struct Tryz.underlying25 h
 have hd:=(Prod.mk.inj hx).1
 rw[hd] at hsz
 have hl2:v.cells.toList.length=2:=hlen
 generalize hcs:v.cells.toList=cs at hl2 hf
 match cs,hl2 with
 | [v0,v1],_=>
  have ag:xs.length=2:=ac
  have f0:DataW.trod enc Tryz.prog w base spare held n 22 [v0]=xs[0]?:=hf 0 _ rfl
  have f1:DataW.trod enc Tryz.prog w base spare held n 23 [v1]=xs[1]?:=hf 1 _ rfl
  rw[List.getElem?_eq_getElem (by omega)] at f0 f1
  have q0:Sz 22 (xs[0]'(by omega)).1:=A5a (i:=0) Tryz.underlying25 hsz rfl (List.getElem?_eq_getElem (by omega))
  have q1:Sz 23 (xs[1]'(by omega)).1:=A5a (i:=1) Tryz.underlying25 hsz rfl (List.getElem?_eq_getElem (by omega))
  obtain⟨u0,l0,e0,r0,k0,b0⟩:=open_list (P:=MAt) (Q:=MOk) (sz:=3) (bytes:=64) Tryz.underlying22 (by kernel_rfl) (by kernel_rfl) ⟨[],[],[]⟩ D2z f0 q0
  obtain⟨u1,l1,e1,r1,k1,b1⟩:=open_list (P:=EAt) (Q:=EOk) (sz:=2) (bytes:=40) Tryz.underlying23 (by kernel_rfl) (by kernel_rfl) ⟨[],[]⟩ D2w f1 q1
  simp at e0 e1
  subst e0 e1
  refine⟨v0,v1,⟨l0,l1⟩,?_,⟨r0,r1⟩,k0,k1,b0,b1⟩
  cases v <;> simp[Value.cells] at hcs
  rename_i cs
  have:cs=#[v0,v1]:=by cases cs;simp_all
  rw[this]
theorem GOk.fits {g:GI}(h:GOk g):Fits g:=by
 have hm:maxLen≤9223372036854775807:=by unfold maxLen;omega
 exact⟨fun m ac=>⟨Nat.le_trans (h.1 m ac).1 hm,fun f hf=>Nat.le_trans ((h.1 m ac).2.1 f hf).1 hm⟩,fun e he=>⟨Nat.le_trans (h.2.1 e he).1 hm,fun i hi=>Nat.le_trans ((h.2.1 e he).2.1 i hi).1 hm⟩⟩
end
end L
end Go.Proofs.YtgaoojpakjjdnaaGreatDoor
