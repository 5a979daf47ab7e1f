import Derived.Test.YtelmjekjohbmjaaGreatDoorY20
import Derived.Test.YtelmjekjohbmjaaGreatDoorY11
import Derived.Shelf.Spec.SlicesInsertGrow
namespace Go.Proofs.YtelmjekjohbmjaaGreatDoor
namespace L
open Go.RowKit
section
variable {α:Type}{w:World}
theorem Row.src {E:EK α}{base:Nat}{ao:Option Addr}{n cap:Nat}{m:List α}(h:Row E w base (.slice ao n cap) m):m.length=n∧(ao=none→n=0∧cap=0)∧∀ ad,ao=some ad→∀ k y,m[k]?=some y→∀ j u,(E.enc y)[j]?=some u→w.cell? (ad.add (k*E.size+j))=some u:=by
 refine⟨h.len.symm,?_,?_⟩
 ·intro e
  subst e
  rcases h.2 with⟨hv,hn⟩|⟨g,cap',cur,hv,_⟩
  ·cases hv;exact⟨rfl,rfl⟩
  ·cases hv
 ·intro ad e k y hy j u hu
  subst e
  rcases h.2 with⟨hv,hn⟩|⟨g,cap',cur,hv,hbg,hg,hnc,hcm,hcs,htake⟩
  ·cases hv
  ·cases hv
   rw[A0j,Nat.zero_add]
   exact h.cells hy hu
theorem Row.front {E:EK α}{base g n cap:Nat}{l m:List α}{w':World}(h:Row E w' base (.slice (some ⟨g,0,none⟩) (l.length+n) cap) (l++m)):Row E w' base (.slice (some ⟨g,0,none⟩) l.length cap) l:=by
 obtain⟨_,h1,h2,h3,cur,h4,h5⟩:=h.cur
 refine Row.of_cells h1 h4 h5 rfl (by omega) h3 fun k y hy j u hu=>?_
 exact h.cells (by rw[List.getElem?_append_left (List.getElem?_eq_some_iff.1 hy).1];exact hy) hu
theorem B9l (E:EK α) (ty:TypeId) (base:Nat) (p q:PV) (l m:List α) (hY:E.elem≠5) (hown:Row E w base p.v l) (hq:Row E w base q.v m) (hby:1≤E.bytes) (hlen:(l.length+m.length)*E.bytes≤140737488355328) (hb:base≤w.heap.size) :
  ∃ (a':Option Addr) (n' c':Nat) (w':World),(Builtin.append_ #[E.slice,E.slice] ty #[p.v,q.v]).run Tryz.prog w = .ok (.slice a' n' c') w'∧Row E w' base (.slice a' n' c') (l++m)∧Row E w' base p.v l∧FrB (own1 p) w w'∧∀ k∈own1 (a',n',c'),k∈own1 p∨w.heap.size≤k:=by
 obtain⟨ao,n,cap⟩:=q
 have hq':Row E w base (.slice ao n cap) m:=hq
 obtain⟨hm,hnil,hcell⟩:=hq'.src
 obtain⟨v',w',hr,h1,h2,h3⟩:=B2r E ty base p.v l m hown ao n cap hm hnil hcell hby hlen hb
 obtain⟨a',c',rfl⟩:=h1.shape
 have hfr:FrB (own1 p) w w':=B2j h2 hY (fun g hg=>by
  rcases hown.2 with⟨hv,hn⟩|⟨g',cap',cur,hv,hbg,hgg,_⟩
  ·rw[hv] at hg;simp[Value.ownBlock] at hg
  ·rw[hv] at hg
   simp only[Value.ownBlock,Option.some.injEq] at hg
   subst hg
   exact⟨cur,_,hgg⟩) (fun g hg=>A0q.2 hg)
 refine⟨a',_,c',w',hr,h1,?_,hfr,fun k hk=>(h3 k (A0q.1 hk)).imp A0q.2 id⟩
 obtain⟨i0,hi,hz0,hz1,hz2⟩:=info_parts E.info
 have h63:l.length+m.length≤maxLen:=by
  have:l.length+m.length≤(l.length+m.length)*E.bytes:=Nat.le_mul_of_pos_right _ hby
  unfold maxLen;omega
 rcases hown.2 with⟨hv,hn⟩|⟨g,cap',cur,hv,hbg,hg,hnc,hcm,hcs,htake⟩
 ·have hl0:l = []:=List.eq_nil_of_length_eq_zero hn
  rw[hv,hl0]
  exact Row.nil _ _ _
 ·cases ao with
  | none=>
   obtain⟨rfl,rfl⟩:=hnil rfl
   have hrun:=run_append_owned_none (P:=Tryz.prog) (w:=w) base E.slice ty E.elem i0 E.size E.under hi p.v l.length (E.flat l) hown
   have:(Builtin.append_ #[E.slice,E.slice] ty #[p.v,.slice none 0 0]).run Tryz.prog w = .ok (.slice a' (l++m).length c') w':=hr
   rw[hrun] at this
   simp only[Result.ok.injEq] at this
   rw[←this.2]
   exact hown
  | some ad=>
   have hl:(E.flat m).length=n*E.size:=by rw[E.flat_len,hm]
   have hnews:∀ j u,(E.flat m)[j]?=some u→w.cell? (ad.add j)=some u:=by
    intro j u hu
    obtain⟨y,h1,h2⟩:=E.flat_get hu
    have:=hcell ad rfl _ y h1 _ u h2
    rwa [Nat.mul_comm,Nat.div_add_mod] at this
   have h1c:∀ u∈E.flat m,u.oneCell'=true:=by
    intro y hy
    simp only[EK.flat,List.mem_flatMap] at hy
    obtain⟨p,hp,hy⟩:=hy
    exact E.one p y hy
   have hr':(Builtin.append_ #[E.slice,E.slice] ty #[.slice (some ⟨g,0,none⟩) l.length cap',.slice (some ad) n cap]).run Tryz.prog w = .ok (.slice a' (l++m).length c') w':=by rw[←hv];exact hr
   by_cases hroom:l.length+n≤cap'
   ·have hfit:l.length*i0.size+(E.flat m).length≤cur.size:=by rw[hl,hcs,hz1,←Nat.add_mul];exact Nat.mul_le_mul_right _ hroom
    have hr2:=run_append_room (P:=Tryz.prog) w E.slice ty E.elem i0 E.under hi g l.length cap' cur hg ad n cap (E.flat m) (by rw[hl,hz1]) hnews h1c hroom hfit
    rw[hr2] at hr'
    simp only[Result.ok.injEq,Value.slice.injEq] at hr'
    obtain⟨⟨rfl,_,rfl⟩,_⟩:=hr'
    have h1':Row E w' base (.slice (some ⟨g,0,none⟩) (l.length+m.length) cap') (l++m):=by
     have:=h1
     rwa [List.length_append] at this
    rw[hv]
    exact h1'.front
   ·have holds:=World.ownsRow.cells (show w.ownsRow base E.elem E.size (.slice (some ⟨g,0,none⟩) l.length cap') l.length (E.flat l) by rw[←hv];exact hown) (g:=g) rfl
    have hr2:=run_append_grow (P:=Tryz.prog) w E.slice ty E.elem i0 _ E.under hi hz0 ⟨g,0,none⟩ l.length cap' (E.flat l) (by rw[hz1];exact hown.1) holds ad n cap (E.flat m) (by rw[hl,hz1]) hnews (by omega) (by unfold maxLen at h63;omega) (growslice_fits (by omega) (by rw[hz2,←hm];exact hlen))
    rw[hr2] at hr'
    simp only[Result.ok.injEq] at hr'
    rw[←hr'.2]
    exact hown.keep fun k _ hk=>by
     rw[Below.heap_alloc _ _ _ (show k < w.drew.heap.size from hk)]
     rfl
end
end L
end Go.Proofs.YtelmjekjohbmjaaGreatDoor
namespace Go.Proofs.YtelmjekjohbmjaaGreatDoor
namespace L
open Go.RowKit
def From (w:World) (L L':List Nat):Prop:=∀ k,L'.count k≤1∧(k < w.heap.size→L'.count k≤L.count k)
theorem From.refl {w:World}{L:List Nat}(h:L.Nodup):From w L L:=fun k=>⟨List.nodup_iff_count.1 h k,fun _=>Nat.le_refl _⟩
theorem From.trans {w w':World}{A B C:List Nat}(h:From w A B) (k:From w' B C) (hs:w.heap.size≤w'.heap.size):From w A C:=fun i=>⟨(k i).1,fun hi=>Nat.le_trans ((k i).2 (by omega)) ((h i).2 hi)⟩
theorem From.mem {w:World}{L L':List Nat}(h:From w L L'){k:Nat}(hk:k∈L'):k∈L∨w.heap.size≤k:=by
 by_cases hs:k < w.heap.size
 ·left
  have:=(h k).2 hs
  have h1:=List.count_pos_iff.2 hk
  exact List.count_pos_iff.1 (by omega)
 ·right;omega
theorem From.of {w:World}{L L':List Nat}(hn:L'.Nodup) (hm:∀ k∈L',k∈L∨w.heap.size≤k):From w L L':=fun k=>⟨List.nodup_iff_count.1 hn k,fun hk=>by
 by_cases h:k∈L'
 ·have h1:=List.nodup_iff_count.1 hn k
  rcases hm k h with h2|h2
  ·have:=List.count_pos_iff.2 h2;omega
  ·omega
 ·rw[List.count_eq_zero_of_not_mem h];omega⟩
theorem B5g {A B:List Nat}{k:Nat}(h:A.count k+B.count k≤1) (ha:k∈A):k∉B:=fun hb=>by
 have:=List.count_pos_iff.2 ha
 have:=List.count_pos_iff.2 hb
 omega
theorem B8j {A:List Nat}{n k:Nat}(h:∀ i∈A,i < n) (hk:n≤k):A.count k=0:=List.count_eq_zero_of_not_mem fun hm=>by have:=h k hm;omega
section
variable {α:Type}(f : α→List Nat)
theorem A1y (l m:List α) (k:Nat):((l++m).flatMap f).count k=(l.flatMap f).count k+(m.flatMap f).count k:=by rw[List.flatMap_append,List.count_append]
theorem A0v (a : α) (l:List α) (k:Nat):((a::l).flatMap f).count k=(f a).count k+(l.flatMap f).count k:=by rw[List.flatMap_cons,List.count_append]
theorem A1z (p : α→Bool) (k:Nat):∀ l:List α,((l.filter p).flatMap f).count k≤(l.flatMap f).count k
 | []=>Nat.le_refl _
 | a::l=>by
  have:=A1z p k l
  rw[List.filter_cons,A0v]
  split
  ·rw[A0v];omega
  ·omega
theorem A4u {p : α→Bool}{a : α}(hp:p a=false) (k:Nat):∀ {l:List α},a∈l→(f a).count k+((l.filter p).flatMap f).count k≤(l.flatMap f).count k
 | b::l,h=>by
  rw[List.filter_cons,A0v]
  rcases List.mem_cons.1 h with rfl|h
  ·have:=A1z f p k l
   rw[hp]
   simp only[Bool.false_eq_true,if_false]
   omega
  ·have:=A4u hp k h
   split
   ·rw[A0v];omega
   ·omega
theorem A1u {a : α}(k:Nat):∀ {l:List α},a∈l→(f a).count k≤(l.flatMap f).count k
 | b::l,h=>by
  rw[A0v]
  rcases List.mem_cons.1 h with rfl|h
  ·omega
  ·have:=A1u k h
   omega
theorem A7w (l:List α) (i:Nat) (a : α) (k:Nat):((l.take i++[a]++l.drop i).flatMap f).count k=(f a).count k+(l.flatMap f).count k:=by
 rw[A1y,A1y,A0v]
 have:=A1y f (l.take i) (l.drop i) k
 rw[List.take_append_drop] at this
 simp only[List.flatMap_nil,List.count_nil]
 omega
end
theorem A2a {β:Type}(f : β→List Nat) (v:VL β) (k:Nat):(VL.fp f v).count k=(own1 v.p1).count k+(own1 v.p2).count k+(own1 v.p3).count k+(v.subs.flatMap f).count k:=by
 unfold VL.fp;rw[List.count_append,List.count_append,List.count_append]
theorem A5k {β:Type}(f : β→List Nat) (b:BL β) (k:Nat):(BL.fp f b).count k=(own1 b.q0).count k+(own1 b.q1).count k+(b.vals.flatMap (VL.fp f)).count k:=by
 unfold BL.fp;rw[List.count_append,List.count_append]
theorem A3g (p:PV) (k:Nat):(own1 p).count k≤1:=by
 unfold own1
 cases p.v.ownBlock with
 | none=>simp
 | some b=>simp[List.count_cons];split <;> omega
end L
end Go.Proofs.YtelmjekjohbmjaaGreatDoor
namespace Go.Proofs.YtelmjekjohbmjaaGreatDoor
namespace L
open Go.RowKit
theorem B2h {α:Type}(E:EK α) (l:List α):∀ u∈E.flat l,u.oneCell'=true:=by
 intro y hy
 simp only[EK.flat,List.mem_flatMap] at hy
 obtain⟨p,_,hy⟩:=hy
 exact E.one p y hy
theorem A8v {w:World}{g o j:Nat}{vs:List Value}{u:Value}(hc:∀ j,j < vs.length→(w.cell? ⟨g,o+j,none⟩).isSome=true) (hu:vs[j]?=some u):(w.setCells g o vs).cell? ⟨g,o+j,none⟩=some u:=by
 obtain⟨hj,e⟩:=List.getElem?_eq_some_iff.1 hu
 rw[World.cell?_setCells_in g vs o w hc j hj,e]
set_option maxHeartbeats 4000000 in
set_option maxRecDepth 100000 in
theorem A9t {β:Type}{w:World}{base:Nat}{g n cap vb i:Nat}{l:List (VL β)}{a:VL β}{x0 x1 x2 x3:Value}(h:Row (ekV β) w base (.slice (some ⟨g,0,none⟩) n cap) l) (he:(ekV β).enc a = [x0,x1,x2,x3]) (hv:w.heap[vb]?=some (.cells #[x0,x1,x2,x3] 34 (0,0)))
  (hvb:vb≠g) (hi:i < n) (hroom:n+1≤cap) :
  Calls Tryz.prog 73 #[.slice (some ⟨g,0,none⟩) n cap,.int .i64 (i:Int),.slice (some ⟨vb,0,none⟩) 1 1] w fun e w'=>e = .returned (.slice (some ⟨g,0,none⟩) (n+1) cap)∧Row (ekV β) w' base (.slice (some ⟨g,0,none⟩) (n+1) cap) (l.take i++[a]++l.drop i)∧FrB [g] w w':=by
 obtain⟨hl,hbg,hnc,hcm,cur,hg,hsz⟩:=h.cur
 replace hsz:cur.size=cap*4:=hsz
 have hsp:∀ j,j < (n+1)*4→(w.cell? ⟨g,j,none⟩).isSome=true:=fun j hj=>by
  have:j < cur.size:=by omega
  rw[A0a hg j _ (Array.getElem?_eq_getElem this)];rfl
 have hfz:∀ j,w.frozen? ⟨g,j,none⟩=false:=fun j=>A0b hg j
 have hdl:((ekV β).flat (l.drop i)).length=(n - i)*4:=by rw[(ekV β).flat_len,List.length_drop,hl];rfl
 have hsa:w.shape? vb=some (34,4):=by simp[World.shape?,hv]
 have hsb:w.shape? g=some (34,cur.size):=by simp only[World.shape?,hg];rfl
 have hov:∀ lb cb o,(callFunc 113 #[.slice (some ⟨vb,0,none⟩) 1 1,.slice (some ⟨g,o,none⟩) lb cb]).run Tryz.prog w = .ok (.value (.bool false)) w:=fun lb cb o=>by
  rw[run_callFunc_extern Tryz.func113 (by kernel_rfl) (by kernel_rfl) (by kernel_rfl) (e:=Extern.SlicesOverlaps.overlaps #[26,26] #[4]) (by kernel_rfl),
   Lib.run_overlaps_apart w 26 4 34 Tryz.underlying26 4 (fun w=>by kernel_rfl) ⟨vb,0,none⟩ ⟨g,o,none⟩ 1 1 lb cb hvb _ _ _ _ hsa hsb (by omega) (A0b hv 0) (A0b hv _)]
  rfl
 have hcs:∀ j v,((ekV β).flat (l.drop i))[j]?=some v→w.cell? ⟨g,i*4+j,none⟩=some v:=fun j v hj=>by
  obtain⟨y,h1,h2⟩:=(ekV β).flat_get hj
  rw[List.getElem?_drop] at h1
  have:=h.cells h1 h2
  have e4:(ekV β).size=4:=rfl
  rw[e4] at this
  rw[show i*4+j=(i+j / 4)*4+j%4 by omega]
  exact this
 have hcp1:∀ ty dc sc,(Builtin.copy_ #[26,26] ty #[.slice (some ⟨g,(i+1)*4,none⟩) (n - i) dc,.slice (some ⟨g,i*4,none⟩) (n+1 - i) sc]).run Tryz.prog w.drew = .ok (goInt ((n - i:Nat):Int)) (w.drew.setCells g ((i+1)*4) ((ekV β).flat (l.drop i))):=fun ty dc sc=>
  A5p (w:=w.drew) (g:=g) (o:=(i+1)*4) (dLen:=n - i) (sLen:=n+1 - i) (m:=n - i) (by simp only[Nat.min_def];split <;> omega) hdl (fun j v hj=>by rw[A0j];exact hcs j v hj) (fun j hj=>hsp _ (by omega)) (fun j _=>hfz _) (B2h _ _)
 obtain⟨W1,hW1⟩:∃ W1,W1=w.drew.setCells g ((i+1)*4) ((ekV β).flat (l.drop i)):=⟨_,rfl⟩
 obtain⟨cur1,hg1,hsz1⟩:=A1t ((ekV β).flat (l.drop i)) ((i+1)*4) w.drew cur hg
 rw[←hW1] at hg1
 have hvs:∀ j v,([x0,x1,x2,x3]:List Value)[j]?=some v→W1.cell? ⟨vb,j,none⟩=some v:=fun j v hj=>by
  rw[hW1,World.cell?_setCells_out g _ _ _ _ (fun h _=>absurd h hvb)]
  exact A0a (w:=w) hv j v (by simpa using hj)
 have hcp2:∀ (W:World),(∀ x,W.cell? x=W1.cell? x)→(∀ x,W.frozen? x=W1.frozen? x)→∀ ty dc,(Builtin.copy_ #[26,26] ty #[.slice (some ⟨g,i*4,none⟩) (n+1 - i) dc,.slice (some ⟨vb,0,none⟩) 1 1]).run Tryz.prog W = .ok (goInt 1) (W.setCells g (i*4) [x0,x1,x2,x3]):=fun W hWc hWf ty dc=>
  A5p (g:=g) (o:=i*4) (dLen:=n+1 - i) (sLen:=1) (m:=1) (by simp only[Nat.min_def];split <;> omega) rfl (fun j v hj=>by rw[A0j,Nat.zero_add,hWc];exact hvs j v hj)
   (fun j hj=>by
    have hj:j < 4:=hj
    have:i*4+j < cur1.size:=by omega
    rw[hWc,A0a hg1 _ _ (Array.getElem?_eq_getElem this)];rfl) (fun j _=>by rw[hWf];exact A0b hg1 _)
   (fun v hv=>by rw[←he] at hv;exact(ekV β).one a v hv)
 have HFIN:∀ W:World,(∀ x,W.cell? x=W1.cell? x)→W.heap=W1.heap→Hid (Row (ekV β) (W.setCells g (i*4) [x0,x1,x2,x3]) base (.slice (some ⟨g,0,none⟩) (n+1) cap) (l.take i++[a]++l.drop i)):=fun W hWc hWh=>by
  obtain⟨cur2,hg2,hsz2⟩:=A1t [x0,x1,x2,x3] (i*4) W cur1 (by rw[hWh];exact hg1)
  have e4:(ekV β).size=4:=rfl
  refine B7d hbg hg2 (by rw[hsz2,hsz1,hsz,e4]) hl (by omega) hroom hcm ?_ ?_ ?_
  ·intro k y hk hy j u hu
   have hj:j < 4:=by have:=(List.getElem?_eq_some_iff.1 hu).1;rw[(ekV β).len] at this;exact this
   rw[e4,World.cell?_setCells_out g _ _ _ _ (fun _ _=>by left;show k*4+j < i*4;omega),hWc,hW1,World.cell?_setCells_out g _ _ _ _ (fun _ _=>by left;show k*4+j < (i+1)*4;omega)]
   exact h.cells hy hu
  ·intro j u hu
   rw[he] at hu
   rw[e4]
   refine A8v (w:=W) (g:=g) (o:=i*4) (vs:=[x0,x1,x2,x3]) (fun j hj=>?_) hu
   have hj:j < 4:=hj
   have:i*4+j < cur1.size:=by omega
   rw[hWc,A0a hg1 _ _ (Array.getElem?_eq_getElem this)];rfl
  ·intro j u hu
   rw[e4,World.cell?_setCells_out g _ _ _ _ (fun _ _=>by right;show i*4+4≤(i+1)*4+j;omega),hWc,hW1]
   exact A8v (w:=w.drew) (g:=g) (o:=(i+1)*4) (fun j hj=>hsp _ (by omega)) hu
 have HFR:∀ W:World,W.heap=W1.heap→W.os=W1.os→W.tape=W1.tape→W.output=W1.output→Hid (FrB [g] w (W.setCells g (i*4) [x0,x1,x2,x3])):=fun W e1 e2 e3 e4=>by
  have f0:FrB [g] w w.drew:=.of_below (Below.refl _ _).drew
  have f1:FrB [g] w W1:=by rw[hW1];exact FrB.setCells (o:=0) _ _ f0 hg (by show(34:TypeId)≠5;decide)
  have f2:FrB [g] w W:=⟨e2.trans f1.os,e3.trans f1.tape,e4.trans f1.output,by rw[e1];exact f1.size,fun k hk hc=>by rw[e1];exact f1.block k hk hc⟩
  exact FrB.setCells (o:=0) _ _ f2 (by rw[e1];exact hg1) (by show(34:TypeId)≠5;decide)
 have mixed:Tryz.prog.follows Departure.mixedOrders=true:=by kernel_rfl
 have hz2:¬ ((i:Int)=(n:Int)):=by omega
 unfold maxLen at hcm
 have hw1:IntKind.i64.wrap ((i:Int)+1)=(i:Int)+1:=by rw[IntKind.wrap_i64];omega
 have hb1:(0:Int)≤(i:Int)+1:=by omega
 have hin:i≤n:=by omega
 have htn:((i:Int)+1).toNat=i+1:=by omega
 have hb2:¬ (cap=i+1):=by omega
 have hb3:(i:Int)≤(n:Int)+1:=by omega
 have hb4:¬ (cap=i):=by omega
 rw[←hW1] at hcp1
 clear hsa hsb hsz hsp hfz hdl hg hcs hvs hg1 hsz1 h hl hbg he hv hW1 hvb cur cur1
 go_enter Tryz.func73,Tryz.ntmps73
 go_wp2_with (simp only[hov])
 go_region_law_o (refine step_copy_runI rfl _ _ 26 26 rfl _ _ (by simp[Act.eval,Act.put]) (by simp[Act.eval,Act.put]) (hcp1 _ _ _) ?_)
 go_wp2_with (at_builtin;refine wpList_copy_runI _ rfl _ _ 26 26 rfl _ _ rfl rfl (hcp2 _ (fun _=>rfl) (fun _=>rfl) _ _) ?_)
 go_ret
 exact⟨rfl,(HFIN _ (fun _=>rfl) rfl).out,(HFR _ rfl rfl rfl rfl).out⟩
end L
end Go.Proofs.YtelmjekjohbmjaaGreatDoor
namespace Go.Proofs.YtelmjekjohbmjaaGreatDoor
namespace L
open Go.RowKit
theorem A6u {B b:Nat}(hb:B≤b):∀ (vs:List Value) (o:Nat){a w:World},Below B a w→Below B a (w.setCells b o vs)
 | [],_,_,_,h=>h
 | _::r,o,_,_,h=>A6u hb r (o+1) (A0f h hb)
theorem B0v (n:Nat):(Builtin.zeroCells (Value.agg #[.int .i64 0,.slice none 0 0,.slice none 0 0,.slice none 0 0]).cells n).size=n*4:=by
 simp[Builtin.zeroCells,Value.cells]
set_option maxHeartbeats 4000000 in
set_option maxRecDepth 100000 in
theorem B1m {β:Type}{w:World}{base:Nat}{g n cap vb i:Nat}{l:List (VL β)}{a:VL β}{x0 x1 x2 x3:Value}(h:Row (ekV β) w base (.slice (some ⟨g,0,none⟩) n cap) l) (he:(ekV β).enc a = [x0,x1,x2,x3]) (hv:w.heap[vb]?=some (.cells #[x0,x1,x2,x3] 34 (0,0)))
  (hi:i < n) (hroom:cap < n+1) (hbig:(n+1)*80≤140737488355328) (hB:base≤w.heap.size) :
  Calls Tryz.prog 73 #[.slice (some ⟨g,0,none⟩) n cap,.int .i64 (i:Int),.slice (some ⟨vb,0,none⟩) 1 1] w fun e w'=>∃ G,e = .returned (.slice (some ⟨w.heap.size,0,none⟩) (n+1) G)∧Row (ekV β) w' base (.slice (some ⟨w.heap.size,0,none⟩) (n+1) G) (l.take i++[a]++l.drop i)∧Below w.heap.size w w':=by
 obtain⟨hl,hbg,hnc,hcm,cur,hg,hsz⟩:=h.cur
 have hgw:g < w.heap.size:=(Array.getElem?_eq_some_iff.1 hg).1
 have hvw:vb < w.heap.size:=(Array.getElem?_eq_some_iff.1 hv).1
 obtain⟨i0,hi0,hz0,hzs,hzb⟩:=info_parts (ekV β).info
 replace hzs:i0.size=4:=hzs
 replace hzb:i0.bytes=80:=hzb
 have e4:(ekV β).size=4:=rfl
 have htl:((ekV β).flat (l.take i)).length=i*4:=by rw[(ekV β).flat_len,List.length_take,hl,e4];omega
 have hdl:((ekV β).flat (l.drop i)).length=(n - i)*4:=by rw[(ekV β).flat_len,List.length_drop,hl];rfl
 have hfl:∀ j v,((ekV β).flat l)[j]?=some v→w.cell? ⟨g,j,none⟩=some v:=fun j v hj=>by
  obtain⟨y,h1,h2⟩:=(ekV β).flat_get hj
  have:=h.cells h1 h2
  rw[Nat.mul_comm,Nat.div_add_mod] at this
  exact this
 have hsp:(ekV β).flat l=(ekV β).flat (l.take i)++(ekV β).flat (l.drop i):=by rw[←(ekV β).flat_append,List.take_append_drop]
 have hct:∀ j v,((ekV β).flat (l.take i))[j]?=some v→w.cell? ⟨g,j,none⟩=some v:=fun j v hj=>hfl j v (by
  rw[hsp,List.getElem?_append_left (List.getElem?_eq_some_iff.1 hj).1];exact hj)
 have hcs:∀ j v,((ekV β).flat (l.drop i))[j]?=some v→w.cell? ⟨g,i*4+j,none⟩=some v:=fun j v hj=>hfl _ v (by
  rw[hsp,List.getElem?_append_right (by omega),htl,Nat.add_sub_cancel_left];exact hj)
 have hkk:(n:Int)+1 - (i:Int)=((n+1 - i:Nat):Int):=by omega
 have hik:i+(n+1 - i)=n+1:=by omega
 have hold:(Builtin.firstCells i0.size i (.slice (some ⟨g,0,none⟩) i cap)).run Tryz.prog w.drew = .ok ((ekV β).flat (l.take i)).toArray w.drew:=by
  rw[hzs]
  exact run_firstCells_some w.drew 4 i ⟨g,0,none⟩ i cap ((ekV β).flat (l.take i)) htl (fun j v hj=>by rw[A0j,Nat.zero_add];exact hct j v hj)
 obtain⟨G,hG⟩:∃ G,G=grownCap w (n+1) cap 34:=⟨_,rfl⟩
 obtain⟨ROW,hROW⟩:∃ ROW:Array Value,ROW=((ekV β).flat (l.take i)).toArray++Builtin.zeroCells (Value.agg #[.int .i64 0,.slice none 0 0,.slice none 0 0,.slice none 0 0]).cells (n+1 - i)++Builtin.zeroCells (Value.agg #[.int .i64 0,.slice none 0 0,.slice none 0 0,.slice none 0 0]).cells (G - (n+1)):=⟨_,rfl⟩
 have hrz:∀ ty,(Builtin.append_ #[26,3] ty #[.slice (some ⟨g,0,none⟩) i cap,.int .i64 ((n:Int)+1 - (i:Int))]).run Tryz.prog w = .ok (.slice (some ⟨w.heap.size,0,none⟩) (n+1) G) (w.drew.alloc (.cells ROW 34)):=fun ty=>by
  have h:=Lib.run_append_grow_zeros w 26 3 ty 34 i0 _ .i64 .i64 Tryz.underlying26 Tryz.underlying3 hi0 hz0 (some ⟨g,0,none⟩) i cap ((ekV β).flat (l.take i)) hold (n+1 - i) (by omega) (by omega) (by omega) (by omega) (by rw[hzb];omega) (by rw[hzb,hik];exact growslice_fits hroom hbig)
  rw[hik] at h
  rw[hkk,hROW,hG]
  exact h
 have hGn:n+1≤G:=by rw[hG];exact grownCap_ge w _ _ _
 have hG63:G≤maxLen:=by rw[hG];exact grownCap_le_maxLen w (n+1) cap _ (by unfold maxLen;omega)
 have hRl:ROW.size=G*4:=by
  rw[hROW,Array.size_append,Array.size_append,B0v,B0v,List.size_toArray,htl]
  omega
 have hRf:∀ j v,((ekV β).flat (l.take i))[j]?=some v→ROW[j]?=some v:=fun j v hj=>by
  have hjl:=(List.getElem?_eq_some_iff.1 hj).1
  rw[hROW,Array.getElem?_append_left (by rw[Array.size_append,List.size_toArray];omega),Array.getElem?_append_left (by rw[List.size_toArray];exact hjl)]
  simpa using hj
 obtain⟨W1,hW1⟩:∃ W1,W1=w.drew.alloc (.cells ROW 34):=⟨_,rfl⟩
 have hN1:W1.heap[w.heap.size]?=some (.cells ROW 34 (0,0)):=by rw[hW1];exact heap_alloc_new w.drew _
 have hb1:Below w.heap.size w W1:=by rw[hW1];exact((Below.refl _ _).drew).alloc (Nat.le_refl _) _
 have hR1:∀ j,j < G*4→(W1.cell? ⟨w.heap.size,j,none⟩).isSome=true:=fun j hj=>by
  rw[A0a hN1 j _ (Array.getElem?_eq_getElem (by omega))];rfl
 have hOb:∀ j v,w.cell? ⟨g,j,none⟩=some v→W1.cell? ⟨g,j,none⟩=some v:=fun j v h=>A0c hb1 h
 have hvs:∀ j v,([x0,x1,x2,x3]:List Value)[j]?=some v→W1.cell? ⟨vb,j,none⟩=some v:=fun j v hj=>A0c hb1 (A0a hv j v (by simpa using hj))
 have hcpA:∀ (W:World),(∀ x,W.cell? x=W1.cell? x)→(∀ x,W.frozen? x=W1.frozen? x)→∀ ty dc,(Builtin.copy_ #[26,26] ty #[.slice (some ⟨w.heap.size,i*4,none⟩) (n+1 - i) dc,.slice (some ⟨vb,0,none⟩) 1 1]).run Tryz.prog W = .ok (goInt 1) (W.setCells w.heap.size (i*4) [x0,x1,x2,x3]):=fun W hWc hWf ty dc=>
  A5p (g:=w.heap.size) (o:=i*4) (dLen:=n+1 - i) (sLen:=1) (m:=1) (by simp only[Nat.min_def];split <;> omega) rfl (fun j v hj=>by rw[A0j,Nat.zero_add,hWc];exact hvs j v hj)
   (fun j hj=>by have hj:j < 4:=hj;rw[hWc];exact hR1 _ (by omega)) (fun j _=>by rw[hWf];exact A0b hN1 _)
   (fun v hv=>by rw[←he] at hv;exact(ekV β).one a v hv)
 obtain⟨W2,hW2⟩:∃ W2,W2=W1.setCells w.heap.size (i*4) [x0,x1,x2,x3]:=⟨_,rfl⟩
 obtain⟨cur2,hN2,hsz2⟩:=A1t [x0,x1,x2,x3] (i*4) W1 ROW hN1
 rw[←hW2] at hN2
 have hb2:Below w.heap.size w W2:=by rw[hW2];exact A6u (Nat.le_refl _) _ _ hb1
 have hR2:∀ j,j < G*4→(W2.cell? ⟨w.heap.size,j,none⟩).isSome=true:=fun j hj=>by
  rw[A0a hN2 j _ (Array.getElem?_eq_getElem (by omega))];rfl
 have hcpB:∀ (W:World),(∀ x,W.cell? x=W2.cell? x)→(∀ x,W.frozen? x=W2.frozen? x)→∀ ty dc sc,(Builtin.copy_ #[26,26] ty #[.slice (some ⟨w.heap.size,(i+1)*4,none⟩) (n - i) dc,.slice (some ⟨g,i*4,none⟩) (n - i) sc]).run Tryz.prog W = .ok (goInt ((n - i:Nat):Int)) (W.setCells w.heap.size ((i+1)*4) ((ekV β).flat (l.drop i))):=fun W hWc hWf ty dc sc=>
  A5p (g:=w.heap.size) (o:=(i+1)*4) (dLen:=n - i) (sLen:=n - i) (m:=n - i) (by simp only[Nat.min_def];split <;> omega) hdl (fun j v hj=>by rw[A0j,hWc];exact A0c hb2 (hcs j v hj))
   (fun j hj=>by rw[hWc];exact hR2 _ (by omega)) (fun j _=>by rw[hWf];exact A0b hN2 _) (B2h _ _)
 have HFIN:∀ W:World,(∀ x,W.cell? x=W2.cell? x)→W.heap=W2.heap→Hid (Row (ekV β) (W.setCells w.heap.size ((i+1)*4) ((ekV β).flat (l.drop i))) base (.slice (some ⟨w.heap.size,0,none⟩) (n+1) G) (l.take i++[a]++l.drop i)):=fun W hWc hWh=>by
  obtain⟨cur3,hN3,hsz3⟩:=A1t ((ekV β).flat (l.drop i)) ((i+1)*4) W cur2 (by rw[hWh];exact hN2)
  refine B7d hB hN3 (by rw[hsz3,hsz2,hRl,e4]) hl (by omega) hGn hG63 ?_ ?_ ?_
  ·intro k y hk hy j u hu
   have hj:j < 4:=by have:=(List.getElem?_eq_some_iff.1 hu).1;rw[(ekV β).len] at this;exact this
   rw[e4,World.cell?_setCells_out _ _ _ _ _ (fun _ _=>by left;show k*4+j < (i+1)*4;omega),hWc,hW2,World.cell?_setCells_out _ _ _ _ _ (fun _ _=>by left;show k*4+j < i*4;omega)]
   refine A0a hN1 _ _ (hRf _ _ ?_)
   have:=(ekV β).flat_at (l.take i) k j y (by rw[List.getElem?_take,if_pos hk];exact hy) hj
   rw[e4] at this
   rw[this];exact hu
  ·intro j u hu
   rw[he] at hu
   have hj:j < 4:=(List.getElem?_eq_some_iff.1 hu).1
   rw[e4,World.cell?_setCells_out _ _ _ _ _ (fun _ _=>by left;show i*4+j < (i+1)*4;omega),hWc,hW2]
   exact A8v (w:=W1) (g:=w.heap.size) (o:=i*4) (vs:=[x0,x1,x2,x3]) (fun j hj=>hR1 _ (by have hj:j < 4:=hj;omega)) hu
  ·intro j u hu
   rw[e4]
   exact A8v (w:=W) (g:=w.heap.size) (o:=(i+1)*4) (fun j hj=>by rw[hWc];exact hR2 _ (by omega)) hu
 have HFR:∀ W:World,W.heap=W2.heap→W.os=W2.os→W.tape=W2.tape→W.output=W2.output→Hid (Below w.heap.size w (W.setCells w.heap.size ((i+1)*4) ((ekV β).flat (l.drop i)))):=fun W e1 e2 e3 e4=>
  A6u (Nat.le_refl _) _ _ ⟨e2.trans hb2.os,e3.trans hb2.tape,e4.trans hb2.output,by rw[e1];exact hb2.size,fun k hk=>by rw[e1];exact hb2.block k hk⟩
 have mixed:Tryz.prog.follows Departure.mixedOrders=true:=by kernel_rfl
 have hz2:¬ ((i:Int)=(n:Int)):=by omega
 have hz3:(cap:Int) < (n:Int)+1:=by omega
 unfold maxLen at hcm hG63
 have hw1:IntKind.i64.wrap ((i:Int)+1)=(i:Int)+1:=by rw[IntKind.wrap_i64];omega
 have hb1':(0:Int)≤(i:Int)+1:=by omega
 have hin:i≤n:=by omega
 have htn:((i:Int)+1).toNat=i+1:=by omega
 have hb3:(i:Int)≤(n:Int):=by omega
 have hGi:¬ (G=i):=by omega
 have hGim:¬ (G=i+1):=by omega
 have hci:¬ (cap=i):=by omega
 have hA:∀ ty dc,(Builtin.copy_ #[26,26] ty #[.slice (some ⟨w.heap.size,i*4,none⟩) (n+1 - i) dc,.slice (some ⟨vb,0,none⟩) 1 1]).run Tryz.prog W1 = .ok (goInt 1) W2:=fun ty dc=>by rw[hW2];exact hcpA W1 (fun _=>rfl) (fun _=>rfl) ty dc
 have hBc:∀ ty dc sc,(Builtin.copy_ #[26,26] ty #[.slice (some ⟨w.heap.size,(i+1)*4,none⟩) (n - i) dc,.slice (some ⟨g,i*4,none⟩) (n - i) sc]).run Tryz.prog W2.drew = .ok (goInt ((n - i:Nat):Int)) (W2.drew.setCells w.heap.size ((i+1)*4) ((ekV β).flat (l.drop i))):=hcpB W2.drew (fun _=>rfl) (fun _=>rfl)
 have HF1:=HFIN W2.drew (fun _=>rfl) rfl
 have HF2:=HFR W2.drew rfl rfl rfl rfl
 rw[←hW1] at hrz
 clear HFIN HFR hcpA hcpB hW1 hW2
 clear hsz hg hold hROW hG hRl hRf hN1 hN2 hR1 hR2 hOb hvs hb1 hb2 hct hcs hfl hsp htl hdl h hl hbg he hv hkk hik hi0 hz0 hzs hzb hsz2 e4 hgw hvw cur cur2 ROW
 go_enter Tryz.func73,Tryz.ntmps73
 go_wp2_with (first
  | (at_builtin;refine Lib.wpList_append_run _ rfl _ _ _ _ rfl _ _ rfl rfl _ _ (hrz _) ?_)
  | (at_builtin;refine wpList_copy_runI _ rfl _ _ 26 26 rfl _ _ rfl rfl (hA _ _) ?_))
 go_region_law_o (refine step_copy_runI rfl _ _ 26 26 rfl _ _ (by simp[Act.eval,Act.put]) (by simp[Act.eval,Act.put]) (hBc _ _ _) ?_)
 go_wp2
 go_ret
 exact⟨G,rfl,HF1.out,HF2.out⟩
end L
end Go.Proofs.YtelmjekjohbmjaaGreatDoor
namespace Go.Proofs.YtelmjekjohbmjaaGreatDoor
namespace L
open Go.RowKit
theorem C0l {β:Type}{w:World}{base:Nat}{ao:Option Addr}{n cap vb i:Nat}{l:List (VL β)}{a:VL β}{x0 x1 x2 x3:Value}(h:Row (ekV β) w base (.slice ao n cap) l) (he:(ekV β).enc a = [x0,x1,x2,x3]) (hv:w.heap[vb]?=some (.cells #[x0,x1,x2,x3] 34 (0,0)))
  (hvb:(Value.slice ao n cap).ownBlock≠some vb) (hi:i≤l.length) (hlen:(l.length+1)*80≤140737488355328) (hb:base≤w.heap.size) :
  Calls Tryz.prog 73 #[.slice ao n cap,.int .i64 (i:Int),.slice (some ⟨vb,0,none⟩) 1 1] w fun e w'=>∃ q:PV,e = .returned q.v∧(∀ k,q.v.ownBlock=some k→(Value.slice ao n cap).ownBlock=some k∨w.heap.size≤k)∧Row (ekV β) w' base q.v (l.take i++[a]++l.drop i)∧FrB (Value.slice ao n cap).ownBlock.toList w w':=by
 have hn:l.length=n:=by
  obtain⟨ao',cap',e⟩:=h.shape
  cases e;rfl
 rw[hn] at hi hlen
 by_cases he1:i=n
 ·subst he1
  refine(B3v h he hv hlen hb).mono fun e w' ⟨q,h1,h2,h3,h4⟩=>⟨q,h1,h2,?_,h4⟩
  rw[List.take_of_length_le (by omega),List.drop_of_length_le (by omega),List.append_nil]
  exact h3
 ·have hi':i < n:=by omega
  obtain⟨g,rfl⟩:∃ g,ao=some ⟨g,0,none⟩:=by
   rcases h.2 with⟨e,hn0⟩|⟨g,cap',cur,e,_⟩
   ·omega
   ·cases e;exact⟨g,rfl⟩
  by_cases hr:n+1≤cap
  ·exact(A9t h he hv (fun e=>hvb (by rw[e];rfl)) hi' hr).mono fun e w' ⟨h1,h2,h3⟩=>⟨(some ⟨g,0,none⟩,n+1,cap),h1,fun k hk=>.inl hk,h2,h3⟩
  ·refine(B1m h he hv hi' (by omega) hlen hb).mono fun e w' ⟨G,h1,h2,h3⟩=>⟨(some ⟨w.heap.size,0,none⟩,n+1,G),h1,fun k hk=>.inr ?_,h2,.of_below h3⟩
   have hk:w.heap.size=k:=by simpa [PV.v,Value.ownBlock] using hk
   omega
end L
end Go.Proofs.YtelmjekjohbmjaaGreatDoor
