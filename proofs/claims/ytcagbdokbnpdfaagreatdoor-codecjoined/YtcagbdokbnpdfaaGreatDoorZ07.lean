import Derived.Test.YtcagbdokbnpdfaaGreatDoorZ06
import Derived.Shelf.Spec.SlicesInsertGrow
import Derived.Test.YtcagbdokbnpdfaaGreatDoorZ03
import Derived.Deep.RegionHeld3
namespace Go.Proofs.YtcagbdokbnpdfaaGreatDoor
namespace L
open Go.RowKit
theorem B9n {α:Type}(E:EK α) (l:List α):∀ u∈E.flat l,u.oneCell'=true:=by
 intro y hy
 simp only[EK.flat,List.mem_flatMap] at hy
 obtain⟨p,_,hy⟩:=hy
 exact E.one p y hy
theorem B3h {w:World}{g o j:Nat}{vs:List Value}{u:Value}(hc:∀ j,j < vs.length→(w.cell? ⟨g,o+j,none⟩).isSome=true) (hu:vs[j]?=some u):(w.setCells g o vs).cell? ⟨g,o+j,none⟩=some u:=by
 obtain⟨hj,e⟩:=List.getElem?_eq_some_iff.1 hu
 rw[World.cell?_setCells_in g vs o w hc j hj,e]
set_option maxHeartbeats 4000000 in
set_option maxRecDepth 100000 in
theorem B5k {β:Type}{w:World}{base:Nat}{g n cap vb i:Nat}{l:List (VL β)}{a:VL β}{x0 x1 x2 x3:Value}(h:Row (ekV β) w base (.slice (some ⟨g,0,none⟩) n cap) l) (he:(ekV β).enc a = [x0,x1,x2,x3]) (hv:w.heap[vb]?=some (.cells #[x0,x1,x2,x3] 54 (0,0)))
  (hvb:vb≠g) (hi:i < n) (hroom:n+1≤cap) :
  Calls Tryz.prog 166 #[.slice (some ⟨g,0,none⟩) n cap,.int .i64 (i:Int),.slice (some ⟨vb,0,none⟩) 1 1] w fun e w'=>e = .returned (.slice (some ⟨g,0,none⟩) (n+1) cap)∧Row (ekV β) w' base (.slice (some ⟨g,0,none⟩) (n+1) cap) (l.take i++[a]++l.drop i)∧FrB [g] w w':=by
 obtain⟨hl,hbg,hnc,hcm,cur,hg,hsz⟩:=h.cur
 replace hsz:cur.size=cap*4:=hsz
 have hsp:∀ j,j < (n+1)*4→(w.cell? ⟨g,j,none⟩).isSome=true:=fun j hj=>by
  have:j < cur.size:=by omega
  rw[A0a hg j _ (Array.getElem?_eq_getElem this)];rfl
 have hfz:∀ j,w.frozen? ⟨g,j,none⟩=false:=fun j=>A0b hg j
 have hdl:((ekV β).flat (l.drop i)).length=(n - i)*4:=by rw[(ekV β).flat_len,List.length_drop,hl];rfl
 have hsa:w.shape? vb=some (54,4):=by simp[World.shape?,hv]
 have hsb:w.shape? g=some (54,cur.size):=by simp only[World.shape?,hg];rfl
 have hov:∀ lb cb o,(callFunc 218 #[.slice (some ⟨vb,0,none⟩) 1 1,.slice (some ⟨g,o,none⟩) lb cb]).run Tryz.prog w = .ok (.value (.bool false)) w:=fun lb cb o=>by
  rw[run_callFunc_extern Tryz.func218 (by kernel_rfl) (by kernel_rfl) (by kernel_rfl) (e:=Extern.SlicesOverlaps.overlaps #[26,26] #[4]) (by kernel_rfl),
   Lib.run_overlaps_apart w 26 4 54 Tryz.underlying26 4 (fun w=>by kernel_rfl) ⟨vb,0,none⟩ ⟨g,o,none⟩ 1 1 lb cb hvb _ _ _ _ hsa hsb (by omega) (A0b hv 0) (A0b hv _)]
  rfl
 have hcs:∀ j v,((ekV β).flat (l.drop i))[j]?=some v→w.cell? ⟨g,i*4+j,none⟩=some v:=fun j v hj=>by
  obtain⟨y,h1,h2⟩:=(ekV β).flat_get hj
  rw[List.getElem?_drop] at h1
  have:=h.cells h1 h2
  have e4:(ekV β).size=4:=rfl
  rw[e4] at this
  rw[show i*4+j=(i+j / 4)*4+j%4 by omega]
  exact this
 have hcp1:∀ ty dc sc,(Builtin.copy_ #[26,26] ty #[.slice (some ⟨g,(i+1)*4,none⟩) (n - i) dc,.slice (some ⟨g,i*4,none⟩) (n+1 - i) sc]).run Tryz.prog w.drew = .ok (goInt ((n - i:Nat):Int)) (w.drew.setCells g ((i+1)*4) ((ekV β).flat (l.drop i))):=fun ty dc sc=>
  A8b (w:=w.drew) (g:=g) (o:=(i+1)*4) (dLen:=n - i) (sLen:=n+1 - i) (m:=n - i) (by simp only[Nat.min_def];split <;> omega) hdl (fun j v hj=>by rw[A0f];exact hcs j v hj) (fun j hj=>hsp _ (by omega)) (fun j _=>hfz _) (B9n _ _)
 obtain⟨W1,hW1⟩:∃ W1,W1=w.drew.setCells g ((i+1)*4) ((ekV β).flat (l.drop i)):=⟨_,rfl⟩
 obtain⟨cur1,hg1,hsz1⟩:=A2p ((ekV β).flat (l.drop i)) ((i+1)*4) w.drew cur hg
 rw[←hW1] at hg1
 have hvs:∀ j v,([x0,x1,x2,x3]:List Value)[j]?=some v→W1.cell? ⟨vb,j,none⟩=some v:=fun j v hj=>by
  rw[hW1,World.cell?_setCells_out g _ _ _ _ (fun h _=>absurd h hvb)]
  exact A0a (w:=w) hv j v (by simpa using hj)
 have hcp2:∀ (W:World),(∀ x,W.cell? x=W1.cell? x)→(∀ x,W.frozen? x=W1.frozen? x)→∀ ty dc,(Builtin.copy_ #[26,26] ty #[.slice (some ⟨g,i*4,none⟩) (n+1 - i) dc,.slice (some ⟨vb,0,none⟩) 1 1]).run Tryz.prog W = .ok (goInt 1) (W.setCells g (i*4) [x0,x1,x2,x3]):=fun W hWc hWf ty dc=>
  A8b (g:=g) (o:=i*4) (dLen:=n+1 - i) (sLen:=1) (m:=1) (by simp only[Nat.min_def];split <;> omega) rfl (fun j v hj=>by rw[A0f,Nat.zero_add,hWc];exact hvs j v hj)
   (fun j hj=>by
    have hj:j < 4:=hj
    have:i*4+j < cur1.size:=by omega
    rw[hWc,A0a hg1 _ _ (Array.getElem?_eq_getElem this)];rfl) (fun j _=>by rw[hWf];exact A0b hg1 _)
   (fun v hv=>by rw[←he] at hv;exact(ekV β).one a v hv)
 have HFIN:∀ W:World,(∀ x,W.cell? x=W1.cell? x)→W.heap=W1.heap→Hid (Row (ekV β) (W.setCells g (i*4) [x0,x1,x2,x3]) base (.slice (some ⟨g,0,none⟩) (n+1) cap) (l.take i++[a]++l.drop i)):=fun W hWc hWh=>by
  obtain⟨cur2,hg2,hsz2⟩:=A2p [x0,x1,x2,x3] (i*4) W cur1 (by rw[hWh];exact hg1)
  have e4:(ekV β).size=4:=rfl
  refine C6s hbg hg2 (by rw[hsz2,hsz1,hsz,e4]) hl (by omega) hroom hcm ?_ ?_ ?_
  ·intro k y hk hy j u hu
   have hj:j < 4:=by have:=(List.getElem?_eq_some_iff.1 hu).1;rw[(ekV β).len] at this;exact this
   rw[e4,World.cell?_setCells_out g _ _ _ _ (fun _ _=>by left;show k*4+j < i*4;omega),hWc,hW1,World.cell?_setCells_out g _ _ _ _ (fun _ _=>by left;show k*4+j < (i+1)*4;omega)]
   exact h.cells hy hu
  ·intro j u hu
   rw[he] at hu
   rw[e4]
   refine B3h (w:=W) (g:=g) (o:=i*4) (vs:=[x0,x1,x2,x3]) (fun j hj=>?_) hu
   have hj:j < 4:=hj
   have:i*4+j < cur1.size:=by omega
   rw[hWc,A0a hg1 _ _ (Array.getElem?_eq_getElem this)];rfl
  ·intro j u hu
   rw[e4,World.cell?_setCells_out g _ _ _ _ (fun _ _=>by right;show i*4+4≤(i+1)*4+j;omega),hWc,hW1]
   exact B3h (w:=w.drew) (g:=g) (o:=(i+1)*4) (fun j hj=>hsp _ (by omega)) hu
 have HFR:∀ W:World,W.heap=W1.heap→W.os=W1.os→W.tape=W1.tape→W.output=W1.output→Hid (FrB [g] w (W.setCells g (i*4) [x0,x1,x2,x3])):=fun W e1 e2 e3 e4=>by
  have f0:FrB [g] w w.drew:=.of_below (Below.refl _ _).drew
  have f1:FrB [g] w W1:=by rw[hW1];exact FrB.setCells (o:=0) _ _ f0 hg (by show(54:TypeId)≠5;decide)
  have f2:FrB [g] w W:=⟨e2.trans f1.os,e3.trans f1.tape,e4.trans f1.output,by rw[e1];exact f1.size,fun k hk hc=>by rw[e1];exact f1.block k hk hc⟩
  exact FrB.setCells (o:=0) _ _ f2 (by rw[e1];exact hg1) (by show(54:TypeId)≠5;decide)
 have mixed:Tryz.prog.follows Departure.mixedOrders=true:=by kernel_rfl
 have hz2:¬ ((i:Int)=(n:Int)):=by omega
 unfold maxLen at hcm
 have hw1:IntKind.i64.wrap ((i:Int)+1)=(i:Int)+1:=by rw[IntKind.wrap_i64];omega
 have hb1:(0:Int)≤(i:Int)+1:=by omega
 have hin:i≤n:=by omega
 have htn:((i:Int)+1).toNat=i+1:=by omega
 have hb2:¬ (cap=i+1):=by omega
 have hb3:(i:Int)≤(n:Int)+1:=by omega
 have hb4:¬ (cap=i):=by omega
 rw[←hW1] at hcp1
 clear hsa hsb hsz hsp hfz hdl hg hcs hvs hg1 hsz1 h hl hbg he hv hW1 hvb cur cur1
 go_enter Tryz.func166,Tryz.ntmps166
 go_wp2_with (simp only[hov])
 go_region_law_o (refine step_copy_runI rfl _ _ 26 26 rfl _ _ (by simp[Act.eval,Act.put]) (by simp[Act.eval,Act.put]) (hcp1 _ _ _) ?_)
 go_wp2_with (at_builtin;refine wpList_copy_runI _ rfl _ _ 26 26 rfl _ _ rfl rfl (hcp2 _ (fun _=>rfl) (fun _=>rfl) _ _) ?_)
 go_ret
 exact⟨rfl,(HFIN _ (fun _=>rfl) rfl).out,(HFR _ rfl rfl rfl rfl).out⟩
end L
end Go.Proofs.YtcagbdokbnpdfaaGreatDoor
namespace Go.Proofs.YtcagbdokbnpdfaaGreatDoor
namespace L
open Go.RowKit
theorem B0c {B b:Nat}(hb:B≤b):∀ (vs:List Value) (o:Nat){a w:World},Below B a w→Below B a (w.setCells b o vs)
 | [],_,_,_,h=>h
 | _::r,o,_,_,h=>B0c hb r (o+1) (A0p h hb)
theorem B6t (n:Nat):(Builtin.zeroCells (Value.agg #[.int .i64 0,.slice none 0 0,.slice none 0 0,.slice none 0 0]).cells n).size=n*4:=by
 simp[Builtin.zeroCells,Value.cells]
set_option maxHeartbeats 4000000 in
set_option maxRecDepth 100000 in
theorem B7w {β:Type}{w:World}{base:Nat}{g n cap vb i:Nat}{l:List (VL β)}{a:VL β}{x0 x1 x2 x3:Value}(h:Row (ekV β) w base (.slice (some ⟨g,0,none⟩) n cap) l) (he:(ekV β).enc a = [x0,x1,x2,x3]) (hv:w.heap[vb]?=some (.cells #[x0,x1,x2,x3] 54 (0,0)))
  (hi:i < n) (hroom:cap < n+1) (hbig:(n+1)*80≤140737488355328) (hB:base≤w.heap.size) :
  Calls Tryz.prog 166 #[.slice (some ⟨g,0,none⟩) n cap,.int .i64 (i:Int),.slice (some ⟨vb,0,none⟩) 1 1] w fun e w'=>∃ G,e = .returned (.slice (some ⟨w.heap.size,0,none⟩) (n+1) G)∧Row (ekV β) w' base (.slice (some ⟨w.heap.size,0,none⟩) (n+1) G) (l.take i++[a]++l.drop i)∧Below w.heap.size w w':=by
 obtain⟨hl,hbg,hnc,hcm,cur,hg,hsz⟩:=h.cur
 have hgw:g < w.heap.size:=(Array.getElem?_eq_some_iff.1 hg).1
 have hvw:vb < w.heap.size:=(Array.getElem?_eq_some_iff.1 hv).1
 obtain⟨i0,hi0,hz0,hzs,hzb⟩:=info_parts (ekV β).info
 replace hzs:i0.size=4:=hzs
 replace hzb:i0.bytes=80:=hzb
 have e4:(ekV β).size=4:=rfl
 have htl:((ekV β).flat (l.take i)).length=i*4:=by rw[(ekV β).flat_len,List.length_take,hl,e4];omega
 have hdl:((ekV β).flat (l.drop i)).length=(n - i)*4:=by rw[(ekV β).flat_len,List.length_drop,hl];rfl
 have hfl:∀ j v,((ekV β).flat l)[j]?=some v→w.cell? ⟨g,j,none⟩=some v:=fun j v hj=>by
  obtain⟨y,h1,h2⟩:=(ekV β).flat_get hj
  have:=h.cells h1 h2
  rw[Nat.mul_comm,Nat.div_add_mod] at this
  exact this
 have hsp:(ekV β).flat l=(ekV β).flat (l.take i)++(ekV β).flat (l.drop i):=by rw[←(ekV β).flat_append,List.take_append_drop]
 have hct:∀ j v,((ekV β).flat (l.take i))[j]?=some v→w.cell? ⟨g,j,none⟩=some v:=fun j v hj=>hfl j v (by
  rw[hsp,List.getElem?_append_left (List.getElem?_eq_some_iff.1 hj).1];exact hj)
 have hcs:∀ j v,((ekV β).flat (l.drop i))[j]?=some v→w.cell? ⟨g,i*4+j,none⟩=some v:=fun j v hj=>hfl _ v (by
  rw[hsp,List.getElem?_append_right (by omega),htl,Nat.add_sub_cancel_left];exact hj)
 have hkk:(n:Int)+1 - (i:Int)=((n+1 - i:Nat):Int):=by omega
 have hik:i+(n+1 - i)=n+1:=by omega
 have hold:(Builtin.firstCells i0.size i (.slice (some ⟨g,0,none⟩) i cap)).run Tryz.prog w.drew = .ok ((ekV β).flat (l.take i)).toArray w.drew:=by
  rw[hzs]
  exact run_firstCells_some w.drew 4 i ⟨g,0,none⟩ i cap ((ekV β).flat (l.take i)) htl (fun j v hj=>by rw[A0f,Nat.zero_add];exact hct j v hj)
 obtain⟨G,hG⟩:∃ G,G=grownCap w (n+1) cap 54:=⟨_,rfl⟩
 obtain⟨ROW,hROW⟩:∃ ROW:Array Value,ROW=((ekV β).flat (l.take i)).toArray++Builtin.zeroCells (Value.agg #[.int .i64 0,.slice none 0 0,.slice none 0 0,.slice none 0 0]).cells (n+1 - i)++Builtin.zeroCells (Value.agg #[.int .i64 0,.slice none 0 0,.slice none 0 0,.slice none 0 0]).cells (G - (n+1)):=⟨_,rfl⟩
 have hrz:∀ ty,(Builtin.append_ #[26,3] ty #[.slice (some ⟨g,0,none⟩) i cap,.int .i64 ((n:Int)+1 - (i:Int))]).run Tryz.prog w = .ok (.slice (some ⟨w.heap.size,0,none⟩) (n+1) G) (w.drew.alloc (.cells ROW 54)):=fun ty=>by
  have h:=Lib.run_append_grow_zeros w 26 3 ty 54 i0 _ .i64 .i64 Tryz.underlying26 Tryz.underlying3 hi0 hz0 (some ⟨g,0,none⟩) i cap ((ekV β).flat (l.take i)) hold (n+1 - i) (by omega) (by omega) (by omega) (by omega) (by rw[hzb];omega) (by rw[hzb,hik];exact growslice_fits hroom hbig)
  rw[hik] at h
  rw[hkk,hROW,hG]
  exact h
 have hGn:n+1≤G:=by rw[hG];exact grownCap_ge w _ _ _
 have hG63:G≤maxLen:=by rw[hG];exact grownCap_le_maxLen w (n+1) cap _ (by unfold maxLen;omega)
 have hRl:ROW.size=G*4:=by
  rw[hROW,Array.size_append,Array.size_append,B6t,B6t,List.size_toArray,htl]
  omega
 have hRf:∀ j v,((ekV β).flat (l.take i))[j]?=some v→ROW[j]?=some v:=fun j v hj=>by
  have hjl:=(List.getElem?_eq_some_iff.1 hj).1
  rw[hROW,Array.getElem?_append_left (by rw[Array.size_append,List.size_toArray];omega),Array.getElem?_append_left (by rw[List.size_toArray];exact hjl)]
  simpa using hj
 obtain⟨W1,hW1⟩:∃ W1,W1=w.drew.alloc (.cells ROW 54):=⟨_,rfl⟩
 have hN1:W1.heap[w.heap.size]?=some (.cells ROW 54 (0,0)):=by rw[hW1];exact heap_alloc_new w.drew _
 have hb1:Below w.heap.size w W1:=by rw[hW1];exact((Below.refl _ _).drew).alloc (Nat.le_refl _) _
 have hR1:∀ j,j < G*4→(W1.cell? ⟨w.heap.size,j,none⟩).isSome=true:=fun j hj=>by
  rw[A0a hN1 j _ (Array.getElem?_eq_getElem (by omega))];rfl
 have hOb:∀ j v,w.cell? ⟨g,j,none⟩=some v→W1.cell? ⟨g,j,none⟩=some v:=fun j v h=>A0c hb1 h
 have hvs:∀ j v,([x0,x1,x2,x3]:List Value)[j]?=some v→W1.cell? ⟨vb,j,none⟩=some v:=fun j v hj=>A0c hb1 (A0a hv j v (by simpa using hj))
 have hcpA:∀ (W:World),(∀ x,W.cell? x=W1.cell? x)→(∀ x,W.frozen? x=W1.frozen? x)→∀ ty dc,(Builtin.copy_ #[26,26] ty #[.slice (some ⟨w.heap.size,i*4,none⟩) (n+1 - i) dc,.slice (some ⟨vb,0,none⟩) 1 1]).run Tryz.prog W = .ok (goInt 1) (W.setCells w.heap.size (i*4) [x0,x1,x2,x3]):=fun W hWc hWf ty dc=>
  A8b (g:=w.heap.size) (o:=i*4) (dLen:=n+1 - i) (sLen:=1) (m:=1) (by simp only[Nat.min_def];split <;> omega) rfl (fun j v hj=>by rw[A0f,Nat.zero_add,hWc];exact hvs j v hj)
   (fun j hj=>by have hj:j < 4:=hj;rw[hWc];exact hR1 _ (by omega)) (fun j _=>by rw[hWf];exact A0b hN1 _)
   (fun v hv=>by rw[←he] at hv;exact(ekV β).one a v hv)
 obtain⟨W2,hW2⟩:∃ W2,W2=W1.setCells w.heap.size (i*4) [x0,x1,x2,x3]:=⟨_,rfl⟩
 obtain⟨cur2,hN2,hsz2⟩:=A2p [x0,x1,x2,x3] (i*4) W1 ROW hN1
 rw[←hW2] at hN2
 have hb2:Below w.heap.size w W2:=by rw[hW2];exact B0c (Nat.le_refl _) _ _ hb1
 have hR2:∀ j,j < G*4→(W2.cell? ⟨w.heap.size,j,none⟩).isSome=true:=fun j hj=>by
  rw[A0a hN2 j _ (Array.getElem?_eq_getElem (by omega))];rfl
 have hcpB:∀ (W:World),(∀ x,W.cell? x=W2.cell? x)→(∀ x,W.frozen? x=W2.frozen? x)→∀ ty dc sc,(Builtin.copy_ #[26,26] ty #[.slice (some ⟨w.heap.size,(i+1)*4,none⟩) (n - i) dc,.slice (some ⟨g,i*4,none⟩) (n - i) sc]).run Tryz.prog W = .ok (goInt ((n - i:Nat):Int)) (W.setCells w.heap.size ((i+1)*4) ((ekV β).flat (l.drop i))):=fun W hWc hWf ty dc sc=>
  A8b (g:=w.heap.size) (o:=(i+1)*4) (dLen:=n - i) (sLen:=n - i) (m:=n - i) (by simp only[Nat.min_def];split <;> omega) hdl (fun j v hj=>by rw[A0f,hWc];exact A0c hb2 (hcs j v hj))
   (fun j hj=>by rw[hWc];exact hR2 _ (by omega)) (fun j _=>by rw[hWf];exact A0b hN2 _) (B9n _ _)
 have HFIN:∀ W:World,(∀ x,W.cell? x=W2.cell? x)→W.heap=W2.heap→Hid (Row (ekV β) (W.setCells w.heap.size ((i+1)*4) ((ekV β).flat (l.drop i))) base (.slice (some ⟨w.heap.size,0,none⟩) (n+1) G) (l.take i++[a]++l.drop i)):=fun W hWc hWh=>by
  obtain⟨cur3,hN3,hsz3⟩:=A2p ((ekV β).flat (l.drop i)) ((i+1)*4) W cur2 (by rw[hWh];exact hN2)
  refine C6s hB hN3 (by rw[hsz3,hsz2,hRl,e4]) hl (by omega) hGn hG63 ?_ ?_ ?_
  ·intro k y hk hy j u hu
   have hj:j < 4:=by have:=(List.getElem?_eq_some_iff.1 hu).1;rw[(ekV β).len] at this;exact this
   rw[e4,World.cell?_setCells_out _ _ _ _ _ (fun _ _=>by left;show k*4+j < (i+1)*4;omega),hWc,hW2,World.cell?_setCells_out _ _ _ _ _ (fun _ _=>by left;show k*4+j < i*4;omega)]
   refine A0a hN1 _ _ (hRf _ _ ?_)
   have:=(ekV β).flat_at (l.take i) k j y (by rw[List.getElem?_take,if_pos hk];exact hy) hj
   rw[e4] at this
   rw[this];exact hu
  ·intro j u hu
   rw[he] at hu
   have hj:j < 4:=(List.getElem?_eq_some_iff.1 hu).1
   rw[e4,World.cell?_setCells_out _ _ _ _ _ (fun _ _=>by left;show i*4+j < (i+1)*4;omega),hWc,hW2]
   exact B3h (w:=W1) (g:=w.heap.size) (o:=i*4) (vs:=[x0,x1,x2,x3]) (fun j hj=>hR1 _ (by have hj:j < 4:=hj;omega)) hu
  ·intro j u hu
   rw[e4]
   exact B3h (w:=W) (g:=w.heap.size) (o:=(i+1)*4) (fun j hj=>by rw[hWc];exact hR2 _ (by omega)) hu
 have HFR:∀ W:World,W.heap=W2.heap→W.os=W2.os→W.tape=W2.tape→W.output=W2.output→Hid (Below w.heap.size w (W.setCells w.heap.size ((i+1)*4) ((ekV β).flat (l.drop i)))):=fun W e1 e2 e3 e4=>
  B0c (Nat.le_refl _) _ _ ⟨e2.trans hb2.os,e3.trans hb2.tape,e4.trans hb2.output,by rw[e1];exact hb2.size,fun k hk=>by rw[e1];exact hb2.block k hk⟩
 have mixed:Tryz.prog.follows Departure.mixedOrders=true:=by kernel_rfl
 have hz2:¬ ((i:Int)=(n:Int)):=by omega
 have hz3:(cap:Int) < (n:Int)+1:=by omega
 unfold maxLen at hcm hG63
 have hw1:IntKind.i64.wrap ((i:Int)+1)=(i:Int)+1:=by rw[IntKind.wrap_i64];omega
 have hb1':(0:Int)≤(i:Int)+1:=by omega
 have hin:i≤n:=by omega
 have htn:((i:Int)+1).toNat=i+1:=by omega
 have hb3:(i:Int)≤(n:Int):=by omega
 have hGi:¬ (G=i):=by omega
 have hGim:¬ (G=i+1):=by omega
 have hci:¬ (cap=i):=by omega
 have hA:∀ ty dc,(Builtin.copy_ #[26,26] ty #[.slice (some ⟨w.heap.size,i*4,none⟩) (n+1 - i) dc,.slice (some ⟨vb,0,none⟩) 1 1]).run Tryz.prog W1 = .ok (goInt 1) W2:=fun ty dc=>by rw[hW2];exact hcpA W1 (fun _=>rfl) (fun _=>rfl) ty dc
 have hBc:∀ ty dc sc,(Builtin.copy_ #[26,26] ty #[.slice (some ⟨w.heap.size,(i+1)*4,none⟩) (n - i) dc,.slice (some ⟨g,i*4,none⟩) (n - i) sc]).run Tryz.prog W2.drew = .ok (goInt ((n - i:Nat):Int)) (W2.drew.setCells w.heap.size ((i+1)*4) ((ekV β).flat (l.drop i))):=hcpB W2.drew (fun _=>rfl) (fun _=>rfl)
 have HF1:=HFIN W2.drew (fun _=>rfl) rfl
 have HF2:=HFR W2.drew rfl rfl rfl rfl
 rw[←hW1] at hrz
 clear HFIN HFR hcpA hcpB hW1 hW2
 clear hsz hg hold hROW hG hRl hRf hN1 hN2 hR1 hR2 hOb hvs hb1 hb2 hct hcs hfl hsp htl hdl h hl hbg he hv hkk hik hi0 hz0 hzs hzb hsz2 e4 hgw hvw cur cur2 ROW
 go_enter Tryz.func166,Tryz.ntmps166
 go_wp2_with (first
  | (at_builtin;refine Lib.wpList_append_run _ rfl _ _ _ _ rfl _ _ rfl rfl _ _ (hrz _) ?_)
  | (at_builtin;refine wpList_copy_runI _ rfl _ _ 26 26 rfl _ _ rfl rfl (hA _ _) ?_))
 go_region_law_o (refine step_copy_runI rfl _ _ 26 26 rfl _ _ (by simp[Act.eval,Act.put]) (by simp[Act.eval,Act.put]) (hBc _ _ _) ?_)
 go_wp2
 go_ret
 exact⟨G,rfl,HF1.out,HF2.out⟩
end L
end Go.Proofs.YtcagbdokbnpdfaaGreatDoor
namespace Go.Proofs.YtcagbdokbnpdfaaGreatDoor
namespace L
open Go.RowKit
theorem D1y {β:Type}{w:World}{base:Nat}{ao:Option Addr}{n cap vb i:Nat}{l:List (VL β)}{a:VL β}{x0 x1 x2 x3:Value}(h:Row (ekV β) w base (.slice ao n cap) l) (he:(ekV β).enc a = [x0,x1,x2,x3]) (hv:w.heap[vb]?=some (.cells #[x0,x1,x2,x3] 54 (0,0)))
  (hvb:(Value.slice ao n cap).ownBlock≠some vb) (hi:i≤l.length) (hlen:(l.length+1)*80≤140737488355328) (hb:base≤w.heap.size) :
  Calls Tryz.prog 166 #[.slice ao n cap,.int .i64 (i:Int),.slice (some ⟨vb,0,none⟩) 1 1] w fun e w'=>∃ q:PV,e = .returned q.v∧(∀ k,q.v.ownBlock=some k→(Value.slice ao n cap).ownBlock=some k∨w.heap.size≤k)∧Row (ekV β) w' base q.v (l.take i++[a]++l.drop i)∧FrB (Value.slice ao n cap).ownBlock.toList w w':=by
 have hn:l.length=n:=by
  obtain⟨ao',cap',e⟩:=h.shape
  cases e;rfl
 rw[hn] at hi hlen
 by_cases he1:i=n
 ·subst he1
  refine(C2j h he hv hlen hb).mono fun e w' ⟨q,h1,h2,h3,h4⟩=>⟨q,h1,h2,?_,h4⟩
  rw[List.take_of_length_le (by omega),List.drop_of_length_le (by omega),List.append_nil]
  exact h3
 ·have hi':i < n:=by omega
  obtain⟨g,rfl⟩:∃ g,ao=some ⟨g,0,none⟩:=by
   rcases h.2 with⟨e,hn0⟩|⟨g,cap',cur,e,_⟩
   ·omega
   ·cases e;exact⟨g,rfl⟩
  by_cases hr:n+1≤cap
  ·exact(B5k h he hv (fun e=>hvb (by rw[e];rfl)) hi' hr).mono fun e w' ⟨h1,h2,h3⟩=>⟨(some ⟨g,0,none⟩,n+1,cap),h1,fun k hk=>.inl hk,h2,h3⟩
  ·refine(B7w h he hv hi' (by omega) hlen hb).mono fun e w' ⟨G,h1,h2,h3⟩=>⟨(some ⟨w.heap.size,0,none⟩,n+1,G),h1,fun k hk=>.inr ?_,h2,.of_below h3⟩
   have hk:w.heap.size=k:=by simpa [PV.v,Value.ownBlock] using hk
   omega
end L
end Go.Proofs.YtcagbdokbnpdfaaGreatDoor
namespace Go.Proofs.YtcagbdokbnpdfaaGreatDoor
namespace L
open Go.RowKit
theorem B9g (w:World) (o1 o2 o3 o4:Obj):((((w.alloc o1).alloc o2).alloc o3).alloc o4).heap[w.heap.size]?=some o1∧((((w.alloc o1).alloc o2).alloc o3).alloc o4).heap[w.heap.size+1]?=some o2∧((((w.alloc o1).alloc o2).alloc o3).alloc o4).heap[w.heap.size+2]?=some o3∧((((w.alloc o1).alloc o2).alloc o3).alloc o4).heap[w.heap.size+3]?=some o4∧((((w.alloc o1).alloc o2).alloc o3).alloc o4).heap.size=w.heap.size+4:=by
 have z1:(w.alloc o1).heap.size=w.heap.size+1:=by simp
 have z2:((w.alloc o1).alloc o2).heap.size=w.heap.size+2:=by simp
 have z3:(((w.alloc o1).alloc o2).alloc o3).heap.size=w.heap.size+3:=by simp
 refine⟨?_,?_,?_,?_,by simp⟩
 ·rw[Below.heap_alloc _ _ _ (by omega),Below.heap_alloc _ _ _ (by omega),Below.heap_alloc _ _ _ (by omega)];exact heap_alloc_new w o1
 ·rw[Below.heap_alloc _ _ _ (by omega),Below.heap_alloc _ _ _ (by omega),←z1];exact heap_alloc_new _ o2
 ·rw[Below.heap_alloc _ _ _ (by omega),←z2];exact heap_alloc_new _ o3
 ·rw[←z3];exact heap_alloc_new _ o4
abbrev OT (d:Nat):World→LB d→Prop:=fun _ _=>True
abbrev fT (d:Nat):LB d→List Nat:=fun _=>[]
def PT (d:Nat):World→Addr→BI d→Prop:=fun _ _ _=>True
theorem PT.stays (d:Nat):A4w (PT d):=fun _ _ _ _ _ _=>trivial
theorem OT.fr (d:Nat):∀ (F:List Nat) (w w':World) (b:LB d),OT d w b→FrB F w w'→(∀ k∈fT d b,k∉F)→OT d w' b:=fun _ _ _ _ _ _ _=>trivial
theorem OwnV.shy {d:Nat}{O:World→LB d→Prop}{w:World}{base:Nat}{y:VL (LB d)}(h:OwnV (ekB d) O w base y):OwnV (ekB d) (OT d) w base y:=⟨h.r1,h.r2,h.r2y,h.r3,fun _ _=>trivial⟩
theorem OwnL.shy {d:Nat}{O:World→LB d→Prop}{w:World}{base:Nat}{b:BL (LB d)}(h:OwnL (ekB d) O w base b):OwnL (ekB d) (OT d) w base b:=⟨h.r0,fun v hv=>(h.r0v v hv).shy,h.r1,h.r1y⟩
theorem OwnV.belowT {d:Nat}{w w':World}{base:Nat}{y:VL (LB d)}(h:OwnV (ekB d) (OT d) w base y) (hb:Below w.heap.size w w'):OwnV (ekB d) (OT d) w' base y:=OwnV.fr (F:=[]) (OT.fr d) h (.of_below hb) (fun _ _=>List.not_mem_nil)
theorem OwnL.belowT {d:Nat}{w w':World}{base:Nat}{b:BL (LB d)}(h:OwnL (ekB d) (OT d) w base b) (hb:Below w.heap.size w w'):OwnL (ekB d) (OT d) w' base b:=OwnL.fr (F:=[]) (OT.fr d) h (.of_below hb) (fun _ _=>List.not_mem_nil)
theorem OwnV.rdT {d:Nat}{O:World→LB d→Prop}{w:World}{base:Nat}{y:VL (LB d)}(h:OwnV (ekB d) O w base y):RdL 2 (PT d) w y.p3.v (y.subs.map (LB.pl d)):=
 RdL.mapB (P:=fun _ (_:Addr) (_:LB d)=>True) _ (h.r3.rd _ fun _ _ _ _=>trivial) fun _ _ _ _=>trivial
theorem OwnL.rdT {d:Nat}{O:World→LB d→Prop}{w:World}{base:Nat}{b:BL (LB d)}(h:OwnL (ekB d) O w base b):RdL 4 (VAt (PT d)) w b.q0.v (b.vals.map (VL.pl (LB.pl d))):=by
 refine RdL.mapB _ (h.r0.rd (fun w x (v:VL (LB d))=>w.cell? x=some (.int .i64 v.number)∧w.cell? (x.add 1)=some v.p1.v∧w.cell? (x.add 2)=some v.p2.v∧w.cell? (x.add 3)=some v.p3.v) fun g i a hc=>?_) ?_
 ·refine⟨by simpa using hc 0 _ rfl,?_,?_,?_⟩ <;> rw[A0f]
  ·exact hc 1 _ rfl
  ·exact hc 2 _ rfl
  ·exact hc 3 _ rfl
 ·rintro x v hv ⟨h0,h1,h2,h3⟩
  have ho:=h.r0v v hv
  exact⟨v.p1.v,v.p2.v,v.p3.v,h0,h1,h2,h3,ho.r1.rdU,ho.r2.rdZ ho.r2y,ho.rdT⟩
structure PutIn (d:Nat) (w:World) (base:Nat) (fs:List FI) (vf:Value) (b:BL (LB d)) (y:VL (LB d)):Prop where
 hf:RdL 6 FAt w vf fs
 fok:∀ f∈fs,I64 f.number∧I64 f.choice
 fl:fs.length≤140737488355328
 hb:OwnL (ekB d) (OT d) w base b
 hy:OwnV (ekB d) (OT d) w base y
 apart:∀ k∈own1 b.q0,k∉own1 b.q1∧(∀ a∈b.vals,k∉VL.fp (fT d) a)∧k∉VL.fp (fT d) y
 num:∀ a∈b.vals,I64 a.number
 len:(b.vals.length+1)*80≤140737488355328
 base:base≤w.heap.size
end L
end Go.Proofs.YtcagbdokbnpdfaaGreatDoor
