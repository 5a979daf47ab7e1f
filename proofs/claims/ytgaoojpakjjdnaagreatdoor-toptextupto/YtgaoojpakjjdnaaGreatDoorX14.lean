import Derived.Test.YtgaoojpakjjdnaaGreatDoorX13
import Derived.Shelf.Spec.SlicesInsertGrow
set_option maxHeartbeats 32000000
set_option maxRecDepth 100000
set_option linter.unusedVariables false
namespace Go.Proofs.YtgaoojpakjjdnaaGreatDoor
namespace L
open Go.RowKit
theorem C2s {α:Type}(E:EK α)(l:List α):∀ u∈E.flat l,u.oneCell'=true:=by
 intro y hy
 simp only[EK.flat,List.mem_flatMap] at hy
 obtain⟨p,_,hy⟩:=hy
 exact E.one p y hy
theorem B5v {w:World}{g o j:Nat}{vs:List Value}{u:Value}(hc:∀ j,j<vs.length→(w.cell? ⟨g,o+j,none⟩).isSome=true)(hu:vs[j]?=some u):(w.setCells g o vs).cell? ⟨g,o+j,none⟩=some u:=by
 obtain⟨hj,e⟩:=List.getElem?_eq_some_iff.1 hu
 rw[World.cell?_setCells_in g vs o w hc j hj,e]
theorem B8n {β:Type}{w:World}{base:Nat}{g n cap vb i:Nat}{l:List (VL β)}{a:VL β}{x0 x1 x2 x3:Value}(h:Row (ekV β) w base (.slice (some ⟨g,0,none⟩) n cap) l)(he:(ekV β).enc a = [x0,x1,x2,x3])(hv:w.heap[vb]?=some (.cells #[x0,x1,x2,x3] 62 (0,0)))
  (a8:vb≠g) (hi:i<n) (hroom:n+1≤cap) :
  Calls Tryz.prog 71 #[.slice (some ⟨g,0,none⟩) n cap,.int .i64 (i:Int),.slice (some ⟨vb,0,none⟩) 1 1] w fun e w'=>e = .returned (.slice (some ⟨g,0,none⟩) (n+1) cap)∧Row (ekV β) w' base (.slice (some ⟨g,0,none⟩) (n+1) cap) (l.take i++[a]++l.drop i)∧FrB [g] w w':=by
 obtain⟨hl,hbg,cj,hcm,cur,hg,hsz⟩:=h.cur
 replace hsz:cur.size=cap*4:=hsz
 have hsp:∀ j,j<(n+1)*4→(w.cell? ⟨g,j,none⟩).isSome=true:=fun j hj=>by
  have:j<cur.size:=by omega
  rw[A0a hg j _ (Array.getElem?_eq_getElem this)];rfl
 have bh:∀ j,w.frozen? ⟨g,j,none⟩=false:=fun j=>A0b hg j
 have bg:((ekV β).flat (l.drop i)).length=(n-i)*4:=by rw[(ekV β).flat_len,List.length_drop,hl];rfl
 have bk:w.shape? vb=some (62,4):=by simp[World.shape?,hv]
 have bp:w.shape? g=some (62,cur.size):=by simp only[World.shape?,hg];rfl
 have bw:∀ lb cb o,(callFunc 145 #[.slice (some ⟨vb,0,none⟩) 1 1,.slice (some ⟨g,o,none⟩) lb cb]).run Tryz.prog w = .ok (.value (.bool false)) w:=fun lb cb o=>by
  rw[run_callFunc_extern Tryz.func145 (by kernel_rfl) (by kernel_rfl) (by kernel_rfl) (e:=Extern.SlicesOverlaps.overlaps #[26,26] #[4]) (by kernel_rfl),
   Lib.run_overlaps_apart w 26 4 62 Tryz.underlying26 4 (fun w=>by kernel_rfl) ⟨vb,0,none⟩ ⟨g,o,none⟩ 1 1 lb cb a8 _ _ _ _ bk bp (by omega) (A0b hv 0) (A0b hv _)]
  rfl
 have hcs:∀ j v,((ekV β).flat (l.drop i))[j]?=some v→w.cell? ⟨g,i*4+j,none⟩=some v:=fun j v hj=>by
  obtain⟨y,h1,h2⟩:=(ekV β).flat_get hj
  rw[List.getElem?_drop] at h1
  have:=h.cells h1 h2
  have e4:(ekV β).size=4:=rfl
  rw[e4] at this
  rw[show i*4+j=(i+j / 4)*4+j%4 by omega]
  exact this
 have ah:∀ ty dc sc,(Builtin.copy_ #[26,26] ty #[.slice (some ⟨g,(i+1)*4,none⟩) (n-i) dc,.slice (some ⟨g,i*4,none⟩) (n+1-i) sc]).run Tryz.prog w.drew = .ok (goInt ((n-i:Nat):Int)) (w.drew.setCells g ((i+1)*4) ((ekV β).flat (l.drop i))):=fun ty dc sc=>
  B0a (w:=w.drew) (g:=g) (o:=(i+1)*4) (dLen:=n-i) (sLen:=n+1-i) (m:=n-i) (by simp only[Nat.min_def];split <;> omega) bg (fun j v hj=>by rw[A0d];exact hcs j v hj) (fun j hj=>hsp _ (by omega)) (fun j _=>bh _) (C2s _ _)
 obtain⟨W1,hW1⟩:∃ W1,W1=w.drew.setCells g ((i+1)*4) ((ekV β).flat (l.drop i)):=⟨_,rfl⟩
 obtain⟨ac,hg1,aj⟩:=A2j ((ekV β).flat (l.drop i)) ((i+1)*4) w.drew cur hg
 rw[←hW1] at hg1
 have bq:∀ j v,([x0,x1,x2,x3]:List Value)[j]?=some v→W1.cell? ⟨vb,j,none⟩=some v:=fun j v hj=>by
  rw[hW1,World.cell?_setCells_out g _ _ _ _ (fun h _=>absurd h a8)]
  exact A0a (w:=w) hv j v (by simpa using hj)
 have au:∀ (W:World),(∀ x,W.cell? x=W1.cell? x)→(∀ x,W.frozen? x=W1.frozen? x)→∀ ty dc,(Builtin.copy_ #[26,26] ty #[.slice (some ⟨g,i*4,none⟩) (n+1-i) dc,.slice (some ⟨vb,0,none⟩) 1 1]).run Tryz.prog W = .ok (goInt 1) (W.setCells g (i*4) [x0,x1,x2,x3]):=fun W ag bu ty dc=>
  B0a (g:=g) (o:=i*4) (dLen:=n+1-i) (sLen:=1) (m:=1) (by simp only[Nat.min_def];split <;> omega) rfl (fun j v hj=>by rw[A0d,Nat.zero_add,ag];exact bq j v hj)
   (fun j hj=>by
    have hj:j<4:=hj
    have:i*4+j<ac.size:=by omega
    rw[ag,A0a hg1 _ _ (Array.getElem?_eq_getElem this)];rfl) (fun j _=>by rw[bu];exact A0b hg1 _)
   (fun v hv=>by rw[←he] at hv;exact(ekV β).one a v hv)
 have ak:∀ W:World,(∀ x,W.cell? x=W1.cell? x)→W.heap=W1.heap→Hid (Row (ekV β) (W.setCells g (i*4) [x0,x1,x2,x3]) base (.slice (some ⟨g,0,none⟩) (n+1) cap) (l.take i++[a]++l.drop i)):=fun W ag bv=>by
  obtain⟨bt,hg2,aw⟩:=A2j [x0,x1,x2,x3] (i*4) W ac (by rw[bv];exact hg1)
  have e4:(ekV β).size=4:=rfl
  refine D1f hbg hg2 (by rw[aw,aj,hsz,e4]) hl (by omega) hroom hcm ?_ ?_ ?_
  ·intro k y hk hy j u hu
   have hj:j<4:=by have:=(List.getElem?_eq_some_iff.1 hu).1;rw[(ekV β).len] at this;exact this
   rw[e4,World.cell?_setCells_out g _ _ _ _ (fun _ _=>by left;show k*4+j<i*4;omega),ag,hW1,World.cell?_setCells_out g _ _ _ _ (fun _ _=>by left;show k*4+j<(i+1)*4;omega)]
   exact h.cells hy hu
  ·intro j u hu
   rw[he] at hu
   rw[e4]
   refine B5v (w:=W) (g:=g) (o:=i*4) (vs:=[x0,x1,x2,x3]) (fun j hj=>?_) hu
   have hj:j<4:=hj
   have:i*4+j<ac.size:=by omega
   rw[ag,A0a hg1 _ _ (Array.getElem?_eq_getElem this)];rfl
  ·intro j u hu
   rw[e4,World.cell?_setCells_out g _ _ _ _ (fun _ _=>by right;show i*4+4≤(i+1)*4+j;omega),ag,hW1]
   exact B5v (w:=w.drew) (g:=g) (o:=(i+1)*4) (fun j hj=>hsp _ (by omega)) hu
 have br:∀ W:World,W.heap=W1.heap→W.os=W1.os→W.tape=W1.tape→W.output=W1.output→Hid (FrB [g] w (W.setCells g (i*4) [x0,x1,x2,x3])):=fun W e1 e2 e3 e4=>by
  have f0:FrB [g] w w.drew:=.of_below (Below.refl _ _).drew
  have f1:FrB [g] w W1:=by rw[hW1];exact FrB.setCells (o:=0) _ _ f0 hg (by show(62:TypeId)≠5;decide)
  have f2:FrB [g] w W:=⟨e2.trans f1.os,e3.trans f1.tape,e4.trans f1.output,by rw[e1];exact f1.size,fun k hk hc=>by rw[e1];exact f1.block k hk hc⟩
  exact FrB.setCells (o:=0) _ _ f2 (by rw[e1];exact hg1) (by show(62:TypeId)≠5;decide)
 have mixed:Tryz.prog.follows Departure.mixedOrders=true:=by kernel_rfl
 have hz2:¬ ((i:Int)=(n:Int)):=by omega
 unfold maxLen at hcm
 have cw:IntKind.i64.wrap ((i:Int)+1)=(i:Int)+1:=by rw[IntKind.wrap_i64];omega
 have hb1:(0:Int)≤(i:Int)+1:=by omega
 have cg:i≤n:=by omega
 have cu:((i:Int)+1).toNat=i+1:=by omega
 have hb2:¬ (cap=i+1):=by omega
 have hb3:(i:Int)≤(n:Int)+1:=by omega
 have hb4:¬ (cap=i):=by omega
 rw[←hW1] at ah
 clear bk bp hsz hsp bh bg hg hcs bq hg1 aj h hl hbg he hv hW1 a8 cur ac
 go_enter Tryz.func71,Tryz.ntmps71
 go_wp2_with (simp only[bw])
 go_region_law_o (refine step_copy_runI rfl _ _ 26 26 rfl _ _ (by simp[Act.eval,Act.put]) (by simp[Act.eval,Act.put]) (ah _ _ _) ?_)
 go_wp2_with (at_builtin;refine wpList_copy_runI _ rfl _ _ 26 26 rfl _ _ rfl rfl (au _ (fun _=>rfl) (fun _=>rfl) _ _) ?_)
 go_ret
 exact⟨rfl,(ak _ (fun _=>rfl) rfl).out,(br _ rfl rfl rfl rfl).out⟩
theorem B2e {B b:Nat}(hb:B≤b):∀ (vs:List Value) (o:Nat){a w:World},Below B a w→Below B a (w.setCells b o vs)
 | [],_,_,_,h=>h
 | _::r,o,_,_,h=>B2e hb r (o+1) (A2q h hb)
theorem C0f (n:Nat):(Builtin.zeroCells (Value.agg #[.int .i64 0,.slice none 0 0,.slice none 0 0,.slice none 0 0]).cells n).size=n*4:=by
 simp[Builtin.zeroCells,Value.cells]
theorem C1c {β:Type}{w:World}{base:Nat}{g n cap vb i:Nat}{l:List (VL β)}{a:VL β}{x0 x1 x2 x3:Value}(h:Row (ekV β) w base (.slice (some ⟨g,0,none⟩) n cap) l)(he:(ekV β).enc a = [x0,x1,x2,x3])(hv:w.heap[vb]?=some (.cells #[x0,x1,x2,x3] 62 (0,0)))
  (hi:i<n) (hroom:cap<n+1) (bt:(n+1)*80≤140737488355328) (hB:base≤w.heap.size) :
  Calls Tryz.prog 71 #[.slice (some ⟨g,0,none⟩) n cap,.int .i64 (i:Int),.slice (some ⟨vb,0,none⟩) 1 1] w fun e w'=>∃ G,e = .returned (.slice (some ⟨w.heap.size,0,none⟩) (n+1) G)∧Row (ekV β) w' base (.slice (some ⟨w.heap.size,0,none⟩) (n+1) G) (l.take i++[a]++l.drop i)∧Below w.heap.size w w':=by
 obtain⟨hl,hbg,eo,hcm,cur,hg,hsz⟩:=h.cur
 have dz:g<w.heap.size:=(Array.getElem?_eq_some_iff.1 hg).1
 have ee:vb<w.heap.size:=(Array.getElem?_eq_some_iff.1 hv).1
 obtain⟨i0,df,hz0,hzs,hzb⟩:=info_parts (ekV β).info
 replace hzs:i0.size=4:=hzs
 replace hzb:i0.bytes=80:=hzb
 have e4:(ekV β).size=4:=rfl
 have bk:((ekV β).flat (l.take i)).length=i*4:=by rw[(ekV β).flat_len,List.length_take,hl,e4];omega
 have cw:((ekV β).flat (l.drop i)).length=(n-i)*4:=by rw[(ekV β).flat_len,List.length_drop,hl];rfl
 have bu:∀ j v,((ekV β).flat l)[j]?=some v→w.cell? ⟨g,j,none⟩=some v:=fun j v hj=>by
  obtain⟨y,h1,h2⟩:=(ekV β).flat_get hj
  have:=h.cells h1 h2
  rw[Nat.mul_comm,Nat.div_add_mod] at this
  exact this
 have hsp:(ekV β).flat l=(ekV β).flat (l.take i)++(ekV β).flat (l.drop i):=by rw[←(ekV β).flat_append,List.take_append_drop]
 have cu:∀ j v,((ekV β).flat (l.take i))[j]?=some v→w.cell? ⟨g,j,none⟩=some v:=fun j v hj=>bu j v (by
  rw[hsp,List.getElem?_append_left (List.getElem?_eq_some_iff.1 hj).1];exact hj)
 have hcs:∀ j v,((ekV β).flat (l.drop i))[j]?=some v→w.cell? ⟨g,i*4+j,none⟩=some v:=fun j v hj=>bu _ v (by
  rw[hsp,List.getElem?_append_right (by omega),bk,Nat.add_sub_cancel_left];exact hj)
 have dg:(n:Int)+1-(i:Int)=((n+1-i:Nat):Int):=by omega
 have hik:i+(n+1-i)=n+1:=by omega
 have hold:(Builtin.firstCells i0.size i (.slice (some ⟨g,0,none⟩) i cap)).run Tryz.prog w.drew = .ok ((ekV β).flat (l.take i)).toArray w.drew:=by
  rw[hzs]
  exact run_firstCells_some w.drew 4 i ⟨g,0,none⟩ i cap ((ekV β).flat (l.take i)) bk (fun j v hj=>by rw[A0d,Nat.zero_add];exact cu j v hj)
 obtain⟨G,hG⟩:∃ G,G=grownCap w (n+1) cap 62:=⟨_,rfl⟩
 obtain⟨ROW,ac⟩:∃ ROW:Array Value,ROW=((ekV β).flat (l.take i)).toArray++Builtin.zeroCells (Value.agg #[.int .i64 0,.slice none 0 0,.slice none 0 0,.slice none 0 0]).cells (n+1-i)++Builtin.zeroCells (Value.agg #[.int .i64 0,.slice none 0 0,.slice none 0 0,.slice none 0 0]).cells (G-(n+1)):=⟨_,rfl⟩
 have dh:∀ ty,(Builtin.append_ #[26,3] ty #[.slice (some ⟨g,0,none⟩) i cap,.int .i64 ((n:Int)+1-(i:Int))]).run Tryz.prog w = .ok (.slice (some ⟨w.heap.size,0,none⟩) (n+1) G) (w.drew.alloc (.cells ROW 62)):=fun ty=>by
  have h:=Lib.run_append_grow_zeros w 26 3 ty 62 i0 _ .i64 .i64 Tryz.underlying26 Tryz.underlying3 df hz0 (some ⟨g,0,none⟩) i cap ((ekV β).flat (l.take i)) hold (n+1-i) (by omega) (by omega) (by omega) (by omega) (by rw[hzb];omega) (by rw[hzb,hik];exact growslice_fits hroom bt)
  rw[hik] at h
  rw[dg,ac,hG]
  exact h
 have dt:n+1≤G:=by rw[hG];exact grownCap_ge w _ _ _
 have ak:G≤maxLen:=by rw[hG];exact grownCap_le_maxLen w (n+1) cap _ (by unfold maxLen;omega)
 have cj:ROW.size=G*4:=by
  rw[ac,Array.size_append,Array.size_append,C0f,C0f,List.size_toArray,bk]
  omega
 have cg:∀ j v,((ekV β).flat (l.take i))[j]?=some v→ROW[j]?=some v:=fun j v hj=>by
  have d9:=(List.getElem?_eq_some_iff.1 hj).1
  rw[ac,Array.getElem?_append_left (by rw[Array.size_append,List.size_toArray];omega),Array.getElem?_append_left (by rw[List.size_toArray];exact d9)]
  simpa using hj
 obtain⟨W1,hW1⟩:∃ W1,W1=w.drew.alloc (.cells ROW 62):=⟨_,rfl⟩
 have au:W1.heap[w.heap.size]?=some (.cells ROW 62 (0,0)):=by rw[hW1];exact heap_alloc_new w.drew _
 have hb1:Below w.heap.size w W1:=by rw[hW1];exact((Below.refl _ _).drew).alloc (Nat.le_refl _) _
 have bp:∀ j,j<G*4→(W1.cell? ⟨w.heap.size,j,none⟩).isSome=true:=fun j hj=>by
  rw[A0a au j _ (Array.getElem?_eq_getElem (by omega))];rfl
 have dw:∀ j v,w.cell? ⟨g,j,none⟩=some v→W1.cell? ⟨g,j,none⟩=some v:=fun j v h=>A0c hb1 h
 have di:∀ j v,([x0,x1,x2,x3]:List Value)[j]?=some v→W1.cell? ⟨vb,j,none⟩=some v:=fun j v hj=>A0c hb1 (A0a hv j v (by simpa using hj))
 have a8:∀ (W:World),(∀ x,W.cell? x=W1.cell? x)→(∀ x,W.frozen? x=W1.frozen? x)→∀ ty dc,(Builtin.copy_ #[26,26] ty #[.slice (some ⟨w.heap.size,i*4,none⟩) (n+1-i) dc,.slice (some ⟨vb,0,none⟩) 1 1]).run Tryz.prog W = .ok (goInt 1) (W.setCells w.heap.size (i*4) [x0,x1,x2,x3]):=fun W ag br ty dc=>
  B0a (g:=w.heap.size) (o:=i*4) (dLen:=n+1-i) (sLen:=1) (m:=1) (by simp only[Nat.min_def];split <;> omega) rfl (fun j v hj=>by rw[A0d,Nat.zero_add,ag];exact di j v hj)
   (fun j hj=>by have hj:j<4:=hj;rw[ag];exact bp _ (by omega)) (fun j _=>by rw[br];exact A0b au _)
   (fun v hv=>by rw[←he] at hv;exact(ekV β).one a v hv)
 obtain⟨W2,hW2⟩:∃ W2,W2=W1.setCells w.heap.size (i*4) [x0,x1,x2,x3]:=⟨_,rfl⟩
 obtain⟨aj,aw,bh⟩:=A2j [x0,x1,x2,x3] (i*4) W1 ROW au
 rw[←hW2] at aw
 have hb2:Below w.heap.size w W2:=by rw[hW2];exact B2e (Nat.le_refl _) _ _ hb1
 have bq:∀ j,j<G*4→(W2.cell? ⟨w.heap.size,j,none⟩).isSome=true:=fun j hj=>by
  rw[A0a aw j _ (Array.getElem?_eq_getElem (by omega))];rfl
 have bg:∀ (W:World),(∀ x,W.cell? x=W2.cell? x)→(∀ x,W.frozen? x=W2.frozen? x)→∀ ty dc sc,(Builtin.copy_ #[26,26] ty #[.slice (some ⟨w.heap.size,(i+1)*4,none⟩) (n-i) dc,.slice (some ⟨g,i*4,none⟩) (n-i) sc]).run Tryz.prog W = .ok (goInt ((n-i:Nat):Int)) (W.setCells w.heap.size ((i+1)*4) ((ekV β).flat (l.drop i))):=fun W ag br ty dc sc=>
  B0a (g:=w.heap.size) (o:=(i+1)*4) (dLen:=n-i) (sLen:=n-i) (m:=n-i) (by simp only[Nat.min_def];split <;> omega) cw (fun j v hj=>by rw[A0d,ag];exact A0c hb2 (hcs j v hj))
   (fun j hj=>by rw[ag];exact bq _ (by omega)) (fun j _=>by rw[br];exact A0b aw _) (C2s _ _)
 have ah:∀ W:World,(∀ x,W.cell? x=W2.cell? x)→W.heap=W2.heap→Hid (Row (ekV β) (W.setCells w.heap.size ((i+1)*4) ((ekV β).flat (l.drop i))) base (.slice (some ⟨w.heap.size,0,none⟩) (n+1) G) (l.take i++[a]++l.drop i)):=fun W ag dx=>by
  obtain⟨dn,dv,bv⟩:=A2j ((ekV β).flat (l.drop i)) ((i+1)*4) W aj (by rw[dx];exact aw)
  refine D1f hB dv (by rw[bv,bh,cj,e4]) hl (by omega) dt ak ?_ ?_ ?_
  ·intro k y hk hy j u hu
   have hj:j<4:=by have:=(List.getElem?_eq_some_iff.1 hu).1;rw[(ekV β).len] at this;exact this
   rw[e4,World.cell?_setCells_out _ _ _ _ _ (fun _ _=>by left;show k*4+j<(i+1)*4;omega),ag,hW2,World.cell?_setCells_out _ _ _ _ _ (fun _ _=>by left;show k*4+j<i*4;omega)]
   refine A0a au _ _ (cg _ _ ?_)
   have:=(ekV β).flat_at (l.take i) k j y (by rw[List.getElem?_take,if_pos hk];exact hy) hj
   rw[e4] at this
   rw[this];exact hu
  ·intro j u hu
   rw[he] at hu
   have hj:j<4:=(List.getElem?_eq_some_iff.1 hu).1
   rw[e4,World.cell?_setCells_out _ _ _ _ _ (fun _ _=>by left;show i*4+j<(i+1)*4;omega),ag,hW2]
   exact B5v (w:=W1) (g:=w.heap.size) (o:=i*4) (vs:=[x0,x1,x2,x3]) (fun j hj=>bp _ (by have hj:j<4:=hj;omega)) hu
  ·intro j u hu
   rw[e4]
   exact B5v (w:=W) (g:=w.heap.size) (o:=(i+1)*4) (fun j hj=>by rw[ag];exact bq _ (by omega)) hu
 have bw:∀ W:World,W.heap=W2.heap→W.os=W2.os→W.tape=W2.tape→W.output=W2.output→Hid (Below w.heap.size w (W.setCells w.heap.size ((i+1)*4) ((ekV β).flat (l.drop i)))):=fun W e1 e2 e3 e4=>
  B2e (Nat.le_refl _) _ _ ⟨e2.trans hb2.os,e3.trans hb2.tape,e4.trans hb2.output,by rw[e1];exact hb2.size,fun k hk=>by rw[e1];exact hb2.block k hk⟩
 have mixed:Tryz.prog.follows Departure.mixedOrders=true:=by kernel_rfl
 have hz2:¬ ((i:Int)=(n:Int)):=by omega
 have hz3:(cap:Int)<(n:Int)+1:=by omega
 unfold maxLen at hcm ak
 have eu:IntKind.i64.wrap ((i:Int)+1)=(i:Int)+1:=by rw[IntKind.wrap_i64];omega
 have dy:(0:Int)≤(i:Int)+1:=by omega
 have ej:i≤n:=by omega
 have et:((i:Int)+1).toNat=i+1:=by omega
 have hb3:(i:Int)≤(n:Int):=by omega
 have eh:¬ (G=i):=by omega
 have dr:¬ (G=i+1):=by omega
 have ei:¬ (cap=i):=by omega
 have hA:∀ ty dc,(Builtin.copy_ #[26,26] ty #[.slice (some ⟨w.heap.size,i*4,none⟩) (n+1-i) dc,.slice (some ⟨vb,0,none⟩) 1 1]).run Tryz.prog W1 = .ok (goInt 1) W2:=fun ty dc=>by rw[hW2];exact a8 W1 (fun _=>rfl) (fun _=>rfl) ty dc
 have dp:∀ ty dc sc,(Builtin.copy_ #[26,26] ty #[.slice (some ⟨w.heap.size,(i+1)*4,none⟩) (n-i) dc,.slice (some ⟨g,i*4,none⟩) (n-i) sc]).run Tryz.prog W2.drew = .ok (goInt ((n-i:Nat):Int)) (W2.drew.setCells w.heap.size ((i+1)*4) ((ekV β).flat (l.drop i))):=bg W2.drew (fun _=>rfl) (fun _=>rfl)
 have dl:=ah W2.drew (fun _=>rfl) rfl
 have dm:=bw W2.drew rfl rfl rfl rfl
 rw[←hW1] at dh
 clear ah bw a8 bg hW1 hW2
 clear hsz hg hold ac hG cj cg au aw bp bq dw di hb1 hb2 cu hcs bu hsp bk cw h hl hbg he hv dg hik df hz0 hzs hzb bh e4 dz ee cur aj ROW
 go_enter Tryz.func71,Tryz.ntmps71
 go_wp2_with (first
  | (at_builtin;refine Lib.wpList_append_run _ rfl _ _ _ _ rfl _ _ rfl rfl _ _ (dh _) ?_)
  | (at_builtin;refine wpList_copy_runI _ rfl _ _ 26 26 rfl _ _ rfl rfl (hA _ _) ?_))
 go_region_law_o (refine step_copy_runI rfl _ _ 26 26 rfl _ _ (by simp[Act.eval,Act.put]) (by simp[Act.eval,Act.put]) (dp _ _ _) ?_)
 go_wp2
 go_ret
 exact⟨G,rfl,dl.out,dm.out⟩
theorem D8r {β:Type}{w:World}{base:Nat}{ao:Option Addr}{n cap vb i:Nat}{l:List (VL β)}{a:VL β}{x0 x1 x2 x3:Value}(h:Row (ekV β) w base (.slice ao n cap) l)(he:(ekV β).enc a = [x0,x1,x2,x3])(hv:w.heap[vb]?=some (.cells #[x0,x1,x2,x3] 62 (0,0)))
  (ac:(Value.slice ao n cap).ownBlock≠some vb) (hi:i≤l.length) (hlen:(l.length+1)*80≤140737488355328) (hb:base≤w.heap.size) :
  Calls Tryz.prog 71 #[.slice ao n cap,.int .i64 (i:Int),.slice (some ⟨vb,0,none⟩) 1 1] w fun e w'=>∃ q:PV,e = .returned q.v∧(∀ k,q.v.ownBlock=some k→(Value.slice ao n cap).ownBlock=some k∨w.heap.size≤k)∧Row (ekV β) w' base q.v (l.take i++[a]++l.drop i)∧FrB (Value.slice ao n cap).ownBlock.toList w w':=by
 have hn:l.length=n:=by
  obtain⟨ag,cap',e⟩:=h.shape
  cases e;rfl
 rw[hn] at hi hlen
 by_cases he1:i=n
 ·subst he1
  refine(C5u h he hv hlen hb).mono fun e w' ⟨q,h1,h2,h3,h4⟩=>⟨q,h1,h2,?_,h4⟩
  rw[List.take_of_length_le (by omega),List.drop_of_length_le (by omega),List.append_nil]
  exact h3
 ·have hi':i<n:=by omega
  obtain⟨g,rfl⟩:∃ g,ao=some ⟨g,0,none⟩:=by
   rcases h.2 with⟨e,hn0⟩|⟨g,cap',cur,e,_⟩
   ·omega
   ·cases e;exact⟨g,rfl⟩
  by_cases hr:n+1≤cap
  ·exact(B8n h he hv (fun e=>ac (by rw[e];rfl)) hi' hr).mono fun e w' ⟨h1,h2,h3⟩=>⟨(some ⟨g,0,none⟩,n+1,cap),h1,fun k hk=>.inl hk,h2,h3⟩
  ·refine(C1c h he hv hi' (by omega) hlen hb).mono fun e w' ⟨G,h1,h2,h3⟩=>⟨(some ⟨w.heap.size,0,none⟩,n+1,G),h1,fun k hk=>.inr ?_,h2,.of_below h3⟩
   have hk:w.heap.size=k:=by simpa [PV.v,Value.ownBlock] using hk
   omega
theorem C2j (w:World)(o1 o2 o3 o4:Obj):((((w.alloc o1).alloc o2).alloc o3).alloc o4).heap[w.heap.size]?=some o1∧((((w.alloc o1).alloc o2).alloc o3).alloc o4).heap[w.heap.size+1]?=some o2∧((((w.alloc o1).alloc o2).alloc o3).alloc o4).heap[w.heap.size+2]?=some o3∧((((w.alloc o1).alloc o2).alloc o3).alloc o4).heap[w.heap.size+3]?=some o4∧((((w.alloc o1).alloc o2).alloc o3).alloc o4).heap.size=w.heap.size+4:=by
 have z1:(w.alloc o1).heap.size=w.heap.size+1:=by simp
 have z2:((w.alloc o1).alloc o2).heap.size=w.heap.size+2:=by simp
 have z3:(((w.alloc o1).alloc o2).alloc o3).heap.size=w.heap.size+3:=by simp
 refine⟨?_,?_,?_,?_,by simp⟩
 ·rw[Below.heap_alloc _ _ _ (by omega),Below.heap_alloc _ _ _ (by omega),Below.heap_alloc _ _ _ (by omega)];exact heap_alloc_new w o1
 ·rw[Below.heap_alloc _ _ _ (by omega),Below.heap_alloc _ _ _ (by omega),←z1];exact heap_alloc_new _ o2
 ·rw[Below.heap_alloc _ _ _ (by omega),←z2];exact heap_alloc_new _ o3
 ·rw[←z3];exact heap_alloc_new _ o4
abbrev OT (d:Nat):World→LB d→Prop:=fun _ _=>True
abbrev fT (d:Nat):LB d→List Nat:=fun _=>[]
def PT (d:Nat):World→Addr→BI d→Prop:=fun _ _ _=>True
theorem PT.stays (d:Nat):A4p (PT d):=fun _ _ _ _ _ _=>trivial
theorem OT.fr (d:Nat):∀ (F:List Nat) (w w':World) (b:LB d),OT d w b→FrB F w w'→(∀ k∈fT d b,k∉F)→OT d w' b:=fun _ _ _ _ _ _ _=>trivial
theorem OwnV.shy {d:Nat}{O:World→LB d→Prop}{w:World}{base:Nat}{y:VL (LB d)}(h:OwnV (ekB d) O w base y):OwnV (ekB d) (OT d) w base y:=⟨h.r1,h.r2,h.r2y,h.r3,fun _ _=>trivial⟩
theorem OwnL.shy {d:Nat}{O:World→LB d→Prop}{w:World}{base:Nat}{b:BL (LB d)}(h:OwnL (ekB d) O w base b):OwnL (ekB d) (OT d) w base b:=⟨h.r0,fun v hv=>(h.r0v v hv).shy,h.r1,h.r1y⟩
theorem OwnV.belowT {d:Nat}{w w':World}{base:Nat}{y:VL (LB d)}(h:OwnV (ekB d) (OT d) w base y)(hb:Below w.heap.size w w'):OwnV (ekB d) (OT d) w' base y:=OwnV.fr (F:=[]) (OT.fr d) h (.of_below hb) (fun _ _=>List.not_mem_nil)
theorem OwnL.belowT {d:Nat}{w w':World}{base:Nat}{b:BL (LB d)}(h:OwnL (ekB d) (OT d) w base b)(hb:Below w.heap.size w w'):OwnL (ekB d) (OT d) w' base b:=OwnL.fr (F:=[]) (OT.fr d) h (.of_below hb) (fun _ _=>List.not_mem_nil)
theorem OwnV.rdT {d:Nat}{O:World→LB d→Prop}{w:World}{base:Nat}{y:VL (LB d)}(h:OwnV (ekB d) O w base y):RdL 2 (PT d) w y.p3.v (y.subs.map (LB.pl d)):=
 RdL.mapB (P:=fun _ (_:Addr) (_:LB d)=>True) _ (h.r3.rd _ fun _ _ _ _=>trivial) fun _ _ _ _=>trivial
theorem OwnL.rdT {d:Nat}{O:World→LB d→Prop}{w:World}{base:Nat}{b:BL (LB d)}(h:OwnL (ekB d) O w base b):RdL 4 (VAt (PT d)) w b.q0.v (b.vals.map (VL.pl (LB.pl d))):=by
 refine RdL.mapB _ (h.r0.rd (fun w x (v:VL (LB d))=>w.cell? x=some (.int .i64 v.number)∧w.cell? (x.add 1)=some v.p1.v∧w.cell? (x.add 2)=some v.p2.v∧w.cell? (x.add 3)=some v.p3.v) fun g i a hc=>?_) ?_
 ·refine⟨by simpa using hc 0 _ rfl,?_,?_,?_⟩ <;> rw[A0d]
  ·exact hc 1 _ rfl
  ·exact hc 2 _ rfl
  ·exact hc 3 _ rfl
 ·rintro x v hv ⟨h0,h1,h2,h3⟩
  have ho:=h.r0v v hv
  exact⟨v.p1.v,v.p2.v,v.p3.v,h0,h1,h2,h3,ho.r1.rdU,ho.r2.rdZ ho.r2y,ho.rdT⟩
structure PutIn (d:Nat) (w:World) (base:Nat) (fs:List FI) (vf:Value) (b:BL (LB d)) (y:VL (LB d)):Prop where
 hf:RdL 6 FAt w vf fs
 fok:∀ f∈fs,I64 f.number∧I64 f.choice
 fl:fs.length≤140737488355328
 hb:OwnL (ekB d) (OT d) w base b
 hy:OwnV (ekB d) (OT d) w base y
 apart:∀ k∈own1 b.q0,k∉own1 b.q1∧(∀ a∈b.vals,k∉VL.fp (fT d) a)∧k∉VL.fp (fT d) y
 num:∀ a∈b.vals,I64 a.number
 len:(b.vals.length+1)*80≤140737488355328
 base:base≤w.heap.size
theorem A9b {α:Type}{w:World}{ops:Array Oper}{rest:List Oper}{o:Oper}{a:Act}{Q:Exit→Act→World→Prop}(hgd:o.guard=none)(E:EK α)(s x:Operand)
  (ho:o.op = .call { callee:=.builtin .append,args:=#[s,x],argTypes:=#[E.slice,E.slice] })
  (base:Nat) (p q:PV) (l m:List α) (hY:E.elem≠5) (hs:a.eval s=p.v) (hown:Row E w base p.v l) (hx:a.eval x=q.v) (hq:Row E w base q.v m)
  (hby:1≤E.bytes) (hlen:(l.length+m.length)*E.bytes≤140737488355328) (hb:base≤w.heap.size)
  (h:∀ (a':Option Addr) (n' c':Nat) (w':World),Row E w' base (.slice a' n' c') (l++m)→Row E w' base p.v l→FrB (own1 p) w w'→(∀ k∈own1 (a',n',c'),k∈own1 p∨w.heap.size≤k)→wpList Tryz.prog ops Q rest (a.put o.dst (.slice a' n' c')) w'):wpList Tryz.prog ops Q (o::rest) a w:=
 wpList_plain hgd fun _ hK=>by
  obtain⟨a',n',c',w',hr,h1,h2,h3,h4⟩:=D5v E o.type base p q l m hY hown hq hby hlen hb
  unfold Oper.wp execOp
  simp only[ho,resolve,invoke,builtin,Sem.run_bind,Sem.run_pure,Result.andThen_ok,List.map_toArray,List.map_cons,List.map_nil,hs,hx,hr]
  exact hK _ _ (h a' n' c' w' h1 h2 h3 h4)
theorem A4i {w:World}{g:Nat}{a0 a1 a2 a3:Value}{t:TypeId}(h:w.heap[g]?=some (.cells #[a0,a1,a2,a3] t (0,0))) :
  w.cell? ⟨g,0,none⟩=some a0∧w.cell? ⟨g,1,none⟩=some a1∧w.cell? ⟨g,2,none⟩=some a2∧w.cell? ⟨g,3,none⟩=some a3:=
 ⟨A0a h 0 _ rfl,A0a h 1 _ rfl,A0a h 2 _ rfl,A0a h 3 _ rfl⟩
theorem D6t (w:World)(o1 o2 o3 o4 o5:Obj):(((((w.alloc o1).alloc o2).alloc o3).alloc o4).alloc o5).heap[w.heap.size]?=some o1∧(((((w.alloc o1).alloc o2).alloc o3).alloc o4).alloc o5).heap[w.heap.size+1]?=some o2∧(((((w.alloc o1).alloc o2).alloc o3).alloc o4).alloc o5).heap[w.heap.size+2]?=some o3∧(((((w.alloc o1).alloc o2).alloc o3).alloc o4).alloc o5).heap[w.heap.size+3]?=some o4∧(((((w.alloc o1).alloc o2).alloc o3).alloc o4).alloc o5).heap[w.heap.size+4]?=some o5∧(((((w.alloc o1).alloc o2).alloc o3).alloc o4).alloc o5).heap.size=w.heap.size+5:=by
 obtain⟨h1,h2,h3,h4,hz⟩:=C2j w o1 o2 o3 o4
 refine⟨?_,?_,?_,?_,?_,by simp⟩
 ·rw[Below.heap_alloc _ _ _ (by omega)];exact h1
 ·rw[Below.heap_alloc _ _ _ (by omega)];exact h2
 ·rw[Below.heap_alloc _ _ _ (by omega)];exact h3
 ·rw[Below.heap_alloc _ _ _ (by omega)];exact h4
 ·rw[←hz];exact heap_alloc_new _ o5
theorem A8d {β:Type}{f : β→List Nat}{v:VL β}{k:Nat}(h:(VL.fp f v).count k≤1):(k∈own1 v.p1→k∉own1 v.p2∧k∉own1 v.p3∧k∉v.subs.flatMap f)∧(k∈own1 v.p2→k∉own1 v.p1∧k∉own1 v.p3∧k∉v.subs.flatMap f)∧(k∈own1 v.p3→k∉own1 v.p1∧k∉own1 v.p2∧k∉v.subs.flatMap f):=by
 rw[A7z] at h
 refine⟨fun h1=>?_,fun h1=>?_,fun h1=>?_⟩ <;> refine⟨C7w (by omega) h1,C7w (by omega) h1,C7w (by omega) h1⟩
theorem A1e {A:List Nat}{k:Nat}(h:0<A.count k):k∈A:=List.count_pos_iff.1 h
theorem OwnV.lt {base d:Nat}{w:World}{v:VL (LB d)}(h:OwnV (ekB d) (OwnB base d) w base v):∀ k∈VL.fp (LB.fp d) v,base≤k∧k<w.heap.size:=h.inB fun s _ hs=>OwnB.inB d hs
structure MetIn (d:Nat) (W0 w:World) (y z:VL (LB d)):Prop where
 below:Below W0.heap.size W0 w
 hy:OwnV (ekB d) (OwnB W0.heap.size d) w W0.heap.size y
 hz:OwnV (ekB d) (OwnB W0.heap.size d) w W0.heap.size z
 once:∀ k,(VL.fp (LB.fp d) y).count k+(VL.fp (LB.fp d) z).count k≤1
 len:jW (jWB d) (VL.pl (LB.pl d) y)+jW (jWB d) (VL.pl (LB.pl d) z)≤1000000000
end L
end Go.Proofs.YtgaoojpakjjdnaaGreatDoor
