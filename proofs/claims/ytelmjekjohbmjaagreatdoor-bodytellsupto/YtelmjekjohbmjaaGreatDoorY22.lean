import Derived.Test.YtelmjekjohbmjaaGreatDoorY21
import Derived.Test.YtelmjekjohbmjaaGreatDoorY14
import Derived.Test.YtelmjekjohbmjaaGreatDoorY11
import Derived.Deep.RegionHeld3
namespace Go.Proofs.YtelmjekjohbmjaaGreatDoor
namespace L
open Go.RowKit
theorem B5f (w:World) (o1 o2 o3 o4:Obj):((((w.alloc o1).alloc o2).alloc o3).alloc o4).heap[w.heap.size]?=some o1∧((((w.alloc o1).alloc o2).alloc o3).alloc o4).heap[w.heap.size+1]?=some o2∧((((w.alloc o1).alloc o2).alloc o3).alloc o4).heap[w.heap.size+2]?=some o3∧((((w.alloc o1).alloc o2).alloc o3).alloc o4).heap[w.heap.size+3]?=some o4∧((((w.alloc o1).alloc o2).alloc o3).alloc o4).heap.size=w.heap.size+4:=by
 have z1:(w.alloc o1).heap.size=w.heap.size+1:=by simp
 have z2:((w.alloc o1).alloc o2).heap.size=w.heap.size+2:=by simp
 have z3:(((w.alloc o1).alloc o2).alloc o3).heap.size=w.heap.size+3:=by simp
 refine⟨?_,?_,?_,?_,by simp⟩
 ·rw[Below.heap_alloc _ _ _ (by omega),Below.heap_alloc _ _ _ (by omega),Below.heap_alloc _ _ _ (by omega)];exact heap_alloc_new w o1
 ·rw[Below.heap_alloc _ _ _ (by omega),Below.heap_alloc _ _ _ (by omega),←z1];exact heap_alloc_new _ o2
 ·rw[Below.heap_alloc _ _ _ (by omega),←z2];exact heap_alloc_new _ o3
 ·rw[←z3];exact heap_alloc_new _ o4
abbrev OT (d:Nat):World→LB d→Prop:=fun _ _=>True
abbrev fT (d:Nat):LB d→List Nat:=fun _=>[]
def PT (d:Nat):World→Addr→BI d→Prop:=fun _ _ _=>True
theorem PT.stays (d:Nat):A3p (PT d):=fun _ _ _ _ _ _=>trivial
theorem OT.fr (d:Nat):∀ (F:List Nat) (w w':World) (b:LB d),OT d w b→FrB F w w'→(∀ k∈fT d b,k∉F)→OT d w' b:=fun _ _ _ _ _ _ _=>trivial
theorem OwnV.shy {d:Nat}{O:World→LB d→Prop}{w:World}{base:Nat}{y:VL (LB d)}(h:OwnV (ekB d) O w base y):OwnV (ekB d) (OT d) w base y:=⟨h.r1,h.r2,h.r2y,h.r3,fun _ _=>trivial⟩
theorem OwnL.shy {d:Nat}{O:World→LB d→Prop}{w:World}{base:Nat}{b:BL (LB d)}(h:OwnL (ekB d) O w base b):OwnL (ekB d) (OT d) w base b:=⟨h.r0,fun v hv=>(h.r0v v hv).shy,h.r1,h.r1y⟩
theorem OwnV.belowT {d:Nat}{w w':World}{base:Nat}{y:VL (LB d)}(h:OwnV (ekB d) (OT d) w base y) (hb:Below w.heap.size w w'):OwnV (ekB d) (OT d) w' base y:=OwnV.fr (F:=[]) (OT.fr d) h (.of_below hb) (fun _ _=>List.not_mem_nil)
theorem OwnL.belowT {d:Nat}{w w':World}{base:Nat}{b:BL (LB d)}(h:OwnL (ekB d) (OT d) w base b) (hb:Below w.heap.size w w'):OwnL (ekB d) (OT d) w' base b:=OwnL.fr (F:=[]) (OT.fr d) h (.of_below hb) (fun _ _=>List.not_mem_nil)
theorem OwnV.rdT {d:Nat}{O:World→LB d→Prop}{w:World}{base:Nat}{y:VL (LB d)}(h:OwnV (ekB d) O w base y):RdL 2 (PT d) w y.p3.v (y.subs.map (LB.pl d)):=
 RdL.mapB (P:=fun _ (_:Addr) (_:LB d)=>True) _ (h.r3.rd _ fun _ _ _ _=>trivial) fun _ _ _ _=>trivial
theorem OwnL.rdT {d:Nat}{O:World→LB d→Prop}{w:World}{base:Nat}{b:BL (LB d)}(h:OwnL (ekB d) O w base b):RdL 4 (VAt (PT d)) w b.q0.v (b.vals.map (VL.pl (LB.pl d))):=by
 refine RdL.mapB _ (h.r0.rd (fun w x (v:VL (LB d))=>w.cell? x=some (.int .i64 v.number)∧w.cell? (x.add 1)=some v.p1.v∧w.cell? (x.add 2)=some v.p2.v∧w.cell? (x.add 3)=some v.p3.v) fun g i a hc=>?_) ?_
 ·refine⟨by simpa using hc 0 _ rfl,?_,?_,?_⟩ <;> rw[A0j]
  ·exact hc 1 _ rfl
  ·exact hc 2 _ rfl
  ·exact hc 3 _ rfl
 ·rintro x v hv ⟨h0,h1,h2,h3⟩
  have ho:=h.r0v v hv
  exact⟨v.p1.v,v.p2.v,v.p3.v,h0,h1,h2,h3,ho.r1.rdU,ho.r2.rdZ ho.r2y,ho.rdT⟩
structure PutIn (d:Nat) (w:World) (base:Nat) (fs:List FI) (vf:Value) (b:BL (LB d)) (y:VL (LB d)):Prop where
 hf:RdL 6 FAt w vf fs
 fok:∀ f∈fs,I64 f.number∧I64 f.choice
 fl:fs.length≤140737488355328
 hb:OwnL (ekB d) (OT d) w base b
 hy:OwnV (ekB d) (OT d) w base y
 apart:∀ k∈own1 b.q0,k∉own1 b.q1∧(∀ a∈b.vals,k∉VL.fp (fT d) a)∧k∉VL.fp (fT d) y
 num:∀ a∈b.vals,I64 a.number
 len:(b.vals.length+1)*80≤140737488355328
 base:base≤w.heap.size
end L
end Go.Proofs.YtelmjekjohbmjaaGreatDoor
namespace Go.Proofs.YtelmjekjohbmjaaGreatDoor
namespace L
open Go.RowKit
set_option linter.unusedVariables false
theorem A4e {α:Type}{w:World}{ops:Array Oper}{rest:List Oper}{o:Oper}{a:Act}{Q:Exit→Act→World→Prop}(hgd:o.guard=none) (E:EK α) (s x:Operand)
  (ho:o.op = .call { callee:=.builtin .append,args:=#[s,x],argTypes:=#[E.slice,E.slice] })
  (base:Nat) (p q:PV) (l m:List α) (hY:E.elem≠5) (hs:a.eval s=p.v) (hown:Row E w base p.v l) (hx:a.eval x=q.v) (hq:Row E w base q.v m)
  (hby:1≤E.bytes) (hlen:(l.length+m.length)*E.bytes≤140737488355328) (hb:base≤w.heap.size)
  (h:∀ (a':Option Addr) (n' c':Nat) (w':World),Row E w' base (.slice a' n' c') (l++m)→Row E w' base p.v l→FrB (own1 p) w w'→(∀ k∈own1 (a',n',c'),k∈own1 p∨w.heap.size≤k)→wpList Tryz.prog ops Q rest (a.put o.dst (.slice a' n' c')) w'):wpList Tryz.prog ops Q (o::rest) a w:=
 wpList_plain hgd fun _ hK=>by
  obtain⟨a',n',c',w',hr,h1,h2,h3,h4⟩:=B9l E o.type base p q l m hY hown hq hby hlen hb
  unfold Oper.wp execOp
  simp only[ho,resolve,invoke,builtin,Sem.run_bind,Sem.run_pure,Result.andThen_ok,List.map_toArray,List.map_cons,List.map_nil,hs,hx,hr]
  exact hK _ _ (h a' n' c' w' h1 h2 h3 h4)
theorem A3k {w:World}{g:Nat}{a0 a1 a2 a3:Value}{t:TypeId}(h:w.heap[g]?=some (.cells #[a0,a1,a2,a3] t (0,0))) :
  w.cell? ⟨g,0,none⟩=some a0∧w.cell? ⟨g,1,none⟩=some a1∧w.cell? ⟨g,2,none⟩=some a2∧w.cell? ⟨g,3,none⟩=some a3:=
 ⟨A0a h 0 _ rfl,A0a h 1 _ rfl,A0a h 2 _ rfl,A0a h 3 _ rfl⟩
theorem B2c (w:World) (o1 o2 o3 o4 o5:Obj):(((((w.alloc o1).alloc o2).alloc o3).alloc o4).alloc o5).heap[w.heap.size]?=some o1∧(((((w.alloc o1).alloc o2).alloc o3).alloc o4).alloc o5).heap[w.heap.size+1]?=some o2∧(((((w.alloc o1).alloc o2).alloc o3).alloc o4).alloc o5).heap[w.heap.size+2]?=some o3∧(((((w.alloc o1).alloc o2).alloc o3).alloc o4).alloc o5).heap[w.heap.size+3]?=some o4∧(((((w.alloc o1).alloc o2).alloc o3).alloc o4).alloc o5).heap[w.heap.size+4]?=some o5∧(((((w.alloc o1).alloc o2).alloc o3).alloc o4).alloc o5).heap.size=w.heap.size+5:=by
 obtain⟨h1,h2,h3,h4,hz⟩:=B5f w o1 o2 o3 o4
 refine⟨?_,?_,?_,?_,?_,by simp⟩
 ·rw[Below.heap_alloc _ _ _ (by omega)];exact h1
 ·rw[Below.heap_alloc _ _ _ (by omega)];exact h2
 ·rw[Below.heap_alloc _ _ _ (by omega)];exact h3
 ·rw[Below.heap_alloc _ _ _ (by omega)];exact h4
 ·rw[←hz];exact heap_alloc_new _ o5
theorem A4q {β:Type}{f : β→List Nat}{v:VL β}{k:Nat}(h:(VL.fp f v).count k≤1):(k∈own1 v.p1→k∉own1 v.p2∧k∉own1 v.p3∧k∉v.subs.flatMap f)∧(k∈own1 v.p2→k∉own1 v.p1∧k∉own1 v.p3∧k∉v.subs.flatMap f)∧(k∈own1 v.p3→k∉own1 v.p1∧k∉own1 v.p2∧k∉v.subs.flatMap f):=by
 rw[A2a] at h
 refine⟨fun h1=>?_,fun h1=>?_,fun h1=>?_⟩ <;> refine⟨B5g (by omega) h1,B5g (by omega) h1,B5g (by omega) h1⟩
theorem A0t {A:List Nat}{k:Nat}(h:0 < A.count k):k∈A:=List.count_pos_iff.1 h
theorem OwnV.lt {base d:Nat}{w:World}{v:VL (LB d)}(h:OwnV (ekB d) (OwnB base d) w base v):∀ k∈VL.fp (LB.fp d) v,base≤k∧k < w.heap.size:=h.inB fun s _ hs=>OwnB.inB d hs
structure MetIn (d:Nat) (W0 w:World) (y z:VL (LB d)):Prop where
 below:Below W0.heap.size W0 w
 hy:OwnV (ekB d) (OwnB W0.heap.size d) w W0.heap.size y
 hz:OwnV (ekB d) (OwnB W0.heap.size d) w W0.heap.size z
 once:∀ k,(VL.fp (LB.fp d) y).count k+(VL.fp (LB.fp d) z).count k≤1
 len:jW (jWB d) (VL.pl (LB.pl d) y)+jW (jWB d) (VL.pl (LB.pl d) z)≤1000000000
def B2a (ms:List MI) (d:Nat) (W0 w:World) (x:FI) (y z:VL (LB d)) (e:Ending) (w':World):Prop:=
 ∃ t:VL (LB d),e = .returned (.agg #[.int .i64 t.number,t.p1.v,t.p2.v,t.p3.v])∧VL.pl (LB.pl d) t=A4f (jnB ms d) ms x (VL.pl (LB.pl d) y) (VL.pl (LB.pl d) z)∧OwnV (ekB d) (OwnB W0.heap.size d) w' W0.heap.size t∧OwnV (ekB d) (OT d) w' W0.heap.size y∧
  From w (VL.fp (LB.fp d) y++VL.fp (LB.fp d) z) (VL.fp (LB.fp d) t)∧FrB (VL.fp (LB.fp d) y++VL.fp (LB.fp d) z) w w'
set_option maxHeartbeats 4000000 in
set_option maxRecDepth 100000 in
theorem B8w {d:Nat}{W0 w:World}{ms:List MI}{y z:VL (LB d)}(h:MetIn d W0 w y z) (am:Option Addr) (nm cm:Nat) (ae:Option Addr) (ne ce:Nat) (x:FI) (hm:x.many=false) (hk:x.kind≠10) :
  Calls Tryz.prog 66 #[.agg #[.slice am nm cm,.slice ae ne ce],vFI x,.agg #[.int .i64 y.number,y.p1.v,y.p2.v,y.p3.v],.agg #[.int .i64 z.number,z.p1.v,z.p2.v,z.p3.v]] w fun e w'=>B2a ms d W0 w x y z e w':=by
 have HE:Hid (A4f (jnB ms d) ms x (VL.pl (LB.pl d) y) (VL.pl (LB.pl d) z)=VL.pl (LB.pl d) z):=by
  show _=_
  unfold A4f
  rw[hm,if_neg (by simp),if_neg hk]
 unfold vFI
 rw[hm]
 have hk':(x.kind == 10)=false:=beq_eq_false_iff_ne.2 hk
 obtain⟨nu,bi,by',su,⟨a1,n1,c1⟩,⟨a2,n2,c2⟩,⟨a3,n3,c3⟩⟩:=y
 obtain⟨mu,bj,bz',sv,⟨b1,m1,d1⟩,⟨b2,m2,d2⟩,⟨b3,m3,d3⟩⟩:=z
 have hb5:Below w.heap.size w (((((w.alloc (.cells #[.slice am nm cm,.slice ae ne ce] 25)).alloc (.cells #[.string (S x.name),.int .i64 x.number,.int .i64 x.kind,.string (S x.type),.bool false,.int .i64 x.choice] 53)).alloc (.cells #[.int .i64 nu,.slice a1 n1 c1,.slice a2 n2 c2,.slice a3 n3 c3] 34)).alloc (.cells #[.int .i64 mu,.slice b1 m1 d1,.slice b2 m2 d2,.slice b3 m3 d3] 34)).alloc (.cells #[.int .i64 mu,.slice b1 m1 d1,.slice b2 m2 d2,.slice b3 m3 d3] 34)):=(((((Below.refl _ _).alloc (Nat.le_refl _) _).alloc (by simp) _).alloc (by simp;omega) _).alloc (by simp;omega) _).alloc (by simp;omega) _
 have HZ:Hid _:=h.hz.below hb5
 have HY:Hid _:=h.hy.below hb5
 have HFW:Hid _:=hb5
 have honce:=h.once
 clear h hm hb5
 unfold PV.v
 go_enter Tryz.func66,Tryz.ntmps66
 go_wp2_with fail
 refine bodyPost_ret (v:=.agg #[.int .i64 mu,.slice b1 m1 d1,.slice b2 m2 d2,.slice b3 m3 d3]) (by simp[results,Tryz.results66,go_sem, *]) rfl ?_
 refine⟨⟨mu,bj,bz',sv,(b1,m1,d1),(b2,m2,d2),(b3,m3,d3)⟩,rfl,HE.out.symm,HZ.out,HY.out.shy,fun k=>?_,FrB.of_below HFW.out⟩
 have:=honce k
 rw[List.count_append]
 exact⟨by omega,fun _=>by omega⟩
set_option maxHeartbeats 4000000 in
set_option maxRecDepth 100000 in
theorem B8x {d:Nat}{W0 w:World}{ms:List MI}{y z:VL (LB d)}(h:MetIn d W0 w y z) (am:Option Addr) (nm cm:Nat) (ae:Option Addr) (ne ce:Nat) (x:FI) (hm:x.many=true) :
  Calls Tryz.prog 66 #[.agg #[.slice am nm cm,.slice ae ne ce],vFI x,.agg #[.int .i64 y.number,y.p1.v,y.p2.v,y.p3.v],.agg #[.int .i64 z.number,z.p1.v,z.p2.v,z.p3.v]] w fun e w'=>B2a ms d W0 w x y z e w':=by
 have HE:Hid (A4f (jnB ms d) ms x (VL.pl (LB.pl d) y) (VL.pl (LB.pl d) z)=⟨y.number,y.bits++z.bits,y.bytes.map Prod.fst++z.bytes.map Prod.fst,y.subs.map (LB.pl d)++z.subs.map (LB.pl d)⟩):=by
  show _=_
  unfold A4f
  rw[hm,if_pos rfl]
  rfl
 unfold vFI
 rw[hm]
 obtain⟨nu,bi,by',su,⟨a1,n1,c1⟩,⟨a2,n2,c2⟩,⟨a3,n3,c3⟩⟩:=y
 obtain⟨mu,bj,bz',sv,⟨b1,m1,d1⟩,⟨b2,m2,d2⟩,⟨b3,m3,d3⟩⟩:=z
 have hlens:(bi.length+bj.length)*8≤140737488355328∧(by'.length+bz'.length)*24≤140737488355328∧(su.length+sv.length)*48≤140737488355328:=by
  have h0:=h.len
  have h1:=A2x (fun s=>1+jWB d s) (fun _=>by omega) (su.map (LB.pl d))
  have h2:=A2x (fun s=>1+jWB d s) (fun _=>by omega) (sv.map (LB.pl d))
  simp only[jW,VL.pl,List.length_map] at h0 h1 h2
  omega
 obtain⟨hl1,hl2,hl3⟩:=hlens
 obtain⟨W5,HW5⟩:∃ W5,Hid (W5=((((w.alloc (.cells #[.slice am nm cm,.slice ae ne ce] 25)).alloc (.cells #[.string (S x.name),.int .i64 x.number,.int .i64 x.kind,.string (S x.type),.bool true,.int .i64 x.choice] 53)).alloc (.cells #[.int .i64 nu,.slice a1 n1 c1,.slice a2 n2 c2,.slice a3 n3 c3] 34)).alloc (.cells #[.int .i64 mu,.slice b1 m1 d1,.slice b2 m2 d2,.slice b3 m3 d3] 34)).alloc (.cells #[.int .i64 0,.slice none 0 0,.slice none 0 0,.slice none 0 0] 34)):=⟨_,rfl⟩
 have hb5:Below w.heap.size w W5:=by rw[HW5.out];exact(((((Below.refl _ _).alloc (Nat.le_refl _) _).alloc (by simp) _).alloc (by simp;omega) _).alloc (by simp;omega) _).alloc (by simp;omega) _
 obtain⟨x0,x1,x2,x3,x4,xz⟩:=B2c w (.cells #[.slice am nm cm,.slice ae ne ce] 25) (.cells #[.string (S x.name),.int .i64 x.number,.int .i64 x.kind,.string (S x.type),.bool true,.int .i64 x.choice] 53) (.cells #[.int .i64 nu,.slice a1 n1 c1,.slice a2 n2 c2,.slice a3 n3 c3] 34) (.cells #[.int .i64 mu,.slice b1 m1 d1,.slice b2 m2 d2,.slice b3 m3 d3] 34) (.cells #[.int .i64 0,.slice none 0 0,.slice none 0 0,.slice none 0 0] 34)
 rw[←HW5.out] at x2 x3 x4 xz
 have z5:=Nat.le_of_eq xz
 have z5':=Nat.le_of_eq xz.symm
 have hly:=h.hy.lt
 have hlz:=h.hz.lt
 have honce:=h.once
 have hB0:=h.below.size
 have oy:=h.hy.below hb5
 have oz:=h.hz.below hb5
 have ny1:∀ k∈own1 (a1,n1,c1),k∉own1 (a2,n2,c2)∧k∉own1 (a3,n3,c3)∧k < w.heap.size:=fun k hk=>⟨((A4q (show(VL.fp (LB.fp d) ⟨nu,bi,by',su,(a1,n1,c1),(a2,n2,c2),(a3,n3,c3)⟩).count k≤1 by have:=honce k;omega)).1 hk).1,((A4q (show(VL.fp (LB.fp d) ⟨nu,bi,by',su,(a1,n1,c1),(a2,n2,c2),(a3,n3,c3)⟩).count k≤1 by have:=honce k;omega)).1 hk).2.1,(h.hy.r1.own1 k hk).2⟩
 have ny2:∀ k∈own1 (a2,n2,c2),k∉own1 (a1,n1,c1)∧k∉own1 (a3,n3,c3)∧k < w.heap.size:=fun k hk=>⟨((A4q (show(VL.fp (LB.fp d) ⟨nu,bi,by',su,(a1,n1,c1),(a2,n2,c2),(a3,n3,c3)⟩).count k≤1 by have:=honce k;omega)).2.1 hk).1,((A4q (show(VL.fp (LB.fp d) ⟨nu,bi,by',su,(a1,n1,c1),(a2,n2,c2),(a3,n3,c3)⟩).count k≤1 by have:=honce k;omega)).2.1 hk).2.1,(h.hy.r2.own1 k hk).2⟩
 have ny3:∀ k∈own1 (a3,n3,c3),k∉own1 (a1,n1,c1)∧k∉own1 (a2,n2,c2)∧k < w.heap.size:=fun k hk=>⟨((A4q (show(VL.fp (LB.fp d) ⟨nu,bi,by',su,(a1,n1,c1),(a2,n2,c2),(a3,n3,c3)⟩).count k≤1 by have:=honce k;omega)).2.2 hk).1,((A4q (show(VL.fp (LB.fp d) ⟨nu,bi,by',su,(a1,n1,c1),(a2,n2,c2),(a3,n3,c3)⟩).count k≤1 by have:=honce k;omega)).2.2 hk).2.1,(h.hy.r3.own1 k hk).2⟩
 have nz:∀ k∈VL.fp (LB.fp d) (⟨mu,bj,bz',sv,(b1,m1,d1),(b2,m2,d2),(b3,m3,d3)⟩:VL (LB d)),k∉own1 (a1,n1,c1)∧k∉own1 (a2,n2,c2)∧k∉own1 (a3,n3,c3)∧k < w.heap.size:=fun k hk=>by
  have h1:=honce k
  have h2:=List.count_pos_iff.2 hk
  rw[A2a] at h1
  refine⟨fun hm=>?_,fun hm=>?_,fun hm=>?_,(hlz k hk).2⟩ <;> (have h3:=List.count_pos_iff.2 hm;dsimp only at h1;omega)
 have ns:∀ k∈su.flatMap (LB.fp d),k∉own1 (a1,n1,c1)∧k∉own1 (a2,n2,c2)∧k∉own1 (a3,n3,c3)∧k < w.heap.size:=fun k hk=>by
  have h1:=honce k
  have h2:=List.count_pos_iff.2 hk
  rw[A2a] at h1
  refine⟨fun hm=>?_,fun hm=>?_,fun hm=>?_,(hly k (by unfold VL.fp;simp[List.mem_append,hk])).2⟩ <;> (have h3:=List.count_pos_iff.2 hm;dsimp only at h1;omega)
 have bB5:W0.heap.size≤W5.heap.size:=by omega
 have HN:Hid ((∀ k∈VL.fp (LB.fp d) (⟨mu,bj,bz',sv,(b1,m1,d1),(b2,m2,d2),(b3,m3,d3)⟩:VL (LB d)),k∉own1 (a1,n1,c1)∧k∉own1 (a2,n2,c2)∧k∉own1 (a3,n3,c3)∧k < w.heap.size)∧(∀ k∈su.flatMap (LB.fp d),k∉own1 (a1,n1,c1)∧k∉own1 (a2,n2,c2)∧k∉own1 (a3,n3,c3)∧k < w.heap.size)):=⟨nz,ns⟩
 have HOnce:Hid _:=honce
 have HOY:Hid _:=oy
 have HOZ:Hid _:=oz
 have hu1:Row ekU W5 W0.heap.size (PV.v (b1,m1,d1)) bj:=oz.r1
 have hu2:Row ekZ W5 W0.heap.size (PV.v (b2,m2,d2)) bz':=oz.r2
 have hu3:Row (ekB d) W5 W0.heap.size (PV.v (b3,m3,d3)) sv:=oz.r3
 have hv1:Row ekU W5 W0.heap.size (PV.v (a1,n1,c1)) bi:=oy.r1
 have hv2:Row ekZ W5 W0.heap.size (PV.v (a2,n2,c2)) by':=oy.r2
 have hv3:Row (ekB d) W5 W0.heap.size (PV.v (a3,n3,c3)) su:=oy.r3
 have nz1:∀ k∈own1 (b1,m1,d1),k∉own1 (a1,n1,c1)∧k∉own1 (a2,n2,c2)∧k∉own1 (a3,n3,c3)∧k < w.heap.size:=fun k hk=>nz k (by unfold VL.fp;simp[hk])
 have nz2:∀ k∈own1 (b2,m2,d2),k∉own1 (a1,n1,c1)∧k∉own1 (a2,n2,c2)∧k∉own1 (a3,n3,c3)∧k < w.heap.size:=fun k hk=>nz k (by unfold VL.fp;simp[hk])
 have nz3:∀ k∈own1 (b3,m3,d3),k∉own1 (a1,n1,c1)∧k∉own1 (a2,n2,c2)∧k∉own1 (a3,n3,c3)∧k < w.heap.size:=fun k hk=>nz k (by unfold VL.fp;simp[hk])
 clear h x0 x1 hly hlz honce oy oz hm xz nz ns
 unfold PV.v
 go_enter Tryz.func66,Tryz.ntmps66
 go_wp2_with (at_builtin;rw[←HW5.out];refine A4e rfl ekU _ _ rfl W0.heap.size (a1,n1,c1) (b1,m1,d1) bi bj (by decide) rfl hv1 rfl hu1 (by decide) hl1 bB5 ?_)
 intro e1 f1 g1 w1 R1 O1 F1 M1
 have zz1:=F1.size
 have y2:=(F1.blk (by omega) (fun hm=>by have:=(ny1 _ hm).2.2;omega)).trans x2
 have y3:=(F1.blk (by omega) (fun hm=>by have:=(ny1 _ hm).2.2;omega)).trans x3
 have y4:=(F1.blk (by omega) (fun hm=>by have:=(ny1 _ hm).2.2;omega)).trans x4
 obtain⟨s0,s1,s2,s3⟩:=A3k y2
 obtain⟨t0,t1,t2,t3⟩:=A3k y3
 have q1:=A0b y2 1
 obtain⟨W6,HW6⟩:∃ W6,Hid (W6=w1.setCell ⟨w.heap.size+2,1,none⟩ (.slice e1 f1 g1)):=⟨_,rfl⟩
 have G1:FrB [w.heap.size+2] w1 W6:=by rw[HW6.out];exact A1b y2 (by decide)
 have k2:W6.heap[w.heap.size+2]?=some (.cells #[.int .i64 nu,.slice e1 f1 g1,.slice a2 n2 c2,.slice a3 n3 c3] 34 (0,0)):=by rw[HW6.out];exact heap_setCell_same w1 _ 1 _ _ _ y2
 have zz1':=G1.size
 have k3:=(G1.blk (show w.heap.size+3 < w1.heap.size by omega) (by simp)).trans y3
 have k4:=(G1.blk (show w.heap.size+4 < w1.heap.size by omega) (by simp)).trans y4
 have hv2':=Row.frB (p:=(a2,n2,c2)) (Row.frB (p:=(a2,n2,c2)) hv2 F1 fun k hk=>(ny2 k hk).1) G1 fun k hk hm=>by rw[List.mem_singleton] at hm;have:=(ny2 k hk).2.2;omega
 have hu2':=Row.frB (p:=(b2,m2,d2)) (Row.frB (p:=(b2,m2,d2)) hu2 F1 fun k hk=>(nz2 k hk).1) G1 fun k hk hm=>by rw[List.mem_singleton] at hm;have:=(nz2 k hk).2.2.2;omega
 have bB6:W0.heap.size≤W6.heap.size:=by omega
 have HR1:Hid _:=R1
 have HO1:Hid _:=O1
 have HF1:Hid _:=F1
 have HM1:Hid _:=M1
 have HG1:Hid _:=G1
 clear x2 x3 x4 hv1 hu1 R1 O1 F1 M1 G1 y2 y3 y4 hv2 hu2
 go_wp2_with (at_builtin;rw[←HW6.out];refine A4e rfl ekZ _ _ rfl W0.heap.size (a2,n2,c2) (b2,m2,d2) by' bz' (by decide) rfl hv2' rfl hu2' (by decide) hl2 bB6 ?_)
 intro e2 f2 g2 w2 R2 O2 F2 M2
 clear s0 s1 s2 s3 t0 t1 t2 t3 q1
 have zz2:=F2.size
 have y2:=(F2.blk (by omega) (fun hm=>by have:=(ny2 _ hm).2.2;omega)).trans k2
 have y3:=(F2.blk (by omega) (fun hm=>by have:=(ny2 _ hm).2.2;omega)).trans k3
 have y4:=(F2.blk (by omega) (fun hm=>by have:=(ny2 _ hm).2.2;omega)).trans k4
 obtain⟨s0,s1,s2,s3⟩:=A3k y2
 obtain⟨t0,t1,t2,t3⟩:=A3k y3
 have q1:=A0b y2 2
 obtain⟨W7,HW7⟩:∃ W7,Hid (W7=w2.setCell ⟨w.heap.size+2,2,none⟩ (.slice e2 f2 g2)):=⟨_,rfl⟩
 have G2:FrB [w.heap.size+2] w2 W7:=by rw[HW7.out];exact A1b y2 (by decide)
 have j2:W7.heap[w.heap.size+2]?=some (.cells #[.int .i64 nu,.slice e1 f1 g1,.slice e2 f2 g2,.slice a3 n3 c3] 34 (0,0)):=by rw[HW7.out];exact heap_setCell_same w2 _ 2 _ _ _ y2
 have zz2':=G2.size
 have j3:=(G2.blk (show w.heap.size+3 < w2.heap.size by omega) (by simp)).trans y3
 have j4:=(G2.blk (show w.heap.size+4 < w2.heap.size by omega) (by simp)).trans y4
 have go2:∀ {α:Type}{E:EK α}{p:PV}{l:List α},Row E W5 W0.heap.size p.v l→(∀ k∈own1 p,k∉own1 (a1,n1,c1)∧k∉own1 (a2,n2,c2)∧k < w.heap.size)→Row E W7 W0.heap.size p.v l:=fun hr hn=>by
  refine Row.frB (Row.frB (Row.frB (Row.frB hr HF1.out fun k hk=>(hn k hk).1) HG1.out fun k hk hm=>?_) F2 fun k hk=>(hn k hk).2.1) G2 fun k hk hm=>?_ <;> (rw[List.mem_singleton] at hm;have:=(hn k hk).2.2;omega)
 have hv3':=go2 (p:=(a3,n3,c3)) hv3 fun k hk=>ny3 k hk
 have hu3':=go2 (p:=(b3,m3,d3)) hu3 fun k hk=>⟨(nz3 k hk).1,(nz3 k hk).2.1,(nz3 k hk).2.2.2⟩
 have bB7:W0.heap.size≤W7.heap.size:=by omega
 have HR2:Hid _:=R2
 have HO2:Hid _:=O2
 have HF2:Hid _:=F2
 have HM2:Hid _:=M2
 have HG2:Hid _:=G2
 clear go2 k2 k3 k4 hv2' hu2' R2 O2 F2 M2 G2 y2 y3 y4 hv3 hu3
 go_wp2_with (at_builtin;rw[←HW7.out];refine A4e rfl (ekB d) _ _ rfl W0.heap.size (a3,n3,c3) (b3,m3,d3) su sv (by show(29:TypeId)≠5;decide) rfl hv3' rfl hu3' (show 1≤48 by omega) hl3 bB7 ?_)
 intro e3 f3 g3 w3 R3 O3 F3 M3
 clear s0 s1 s2 s3 t0 t1 t2 t3 q1
 have zz3:=F3.size
 have y2:=(F3.blk (by omega) (fun hm=>by have:=(ny3 _ hm).2.2;omega)).trans j2
 have y4:=(F3.blk (by omega) (fun hm=>by have:=(ny3 _ hm).2.2;omega)).trans j4
 obtain⟨s0,s1,s2,s3⟩:=A3k y2
 have q1:=A0b y2 3
 obtain⟨r0,r1,r2,r3⟩:=A3k y4
 have q2:=A0b y4 0
 have q3:=A0b y4 1
 have q4:=A0b y4 2
 have q5:=A0b y4 3
 obtain⟨W8,HW8⟩:∃ W8,Hid (W8=w3.setCell ⟨w.heap.size+2,3,none⟩ (.slice e3 f3 g3)):=⟨_,rfl⟩
 have G3:FrB [w.heap.size+2] w3 W8:=by rw[HW8.out];exact A1b y2 (by decide)
 have zz3':=G3.size
 have i4:=(G3.blk (show w.heap.size+4 < w3.heap.size by omega) (by simp)).trans y4
 have G4:=fr4 i4 (x0:=.int .i64 nu) (x1:=.slice e1 f1 g1) (x2:=.slice e2 f2 g2) (x3:=.slice e3 f3 g3)
 have T3:=G3.trans G4 (H:=[w.heap.size+2,w.heap.size+4]) (fun i hi=>by simp at hi;simp[hi]) (fun i hi=>.inl (by simp at hi;simp[hi]))
 have T2:=(HG2.out.trans F3 (H:=[w.heap.size+2,w.heap.size+4]++own1 (a3,n3,c3)) (fun i hi=>by simp at hi;simp[hi]) (fun i hi=>.inl (List.mem_append_right _ hi))).trans T3 (H:=[w.heap.size+2,w.heap.size+4]++own1 (a3,n3,c3)) (fun i hi=>hi) (fun i hi=>.inl (List.mem_append_left _ hi))
 have T1:=(HG1.out.trans HF2.out (H:=[w.heap.size+2,w.heap.size+4]++own1 (a3,n3,c3)++own1 (a2,n2,c2)) (fun i hi=>by simp at hi;simp[hi]) (fun i hi=>.inl (List.mem_append_right _ hi))).trans T2 (H:=[w.heap.size+2,w.heap.size+4]++own1 (a3,n3,c3)++own1 (a2,n2,c2)) (fun i hi=>hi) (fun i hi=>.inl (List.mem_append_left _ hi))
 have T0:=HF1.out.trans T1 (H:=[w.heap.size+2,w.heap.size+4]++own1 (a3,n3,c3)++own1 (a2,n2,c2)++own1 (a1,n1,c1)) (fun i hi=>List.mem_append_right _ hi) (fun i hi=>.inl (List.mem_append_left _ hi))
 have nT:∀ k,k < w.heap.size∨W5.heap.size≤k→k∉[w.heap.size+2,w.heap.size+4]:=fun k hk hm=>by
  simp only[List.mem_cons,List.mem_nil_iff,or_false] at hm
  omega
 have nT3:∀ k,k < w.heap.size∨W5.heap.size≤k→k∉own1 (a3,n3,c3)→k∉[w.heap.size+2,w.heap.size+4]++own1 (a3,n3,c3):=fun k hk h3 hm=>by
  rcases List.mem_append.1 hm with hm|hm
  ·exact nT k hk hm
  ·exact h3 hm
 have nT2:∀ k,k < w.heap.size∨W5.heap.size≤k→k∉own1 (a3,n3,c3)→k∉own1 (a2,n2,c2)→k∉[w.heap.size+2,w.heap.size+4]++own1 (a3,n3,c3)++own1 (a2,n2,c2):=fun k hk h3 h2 hm=>by
  rcases List.mem_append.1 hm with hm|hm
  ·exact nT3 k hk h3 hm
  ·exact h2 hm
 have nT1:∀ k,k < w.heap.size→k∉own1 (a3,n3,c3)→k∉own1 (a2,n2,c2)→k∉own1 (a1,n1,c1)→k∉[w.heap.size+2,w.heap.size+4]++own1 (a3,n3,c3)++own1 (a2,n2,c2)++own1 (a1,n1,c1):=fun k hk h3 h2 h1 hm=>by
  rcases List.mem_append.1 hm with hm|hm
  ·exact nT2 k (.inl hk) h3 h2 hm
  ·exact h1 hm
 have P1:∀ k∈own1 (e1,f1,g1),k∈own1 (a1,n1,c1)∨W5.heap.size≤k:=fun k hk=>HM1.out k hk
 have P2:∀ k∈own1 (e2,f2,g2),k∈own1 (a2,n2,c2)∨w1.heap.size≤k:=fun k hk=>(HM2.out k hk).imp id fun h=>by omega
 have P3:∀ k∈own1 (e3,f3,g3),k∈own1 (a3,n3,c3)∨w2.heap.size≤k:=fun k hk=>(M3 k hk).imp id fun h=>by omega
 have L1:∀ k∈own1 (e1,f1,g1),k < w1.heap.size:=fun k hk=>(Row.own1 (p:=(e1,f1,g1)) HR1.out k hk).2
 have L2:∀ k∈own1 (e2,f2,g2),k < w2.heap.size:=fun k hk=>(Row.own1 (p:=(e2,f2,g2)) HR2.out k hk).2
 have HT:Hid _:=T0
 have HT1:Hid _:=T1
 have HT2:Hid _:=T2
 have HT3:Hid _:=T3
 have HG4:Hid _:=G4
 have HR3:Hid _:=R3
 have HO3:Hid _:=O3
 have HP:Hid ((∀ k∈own1 (e1,f1,g1),k∈own1 (a1,n1,c1)∨W5.heap.size≤k)∧(∀ k∈own1 (e2,f2,g2),k∈own1 (a2,n2,c2)∨w1.heap.size≤k)∧(∀ k∈own1 (e3,f3,g3),k∈own1 (a3,n3,c3)∨w2.heap.size≤k)∧(∀ k∈own1 (e1,f1,g1),k < w1.heap.size)∧(∀ k∈own1 (e2,f2,g2),k < w2.heap.size)):=⟨P1,P2,P3,L1,L2⟩
 clear j2 j3 j4 hv3' hu3' R3 O3 F3 M3 G3 G4 y2 y4 i4 T0 T1 T2 T3 P1 P2 P3 L1 L2
 go_wp2_with fail
 refine bodyPost_ret (v:=.agg #[.int .i64 nu,.slice e1 f1 g1,.slice e2 f2 g2,.slice e3 f3 g3]) (by simp[results,Tryz.results66,go_sem, *]) rfl ?_
 rw[←HW8.out]
 obtain⟨P1,P2,P3,L1,L2⟩:=HP.out
 refine⟨⟨nu,bi++bj,by'++bz',su++sv,(e1,f1,g1),(e2,f2,g2),(e3,f3,g3)⟩,rfl,?_,?_,?_,?_,?_⟩
 ·rw[HE.out]
  simp[VL.pl]
 ·refine⟨?_,?_,fun zz hz=>?_,?_,fun s hs=>?_⟩
  ·refine Row.frB (p:=(e1,f1,g1)) HR1.out HT1.out fun k hk=>?_
   rcases P1 k hk with h1|h1
   ·exact nT2 k (.inl (ny1 k h1).2.2) (ny1 k h1).2.1 (ny1 k h1).1
   ·exact nT2 k (.inr h1) (fun hm=>by have:=(ny3 k hm).2.2;omega) (fun hm=>by have:=(ny2 k hm).2.2;omega)
  ·refine Row.frB (p:=(e2,f2,g2)) HR2.out HT2.out fun k hk=>?_
   rcases P2 k hk with h1|h1
   ·exact nT3 k (.inl (ny2 k h1).2.2) (ny2 k h1).2.1
   ·exact nT3 k (.inr (by omega)) (fun hm=>by have:=(ny3 k hm).2.2;omega)
  ·rcases List.mem_append.1 hz with hz|hz
   ·exact(HOY.out.r2y zz hz).frY HT.out
   ·exact(HOZ.out.r2y zz hz).frY HT.out
  ·refine Row.frB (p:=(e3,f3,g3)) HR3.out HT3.out fun k hk=>?_
   rcases P3 k hk with h1|h1
   ·exact nT k (.inl (ny3 k h1).2.2)
   ·exact nT k (.inr (by omega))
  ·rcases List.mem_append.1 hs with hs|hs
   ·refine OwnB.fr d _ _ _ s (HOY.out.r3s s hs) HT.out fun k hk=>?_
    obtain⟨h1,h2,h3,h4⟩:=HN.out.2 k (List.mem_flatMap.2 ⟨s,hs,hk⟩)
    exact nT1 k h4 h3 h2 h1
   ·refine OwnB.fr d _ _ _ s (HOZ.out.r3s s hs) HT.out fun k hk=>?_
    obtain⟨h1,h2,h3,h4⟩:=HN.out.1 k (by unfold VL.fp;simp only[List.mem_append,List.mem_flatMap];exact .inr ⟨s,hs,hk⟩)
    exact nT1 k h4 h3 h2 h1
 ·refine⟨?_,?_,fun zz hz=>(HOY.out.r2y zz hz).frY HT.out,?_,fun _ _=>trivial⟩
  ·exact Row.frB (p:=(a1,n1,c1)) HO1.out HT1.out fun k hk=>nT2 k (.inl (ny1 k hk).2.2) (ny1 k hk).2.1 (ny1 k hk).1
  ·exact Row.frB (p:=(a2,n2,c2)) HO2.out HT2.out fun k hk=>nT3 k (.inl (ny2 k hk).2.2) (ny2 k hk).2.1
  ·exact Row.frB (p:=(a3,n3,c3)) HO3.out HT3.out fun k hk=>nT k (.inl (ny3 k hk).2.2)
 ·intro k
  have hon:=HOnce.out k
  rw[List.count_append]
  rw[A2a,A2a] at hon ⊢
  rw[A2a]
  dsimp only at hon ⊢
  rw[A1y]
  have o1:=A3g (e1,f1,g1) k
  have o2:=A3g (e2,f2,g2) k
  have o3:=A3g (e3,f3,g3) k
  have c1':0 < (own1 (e1,f1,g1)).count k→(0 < (own1 (a1,n1,c1)).count k∨W5.heap.size≤k)∧k < w1.heap.size:=fun h=>⟨(P1 k (A0t h)).imp List.count_pos_iff.2 id,L1 k (A0t h)⟩
  have c2':0 < (own1 (e2,f2,g2)).count k→(0 < (own1 (a2,n2,c2)).count k∨w1.heap.size≤k)∧k < w2.heap.size:=fun h=>⟨(P2 k (A0t h)).imp List.count_pos_iff.2 id,L2 k (A0t h)⟩
  have c3':0 < (own1 (e3,f3,g3)).count k→(0 < (own1 (a3,n3,c3)).count k∨w2.heap.size≤k):=fun h=>(P3 k (A0t h)).imp List.count_pos_iff.2 id
  have u1:0 < (own1 (a1,n1,c1)).count k→k < w.heap.size:=fun h=>(ny1 k (A0t h)).2.2
  have u2:0 < (own1 (a2,n2,c2)).count k→k < w.heap.size:=fun h=>(ny2 k (A0t h)).2.2
  have u3:0 < (own1 (a3,n3,c3)).count k→k < w.heap.size:=fun h=>(ny3 k (A0t h)).2.2
  have u4:0 < (su.flatMap (LB.fp d)).count k→k < w.heap.size:=fun h=>(HN.out.2 k (A0t h)).2.2.2
  have u5:0 < (sv.flatMap (LB.fp d)).count k→k < w.heap.size:=fun h=>(HN.out.1 k (by unfold VL.fp;exact List.mem_append_right _ (A0t h))).2.2.2
  refine⟨?_,fun _=>?_⟩ <;> omega
 ·refine FrB.trans (FrB.of_below hb5:FrB [] w W5) HT.out (fun _ hi=>by simp at hi) (fun i hi=>?_)
  rcases List.mem_append.1 hi with hi|hi
  ·rcases List.mem_append.1 hi with hi|hi
   ·rcases List.mem_append.1 hi with hi|hi
    ·right
     simp only[List.mem_cons,List.mem_nil_iff,or_false] at hi
     omega
    ·exact .inl (List.mem_append_left _ (by unfold VL.fp;simp[hi]))
   ·exact .inl (List.mem_append_left _ (by unfold VL.fp;simp[hi]))
  ·exact .inl (List.mem_append_left _ (by unfold VL.fp;simp[hi]))
end L
end Go.Proofs.YtelmjekjohbmjaaGreatDoor
