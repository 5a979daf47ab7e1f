import Derived.Test.YtgaoojpakjjdnaaGreatDoorV14
set_option maxHeartbeats 32000000
set_option maxRecDepth 100000
set_option linter.unusedVariables false
namespace Go.Proofs.YtgaoojpakjjdnaaGreatDoor
namespace L
open Go.RowKit
theorem C1r (w:World)(o1 o2 o3 o4:Obj):((((w.alloc o1).alloc o2).alloc o3).alloc o4).heap[w.heap.size]?=some o1∧((((w.alloc o1).alloc o2).alloc o3).alloc o4).heap[w.heap.size+1]?=some o2∧((((w.alloc o1).alloc o2).alloc o3).alloc o4).heap[w.heap.size+2]?=some o3∧((((w.alloc o1).alloc o2).alloc o3).alloc o4).heap[w.heap.size+3]?=some o4∧((((w.alloc o1).alloc o2).alloc o3).alloc o4).heap.size=w.heap.size+4:=by
 have z1:(w.alloc o1).heap.size=w.heap.size+1:=by simp
 have z2:((w.alloc o1).alloc o2).heap.size=w.heap.size+2:=by simp
 have z3:(((w.alloc o1).alloc o2).alloc o3).heap.size=w.heap.size+3:=by simp
 refine⟨?_,?_,?_,?_,by simp⟩
 ·rw[Below.heap_alloc _ _ _ (by omega),Below.heap_alloc _ _ _ (by omega),Below.heap_alloc _ _ _ (by omega)];exact heap_alloc_new w o1
 ·rw[Below.heap_alloc _ _ _ (by omega),Below.heap_alloc _ _ _ (by omega),←z1];exact heap_alloc_new _ o2
 ·rw[Below.heap_alloc _ _ _ (by omega),←z2];exact heap_alloc_new _ o3
 ·rw[←z3];exact heap_alloc_new _ o4
abbrev OT (d:Nat):World→LB d→Prop:=fun _ _=>True
abbrev fT (d:Nat):LB d→List Nat:=fun _=>[]
def PT (d:Nat):World→Addr→BI d→Prop:=fun _ _ _=>True
theorem PT.stays (d:Nat):A5g (PT d):=fun _ _ _ _ _ _=>trivial
theorem OT.fr (d:Nat):∀ (F:List Nat) (w w':World) (b:LB d),OT d w b→FrB F w w'→(∀ k∈fT d b,k∉F)→OT d w' b:=fun _ _ _ _ _ _ _=>trivial
theorem OwnV.shy {d:Nat}{O:World→LB d→Prop}{w:World}{base:Nat}{y:VL (LB d)}(h:OwnV (ekB d) O w base y):OwnV (ekB d) (OT d) w base y:=⟨h.r1,h.r2,h.r2y,h.r3,fun _ _=>trivial⟩
theorem OwnL.shy {d:Nat}{O:World→LB d→Prop}{w:World}{base:Nat}{b:BL (LB d)}(h:OwnL (ekB d) O w base b):OwnL (ekB d) (OT d) w base b:=⟨h.r0,fun v hv=>(h.r0v v hv).shy,h.r1,h.r1y⟩
theorem OwnV.belowT {d:Nat}{w w':World}{base:Nat}{y:VL (LB d)}(h:OwnV (ekB d) (OT d) w base y)(hb:Below w.heap.size w w'):OwnV (ekB d) (OT d) w' base y:=OwnV.fr (F:=[]) (OT.fr d) h (.of_below hb) (fun _ _=>List.not_mem_nil)
theorem OwnL.belowT {d:Nat}{w w':World}{base:Nat}{b:BL (LB d)}(h:OwnL (ekB d) (OT d) w base b)(hb:Below w.heap.size w w'):OwnL (ekB d) (OT d) w' base b:=OwnL.fr (F:=[]) (OT.fr d) h (.of_below hb) (fun _ _=>List.not_mem_nil)
theorem OwnV.rdT {d:Nat}{O:World→LB d→Prop}{w:World}{base:Nat}{y:VL (LB d)}(h:OwnV (ekB d) O w base y):RdL 2 (PT d) w y.p3.v (y.subs.map (LB.pl d)):=
 RdL.mapB (P:=fun _ (_:Addr) (_:LB d)=>True) _ (h.r3.rd _ fun _ _ _ _=>trivial) fun _ _ _ _=>trivial
theorem OwnL.rdT {d:Nat}{O:World→LB d→Prop}{w:World}{base:Nat}{b:BL (LB d)}(h:OwnL (ekB d) O w base b):RdL 4 (VAt (PT d)) w b.q0.v (b.vals.map (VL.pl (LB.pl d))):=by
 refine RdL.mapB _ (h.r0.rd (fun w x (v:VL (LB d))=>w.cell? x=some (.int .i64 v.number)∧w.cell? (x.add 1)=some v.p1.v∧w.cell? (x.add 2)=some v.p2.v∧w.cell? (x.add 3)=some v.p3.v) fun g i a hc=>?_) ?_
 ·refine⟨by simpa using hc 0 _ rfl,?_,?_,?_⟩ <;> rw[A0e]
  ·exact hc 1 _ rfl
  ·exact hc 2 _ rfl
  ·exact hc 3 _ rfl
 ·rintro x v hv ⟨h0,h1,h2,h3⟩
  have ho:=h.r0v v hv
  exact⟨v.p1.v,v.p2.v,v.p3.v,h0,h1,h2,h3,ho.r1.rdU,ho.r2.rdZ ho.r2y,ho.rdT⟩
structure PutIn (d:Nat) (w:World) (base:Nat) (fs:List FI) (vf:Value) (b:BL (LB d)) (y:VL (LB d)):Prop where
 hf:RdL 6 FAt w vf fs
 fok:∀ f∈fs,I64 f.number∧I64 f.choice
 fl:fs.length≤140737488355328
 hb:OwnL (ekB d) (OT d) w base b
 hy:OwnV (ekB d) (OT d) w base y
 apart:∀ k∈own1 b.q0,k∉own1 b.q1∧(∀ a∈b.vals,k∉VL.fp (fT d) a)∧k∉VL.fp (fT d) y
 num:∀ a∈b.vals,I64 a.number
 len:(b.vals.length+1)*80≤140737488355328
 base:base≤w.heap.size
theorem A8q {α:Type}{w:World}{ops:Array Oper}{rest:List Oper}{o:Oper}{a:Act}{Q:Exit→Act→World→Prop}(hgd:o.guard=none)(E:EK α)(s x:Operand)
  (ho:o.op = .call { callee:=.builtin .append,args:=#[s,x],argTypes:=#[E.slice,E.slice] })
  (base:Nat) (p q:PV) (l m:List α) (hY:E.elem≠5) (hs:a.eval s=p.v) (hown:Row E w base p.v l) (hx:a.eval x=q.v) (hq:Row E w base q.v m)
  (hby:1≤E.bytes) (hlen:(l.length+m.length)*E.bytes≤140737488355328) (hb:base≤w.heap.size)
  (h:∀ (a':Option Addr) (n' c':Nat) (w':World),Row E w' base (.slice a' n' c') (l++m)→Row E w' base p.v l→FrB (own1 p) w w'→(∀ k∈own1 (a',n',c'),k∈own1 p∨w.heap.size≤k)→wpList Tryz.prog ops Q rest (a.put o.dst (.slice a' n' c')) w'):wpList Tryz.prog ops Q (o::rest) a w:=
 wpList_plain hgd fun _ hK=>by
  obtain⟨a',n',c',w',hr,h1,h2,h3,h4⟩:=D3n E o.type base p q l m hY hown hq hby hlen hb
  unfold Oper.wp execOp
  simp only[ho,resolve,invoke,builtin,Sem.run_bind,Sem.run_pure,Result.andThen_ok,List.map_toArray,List.map_cons,List.map_nil,hs,hx,hr]
  exact hK _ _ (h a' n' c' w' h1 h2 h3 h4)
theorem A4b {w:World}{g:Nat}{a0 a1 a2 a3:Value}{t:TypeId}(h:w.heap[g]?=some (.cells #[a0,a1,a2,a3] t (0,0))) :
  w.cell? ⟨g,0,none⟩=some a0∧w.cell? ⟨g,1,none⟩=some a1∧w.cell? ⟨g,2,none⟩=some a2∧w.cell? ⟨g,3,none⟩=some a3:=
 ⟨A0a h 0 _ rfl,A0a h 1 _ rfl,A0a h 2 _ rfl,A0a h 3 _ rfl⟩
theorem D4i (w:World)(o1 o2 o3 o4 o5:Obj):(((((w.alloc o1).alloc o2).alloc o3).alloc o4).alloc o5).heap[w.heap.size]?=some o1∧(((((w.alloc o1).alloc o2).alloc o3).alloc o4).alloc o5).heap[w.heap.size+1]?=some o2∧(((((w.alloc o1).alloc o2).alloc o3).alloc o4).alloc o5).heap[w.heap.size+2]?=some o3∧(((((w.alloc o1).alloc o2).alloc o3).alloc o4).alloc o5).heap[w.heap.size+3]?=some o4∧(((((w.alloc o1).alloc o2).alloc o3).alloc o4).alloc o5).heap[w.heap.size+4]?=some o5∧(((((w.alloc o1).alloc o2).alloc o3).alloc o4).alloc o5).heap.size=w.heap.size+5:=by
 obtain⟨h1,h2,h3,h4,hz⟩:=C1r w o1 o2 o3 o4
 refine⟨?_,?_,?_,?_,?_,by simp⟩
 ·rw[Below.heap_alloc _ _ _ (by omega)];exact h1
 ·rw[Below.heap_alloc _ _ _ (by omega)];exact h2
 ·rw[Below.heap_alloc _ _ _ (by omega)];exact h3
 ·rw[Below.heap_alloc _ _ _ (by omega)];exact h4
 ·rw[←hz];exact heap_alloc_new _ o5
theorem A7q {β:Type}{f : β→List Nat}{v:VL β}{k:Nat}(h:(VL.fp f v).count k≤1):(k∈own1 v.p1→k∉own1 v.p2∧k∉own1 v.p3∧k∉v.subs.flatMap f)∧(k∈own1 v.p2→k∉own1 v.p1∧k∉own1 v.p3∧k∉v.subs.flatMap f)∧(k∈own1 v.p3→k∉own1 v.p1∧k∉own1 v.p2∧k∉v.subs.flatMap f):=by
 rw[A7m] at h
 refine⟨fun h1=>?_,fun h1=>?_,fun h1=>?_⟩ <;> refine⟨C6r (by omega) h1,C6r (by omega) h1,C6r (by omega) h1⟩
theorem A1m {A:List Nat}{k:Nat}(h:0<A.count k):k∈A:=List.count_pos_iff.1 h
theorem OwnV.lt {base d:Nat}{w:World}{v:VL (LB d)}(h:OwnV (ekB d) (OwnB base d) w base v):∀ k∈VL.fp (LB.fp d) v,base≤k∧k<w.heap.size:=h.inB fun s _ hs=>OwnB.inB d hs
structure MetIn (d:Nat) (W0 w:World) (y z:VL (LB d)):Prop where
 below:Below W0.heap.size W0 w
 hy:OwnV (ekB d) (OwnB W0.heap.size d) w W0.heap.size y
 hz:OwnV (ekB d) (OwnB W0.heap.size d) w W0.heap.size z
 once:∀ k,(VL.fp (LB.fp d) y).count k+(VL.fp (LB.fp d) z).count k≤1
 len:jW (jWB d) (VL.pl (LB.pl d) y)+jW (jWB d) (VL.pl (LB.pl d) z)≤1000000000
def B9o (ms:List MI)(d:Nat)(W0 w:World)(x:FI)(y z:VL (LB d))(e:Ending)(w':World):Prop:=
 ∃ t:VL (LB d),e = .returned (.tuple #[.agg #[.int .i64 t.number,t.p1.v,t.p2.v,t.p3.v],.int .i64 0])∧VL.pl (LB.pl d) t=A4y (jnB ms d) ms x (VL.pl (LB.pl d) y) (VL.pl (LB.pl d) z)∧OwnV (ekB d) (OwnB W0.heap.size d) w' W0.heap.size t∧OwnV (ekB d) (OT d) w' W0.heap.size y∧
  From w (VL.fp (LB.fp d) y++VL.fp (LB.fp d) z) (VL.fp (LB.fp d) t)∧FrB (VL.fp (LB.fp d) y++VL.fp (LB.fp d) z) w w'
theorem C6z {d:Nat}{W0 w:World}{ms:List MI}{y z:VL (LB d)}(h:MetIn d W0 w y z)(am:Option Addr)(nm cm:Nat)(ae:Option Addr)(ne ce:Nat)(x:FI)(hm:x.many=false)(hk:x.kind≠10) :
  Calls Tryz.prog 106 #[.agg #[.slice am nm cm,.slice ae ne ce],vFI x,.agg #[.int .i64 y.number,y.p1.v,y.p2.v,y.p3.v],.agg #[.int .i64 z.number,z.p1.v,z.p2.v,z.p3.v]] w fun e w'=>B9o ms d W0 w x y z e w':=by
 have HE:Hid (A4y (jnB ms d) ms x (VL.pl (LB.pl d) y) (VL.pl (LB.pl d) z)=VL.pl (LB.pl d) z):=by
  show _=_
  unfold A4y
  rw[hm,if_neg (by simp),if_neg hk]
 unfold vFI
 rw[hm]
 have au:(x.kind==10)=false:=beq_eq_false_iff_ne.2 hk
 obtain⟨nu,bi,ak,su,⟨a1,n1,c1⟩,⟨a2,n2,c2⟩,⟨a3,n3,c3⟩⟩:=y
 obtain⟨mu,bj,aj,sv,⟨b1,m1,d1⟩,⟨b2,m2,d2⟩,⟨b3,m3,d3⟩⟩:=z
 have ag:Below w.heap.size w (((((w.alloc (.cells #[.slice am nm cm,.slice ae ne ce] 25)).alloc (.cells #[.string (S x.name),.int .i64 x.number,.int .i64 x.kind,.string (S x.type),.bool false,.int .i64 x.choice] 40)).alloc (.cells #[.int .i64 nu,.slice a1 n1 c1,.slice a2 n2 c2,.slice a3 n3 c3] 62)).alloc (.cells #[.int .i64 mu,.slice b1 m1 d1,.slice b2 m2 d2,.slice b3 m3 d3] 62)).alloc (.cells #[.int .i64 mu,.slice b1 m1 d1,.slice b2 m2 d2,.slice b3 m3 d3] 62)):=(((((Below.refl _ _).alloc (Nat.le_refl _) _).alloc (by simp) _).alloc (by simp;omega) _).alloc (by simp;omega) _).alloc (by simp;omega) _
 have HZ:Hid _:=h.hz.below ag
 have HY:Hid _:=h.hy.below ag
 have ah:Hid _:=ag
 have ac:=h.once
 clear h hm ag
 unfold PV.v
 go_enter Tryz.func106,Tryz.ntmps106
 go_wp2_with fail
 refine bodyPost_ret (v:=.tuple #[.agg #[.int .i64 mu,.slice b1 m1 d1,.slice b2 m2 d2,.slice b3 m3 d3],.int .i64 0]) (by simp[results,Tryz.results106,go_sem, *]) rfl ?_
 refine⟨⟨mu,bj,aj,sv,(b1,m1,d1),(b2,m2,d2),(b3,m3,d3)⟩,rfl,HE.out.symm,HZ.out,HY.out.shy,fun k=>?_,FrB.of_below ah.out⟩
 have:=ac k
 rw[List.count_append]
 exact⟨by omega,fun _=>by omega⟩
theorem C7a {d:Nat}{W0 w:World}{ms:List MI}{y z:VL (LB d)}(h:MetIn d W0 w y z)(am:Option Addr)(nm cm:Nat)(ae:Option Addr)(ne ce:Nat)(x:FI)(hm:x.many=true)(dr:y.number=z.number) :
  Calls Tryz.prog 106 #[.agg #[.slice am nm cm,.slice ae ne ce],vFI x,.agg #[.int .i64 y.number,y.p1.v,y.p2.v,y.p3.v],.agg #[.int .i64 z.number,z.p1.v,z.p2.v,z.p3.v]] w fun e w'=>B9o ms d W0 w x y z e w':=by
 have HE:Hid (A4y (jnB ms d) ms x (VL.pl (LB.pl d) y) (VL.pl (LB.pl d) z)=⟨y.number,y.bits++z.bits,y.bytes.map Prod.fst++z.bytes.map Prod.fst,y.subs.map (LB.pl d)++z.subs.map (LB.pl d)⟩):=by
  show _=_
  unfold A4y
  rw[hm,if_pos rfl]
  rfl
 unfold vFI
 rw[hm]
 obtain⟨nu,bi,ah,su,⟨a1,n1,c1⟩,⟨a2,n2,c2⟩,⟨a3,n3,c3⟩⟩:=y
 obtain⟨mu,bj,au,sv,⟨b1,m1,d1⟩,⟨b2,m2,d2⟩,⟨b3,m3,d3⟩⟩:=z
 have eo:Hid (nu=mu):=dr
 clear dr
 have ba:(bi.length+bj.length)*8≤140737488355328∧(ah.length+au.length)*24≤140737488355328∧(su.length+sv.length)*48≤140737488355328:=by
  have h0:=h.len
  have h1:=A5n (fun s=>1+jWB d s) (fun _=>by omega) (su.map (LB.pl d))
  have h2:=A5n (fun s=>1+jWB d s) (fun _=>by omega) (sv.map (LB.pl d))
  simp only[jW,VL.pl,List.length_map] at h0 h1 h2
  omega
 obtain⟨fj,hl2,fk⟩:=ba
 obtain⟨W5,br⟩:∃ W5,Hid (W5=((((w.alloc (.cells #[.slice am nm cm,.slice ae ne ce] 25)).alloc (.cells #[.string (S x.name),.int .i64 x.number,.int .i64 x.kind,.string (S x.type),.bool true,.int .i64 x.choice] 40)).alloc (.cells #[.int .i64 nu,.slice a1 n1 c1,.slice a2 n2 c2,.slice a3 n3 c3] 62)).alloc (.cells #[.int .i64 mu,.slice b1 m1 d1,.slice b2 m2 d2,.slice b3 m3 d3] 62)).alloc (.cells #[.int .i64 0,.slice none 0 0,.slice none 0 0,.slice none 0 0] 62)):=⟨_,rfl⟩
 have bw:Below w.heap.size w W5:=by rw[br.out];exact(((((Below.refl _ _).alloc (Nat.le_refl _) _).alloc (by simp) _).alloc (by simp;omega) _).alloc (by simp;omega) _).alloc (by simp;omega) _
 obtain⟨x0,x1,x2,x3,x4,xz⟩:=D4i w (.cells #[.slice am nm cm,.slice ae ne ce] 25) (.cells #[.string (S x.name),.int .i64 x.number,.int .i64 x.kind,.string (S x.type),.bool true,.int .i64 x.choice] 40) (.cells #[.int .i64 nu,.slice a1 n1 c1,.slice a2 n2 c2,.slice a3 n3 c3] 62) (.cells #[.int .i64 mu,.slice b1 m1 d1,.slice b2 m2 d2,.slice b3 m3 d3] 62) (.cells #[.int .i64 0,.slice none 0 0,.slice none 0 0,.slice none 0 0] 62)
 rw[←br.out] at x2 x3 x4 xz
 have z5:=Nat.le_of_eq xz
 have f6:=Nat.le_of_eq xz.symm
 have dn:=h.hy.lt
 have dp:=h.hz.lt
 have ac:=h.once
 have fy:=h.below.size
 have oy:=h.hy.below bw
 have oz:=h.hz.below bw
 have aj:∀ k∈own1 (a1,n1,c1),k∉own1 (a2,n2,c2)∧k∉own1 (a3,n3,c3)∧k<w.heap.size:=fun k hk=>⟨((A7q (show(VL.fp (LB.fp d) ⟨nu,bi,ah,su,(a1,n1,c1),(a2,n2,c2),(a3,n3,c3)⟩).count k≤1 by have:=ac k;omega)).1 hk).1,((A7q (show(VL.fp (LB.fp d) ⟨nu,bi,ah,su,(a1,n1,c1),(a2,n2,c2),(a3,n3,c3)⟩).count k≤1 by have:=ac k;omega)).1 hk).2.1,(h.hy.r1.own1 k hk).2⟩
 have ag:∀ k∈own1 (a2,n2,c2),k∉own1 (a1,n1,c1)∧k∉own1 (a3,n3,c3)∧k<w.heap.size:=fun k hk=>⟨((A7q (show(VL.fp (LB.fp d) ⟨nu,bi,ah,su,(a1,n1,c1),(a2,n2,c2),(a3,n3,c3)⟩).count k≤1 by have:=ac k;omega)).2.1 hk).1,((A7q (show(VL.fp (LB.fp d) ⟨nu,bi,ah,su,(a1,n1,c1),(a2,n2,c2),(a3,n3,c3)⟩).count k≤1 by have:=ac k;omega)).2.1 hk).2.1,(h.hy.r2.own1 k hk).2⟩
 have ak:∀ k∈own1 (a3,n3,c3),k∉own1 (a1,n1,c1)∧k∉own1 (a2,n2,c2)∧k<w.heap.size:=fun k hk=>⟨((A7q (show(VL.fp (LB.fp d) ⟨nu,bi,ah,su,(a1,n1,c1),(a2,n2,c2),(a3,n3,c3)⟩).count k≤1 by have:=ac k;omega)).2.2 hk).1,((A7q (show(VL.fp (LB.fp d) ⟨nu,bi,ah,su,(a1,n1,c1),(a2,n2,c2),(a3,n3,c3)⟩).count k≤1 by have:=ac k;omega)).2.2 hk).2.1,(h.hy.r3.own1 k hk).2⟩
 have nz:∀ k∈VL.fp (LB.fp d) (⟨mu,bj,au,sv,(b1,m1,d1),(b2,m2,d2),(b3,m3,d3)⟩:VL (LB d)),k∉own1 (a1,n1,c1)∧k∉own1 (a2,n2,c2)∧k∉own1 (a3,n3,c3)∧k<w.heap.size:=fun k hk=>by
  have h1:=ac k
  have h2:=List.count_pos_iff.2 hk
  rw[A7m] at h1
  refine⟨fun hm=>?_,fun hm=>?_,fun hm=>?_,(dp k hk).2⟩ <;> (have h3:=List.count_pos_iff.2 hm;dsimp only at h1;omega)
 have ns:∀ k∈su.flatMap (LB.fp d),k∉own1 (a1,n1,c1)∧k∉own1 (a2,n2,c2)∧k∉own1 (a3,n3,c3)∧k<w.heap.size:=fun k hk=>by
  have h1:=ac k
  have h2:=List.count_pos_iff.2 hk
  rw[A7m] at h1
  refine⟨fun hm=>?_,fun hm=>?_,fun hm=>?_,(dn k (by unfold VL.fp;simp[List.mem_append,hk])).2⟩ <;> (have h3:=List.count_pos_iff.2 hm;dsimp only at h1;omega)
 have fd:W0.heap.size≤W5.heap.size:=by omega
 have HN:Hid ((∀ k∈VL.fp (LB.fp d) (⟨mu,bj,au,sv,(b1,m1,d1),(b2,m2,d2),(b3,m3,d3)⟩:VL (LB d)),k∉own1 (a1,n1,c1)∧k∉own1 (a2,n2,c2)∧k∉own1 (a3,n3,c3)∧k<w.heap.size)∧(∀ k∈su.flatMap (LB.fp d),k∉own1 (a1,n1,c1)∧k∉own1 (a2,n2,c2)∧k∉own1 (a3,n3,c3)∧k<w.heap.size)):=⟨nz,ns⟩
 have aw:Hid _:=ac
 have bq:Hid _:=oy
 have cw:Hid _:=oz
 have dv:Row ekU W5 W0.heap.size (PV.v (b1,m1,d1)) bj:=oz.r1
 have dw:Row ekZ W5 W0.heap.size (PV.v (b2,m2,d2)) au:=oz.r2
 have dx:Row (ekB d) W5 W0.heap.size (PV.v (b3,m3,d3)) sv:=oz.r3
 have dy:Row ekU W5 W0.heap.size (PV.v (a1,n1,c1)) bi:=oy.r1
 have hv2:Row ekZ W5 W0.heap.size (PV.v (a2,n2,c2)) ah:=oy.r2
 have hv3:Row (ekB d) W5 W0.heap.size (PV.v (a3,n3,c3)) su:=oy.r3
 have fz:∀ k∈own1 (b1,m1,d1),k∉own1 (a1,n1,c1)∧k∉own1 (a2,n2,c2)∧k∉own1 (a3,n3,c3)∧k<w.heap.size:=fun k hk=>nz k (by unfold VL.fp;simp[hk])
 have d9:∀ k∈own1 (b2,m2,d2),k∉own1 (a1,n1,c1)∧k∉own1 (a2,n2,c2)∧k∉own1 (a3,n3,c3)∧k<w.heap.size:=fun k hk=>nz k (by unfold VL.fp;simp[hk])
 have cg:∀ k∈own1 (b3,m3,d3),k∉own1 (a1,n1,c1)∧k∉own1 (a2,n2,c2)∧k∉own1 (a3,n3,c3)∧k<w.heap.size:=fun k hk=>nz k (by unfold VL.fp;simp[hk])
 clear h x0 x1 dn dp ac oy oz hm xz nz ns
 unfold PV.v
 go_enter Tryz.func106,Tryz.ntmps106
 go_wp2_with (at_builtin;rw[←br.out];refine A8q rfl ekU _ _ rfl W0.heap.size (a1,n1,c1) (b1,m1,d1) bi bj (by decide) rfl dy rfl dv (by decide) fj fd ?_)
 intro e1 f1 g1 w1 R1 O1 F1 M1
 have f9:=F1.size
 have y2:=(F1.blk (by omega) (fun hm=>by have:=(aj _ hm).2.2;omega)).trans x2
 have y3:=(F1.blk (by omega) (fun hm=>by have:=(aj _ hm).2.2;omega)).trans x3
 have y4:=(F1.blk (by omega) (fun hm=>by have:=(aj _ hm).2.2;omega)).trans x4
 obtain⟨s0,s1,s2,s3⟩:=A4b y2
 obtain⟨t0,t1,t2,t3⟩:=A4b y3
 have q1:=A0b y3 1
 obtain⟨W6,bt⟩:∃ W6,Hid (W6=w1.setCell ⟨w.heap.size+3,1,none⟩ (.slice e1 f1 g1)):=⟨_,rfl⟩
 have G1:FrB [w.heap.size+3] w1 W6:=by rw[bt.out];exact A1l y3 (by decide)
 have k3:W6.heap[w.heap.size+3]?=some (.cells #[.int .i64 mu,.slice e1 f1 g1,.slice b2 m2 d2,.slice b3 m3 d3] 62 (0,0)):=by rw[bt.out];exact heap_setCell_same w1 _ 1 _ _ _ y3
 have fo:=G1.size
 have k2:=(G1.blk (show w.heap.size+2<w1.heap.size by omega) (by simp)).trans y2
 have k4:=(G1.blk (show w.heap.size+4<w1.heap.size by omega) (by simp)).trans y4
 have bh:=Row.frB (p:=(a2,n2,c2)) (Row.frB (p:=(a2,n2,c2)) hv2 F1 fun k hk=>(ag k hk).1) G1 fun k hk hm=>by rw[List.mem_singleton] at hm;have:=(ag k hk).2.2;omega
 have bc:=Row.frB (p:=(b2,m2,d2)) (Row.frB (p:=(b2,m2,d2)) dw F1 fun k hk=>(d9 k hk).1) G1 fun k hk hm=>by rw[List.mem_singleton] at hm;have:=(d9 k hk).2.2.2;omega
 have fe:W0.heap.size≤W6.heap.size:=by omega
 have df:Hid _:=R1
 have et:Hid _:=O1
 have cj:Hid _:=F1
 have ei:Hid _:=M1
 have cu:Hid _:=G1
 clear x2 x3 x4 dy dv R1 O1 F1 M1 G1 y2 y3 y4 hv2 dw
 go_wp2_with (at_builtin;rw[←bt.out];refine A8q rfl ekZ _ _ rfl W0.heap.size (a2,n2,c2) (b2,m2,d2) ah au (by decide) rfl bh rfl bc (by decide) hl2 fe ?_)
 intro e2 f2 g2 w2 R2 O2 F2 M2
 clear s0 s1 s2 s3 t0 t1 t2 t3 q1
 have gc:=F2.size
 have y2:=(F2.blk (by omega) (fun hm=>by have:=(ag _ hm).2.2;omega)).trans k2
 have y3:=(F2.blk (by omega) (fun hm=>by have:=(ag _ hm).2.2;omega)).trans k3
 have y4:=(F2.blk (by omega) (fun hm=>by have:=(ag _ hm).2.2;omega)).trans k4
 obtain⟨s0,s1,s2,s3⟩:=A4b y2
 obtain⟨t0,t1,t2,t3⟩:=A4b y3
 have q1:=A0b y3 2
 obtain⟨W7,bu⟩:∃ W7,Hid (W7=w2.setCell ⟨w.heap.size+3,2,none⟩ (.slice e2 f2 g2)):=⟨_,rfl⟩
 have G2:FrB [w.heap.size+3] w2 W7:=by rw[bu.out];exact A1l y3 (by decide)
 have j3:W7.heap[w.heap.size+3]?=some (.cells #[.int .i64 mu,.slice e1 f1 g1,.slice e2 f2 g2,.slice b3 m3 d3] 62 (0,0)):=by rw[bu.out];exact heap_setCell_same w2 _ 2 _ _ _ y3
 have fq:=G2.size
 have j2:=(G2.blk (show w.heap.size+2<w2.heap.size by omega) (by simp)).trans y2
 have j4:=(G2.blk (show w.heap.size+4<w2.heap.size by omega) (by simp)).trans y4
 have bv:∀ {α:Type}{E:EK α}{p:PV}{l:List α},Row E W5 W0.heap.size p.v l→(∀ k∈own1 p,k∉own1 (a1,n1,c1)∧k∉own1 (a2,n2,c2)∧k<w.heap.size)→Row E W7 W0.heap.size p.v l:=fun hr hn=>by
  refine Row.frB (Row.frB (Row.frB (Row.frB hr cj.out fun k hk=>(hn k hk).1) cu.out fun k hk hm=>?_) F2 fun k hk=>(hn k hk).2.1) G2 fun k hk hm=>?_ <;> (rw[List.mem_singleton] at hm;have:=(hn k hk).2.2;omega)
 have bk:=bv (p:=(a3,n3,c3)) hv3 fun k hk=>ak k hk
 have bg:=bv (p:=(b3,m3,d3)) dx fun k hk=>⟨(cg k hk).1,(cg k hk).2.1,(cg k hk).2.2.2⟩
 have fh:W0.heap.size≤W7.heap.size:=by omega
 have dg:Hid _:=R2
 have eu:Hid _:=O2
 have ee:Hid _:=F2
 have ej:Hid _:=M2
 have eh:Hid _:=G2
 clear bv k2 k3 k4 bh bc R2 O2 F2 M2 G2 y2 y3 y4 hv3 dx
 go_wp2_with (at_builtin;rw[←bu.out];refine A8q rfl (ekB d) _ _ rfl W0.heap.size (a3,n3,c3) (b3,m3,d3) su sv (by show(29:TypeId)≠5;decide) rfl bk rfl bg (show 1≤48 by omega) fk fh ?_)
 intro e3 f3 g3 w3 R3 O3 F3 M3
 clear s0 s1 s2 s3 t0 t1 t2 t3 q1
 have gg:=F3.size
 have y3:=(F3.blk (by omega) (fun hm=>by have:=(ak _ hm).2.2;omega)).trans j3
 have y4:=(F3.blk (by omega) (fun hm=>by have:=(ak _ hm).2.2;omega)).trans j4
 obtain⟨t0,t1,t2,t3⟩:=A4b y3
 have q1:=A0b y3 3
 obtain⟨r0,r1,r2,r3⟩:=A4b y4
 have q2:=A0b y4 0
 have q3:=A0b y4 1
 have q4:=A0b y4 2
 have q5:=A0b y4 3
 obtain⟨W8,dm⟩:∃ W8,Hid (W8=w3.setCell ⟨w.heap.size+3,3,none⟩ (.slice e3 f3 g3)):=⟨_,rfl⟩
 have G3:FrB [w.heap.size+3] w3 W8:=by rw[dm.out];exact A1l y3 (by decide)
 have ft:=G3.size
 have i4:=(G3.blk (show w.heap.size+4<w3.heap.size by omega) (by simp)).trans y4
 have G4:=fr4 i4 (x0:=.int .i64 mu) (x1:=.slice e1 f1 g1) (x2:=.slice e2 f2 g2) (x3:=.slice e3 f3 g3)
 have T3:=G3.trans G4 (H:=[w.heap.size+3,w.heap.size+4]) (fun i hi=>by simp at hi;simp[hi]) (fun i hi=>.inl (by simp at hi;simp[hi]))
 have T2:=(eh.out.trans F3 (H:=[w.heap.size+3,w.heap.size+4]++own1 (a3,n3,c3)) (fun i hi=>by simp at hi;simp[hi]) (fun i hi=>.inl (List.mem_append_right _ hi))).trans T3 (H:=[w.heap.size+3,w.heap.size+4]++own1 (a3,n3,c3)) (fun i hi=>hi) (fun i hi=>.inl (List.mem_append_left _ hi))
 have T1:=(cu.out.trans ee.out (H:=[w.heap.size+3,w.heap.size+4]++own1 (a3,n3,c3)++own1 (a2,n2,c2)) (fun i hi=>by simp at hi;simp[hi]) (fun i hi=>.inl (List.mem_append_right _ hi))).trans T2 (H:=[w.heap.size+3,w.heap.size+4]++own1 (a3,n3,c3)++own1 (a2,n2,c2)) (fun i hi=>hi) (fun i hi=>.inl (List.mem_append_left _ hi))
 have T0:=cj.out.trans T1 (H:=[w.heap.size+3,w.heap.size+4]++own1 (a3,n3,c3)++own1 (a2,n2,c2)++own1 (a1,n1,c1)) (fun i hi=>List.mem_append_right _ hi) (fun i hi=>.inl (List.mem_append_left _ hi))
 have nT:∀ k,k<w.heap.size∨W5.heap.size≤k→k∉[w.heap.size+3,w.heap.size+4]:=fun k hk hm=>by
  simp only[List.mem_cons,List.mem_nil_iff,or_false] at hm
  omega
 have bp:∀ k,k<w.heap.size∨W5.heap.size≤k→k∉own1 (a3,n3,c3)→k∉[w.heap.size+3,w.heap.size+4]++own1 (a3,n3,c3):=fun k hk h3 hm=>by
  rcases List.mem_append.1 hm with hm|hm
  ·exact nT k hk hm
  ·exact h3 hm
 have bn:∀ k,k<w.heap.size∨W5.heap.size≤k→k∉own1 (a3,n3,c3)→k∉own1 (a2,n2,c2)→k∉[w.heap.size+3,w.heap.size+4]++own1 (a3,n3,c3)++own1 (a2,n2,c2):=fun k hk h3 h2 hm=>by
  rcases List.mem_append.1 hm with hm|hm
  ·exact bp k hk h3 hm
  ·exact h2 hm
 have dz:∀ k,k<w.heap.size→k∉own1 (a3,n3,c3)→k∉own1 (a2,n2,c2)→k∉own1 (a1,n1,c1)→k∉[w.heap.size+3,w.heap.size+4]++own1 (a3,n3,c3)++own1 (a2,n2,c2)++own1 (a1,n1,c1):=fun k hk h3 h2 h1 hm=>by
  rcases List.mem_append.1 hm with hm|hm
  ·exact bn k (.inl hk) h3 h2 hm
  ·exact h1 hm
 have P1:∀ k∈own1 (e1,f1,g1),k∈own1 (a1,n1,c1)∨W5.heap.size≤k:=fun k hk=>ei.out k hk
 have P2:∀ k∈own1 (e2,f2,g2),k∈own1 (a2,n2,c2)∨w1.heap.size≤k:=fun k hk=>(ej.out k hk).imp id fun h=>by omega
 have P3:∀ k∈own1 (e3,f3,g3),k∈own1 (a3,n3,c3)∨w2.heap.size≤k:=fun k hk=>(M3 k hk).imp id fun h=>by omega
 have L1:∀ k∈own1 (e1,f1,g1),k<w1.heap.size:=fun k hk=>(Row.own1 (p:=(e1,f1,g1)) df.out k hk).2
 have L2:∀ k∈own1 (e2,f2,g2),k<w2.heap.size:=fun k hk=>(Row.own1 (p:=(e2,f2,g2)) dg.out k hk).2
 have HT:Hid _:=T0
 have dh:Hid _:=T1
 have di:Hid _:=T2
 have dl:Hid _:=T3
 have fu:Hid _:=G4
 have fc:Hid _:=R3
 have ew:Hid _:=O3
 have HP:Hid ((∀ k∈own1 (e1,f1,g1),k∈own1 (a1,n1,c1)∨W5.heap.size≤k)∧(∀ k∈own1 (e2,f2,g2),k∈own1 (a2,n2,c2)∨w1.heap.size≤k)∧(∀ k∈own1 (e3,f3,g3),k∈own1 (a3,n3,c3)∨w2.heap.size≤k)∧(∀ k∈own1 (e1,f1,g1),k<w1.heap.size)∧(∀ k∈own1 (e2,f2,g2),k<w2.heap.size)):=⟨P1,P2,P3,L1,L2⟩
 clear j2 j3 j4 bk bg R3 O3 F3 M3 G3 G4 y3 y4 i4 T0 T1 T2 T3 P1 P2 P3 L1 L2
 go_wp2_with fail
 refine bodyPost_ret (v:=.tuple #[.agg #[.int .i64 mu,.slice e1 f1 g1,.slice e2 f2 g2,.slice e3 f3 g3],.int .i64 0]) (by simp[results,Tryz.results106,go_sem, *]) rfl ?_
 rw[←dm.out]
 obtain⟨P1,P2,P3,L1,L2⟩:=HP.out
 refine⟨⟨mu,bi++bj,ah++au,su++sv,(e1,f1,g1),(e2,f2,g2),(e3,f3,g3)⟩,rfl,?_,?_,?_,?_,?_⟩
 ·rw[HE.out]
  simp[VL.pl,eo.out]
 ·refine⟨?_,?_,fun zz hz=>?_,?_,fun s hs=>?_⟩
  ·refine Row.frB (p:=(e1,f1,g1)) df.out dh.out fun k hk=>?_
   rcases P1 k hk with h1|h1
   ·exact bn k (.inl (aj k h1).2.2) (aj k h1).2.1 (aj k h1).1
   ·exact bn k (.inr h1) (fun hm=>by have:=(ak k hm).2.2;omega) (fun hm=>by have:=(ag k hm).2.2;omega)
  ·refine Row.frB (p:=(e2,f2,g2)) dg.out di.out fun k hk=>?_
   rcases P2 k hk with h1|h1
   ·exact bp k (.inl (ag k h1).2.2) (ag k h1).2.1
   ·exact bp k (.inr (by omega)) (fun hm=>by have:=(ak k hm).2.2;omega)
  ·rcases List.mem_append.1 hz with hz|hz
   ·exact(bq.out.r2y zz hz).frY HT.out
   ·exact(cw.out.r2y zz hz).frY HT.out
  ·refine Row.frB (p:=(e3,f3,g3)) fc.out dl.out fun k hk=>?_
   rcases P3 k hk with h1|h1
   ·exact nT k (.inl (ak k h1).2.2)
   ·exact nT k (.inr (by omega))
  ·rcases List.mem_append.1 hs with hs|hs
   ·refine OwnB.fr d _ _ _ s (bq.out.r3s s hs) HT.out fun k hk=>?_
    obtain⟨h1,h2,h3,h4⟩:=HN.out.2 k (List.mem_flatMap.2 ⟨s,hs,hk⟩)
    exact dz k h4 h3 h2 h1
   ·refine OwnB.fr d _ _ _ s (cw.out.r3s s hs) HT.out fun k hk=>?_
    obtain⟨h1,h2,h3,h4⟩:=HN.out.1 k (by unfold VL.fp;simp only[List.mem_append,List.mem_flatMap];exact .inr ⟨s,hs,hk⟩)
    exact dz k h4 h3 h2 h1
 ·refine⟨?_,?_,fun zz hz=>(bq.out.r2y zz hz).frY HT.out,?_,fun _ _=>trivial⟩
  ·exact Row.frB (p:=(a1,n1,c1)) et.out dh.out fun k hk=>bn k (.inl (aj k hk).2.2) (aj k hk).2.1 (aj k hk).1
  ·exact Row.frB (p:=(a2,n2,c2)) eu.out di.out fun k hk=>bp k (.inl (ag k hk).2.2) (ag k hk).2.1
  ·exact Row.frB (p:=(a3,n3,c3)) ew.out dl.out fun k hk=>nT k (.inl (ak k hk).2.2)
 ·intro k
  have dt:=aw.out k
  rw[List.count_append]
  rw[A7m,A7m] at dt ⊢
  rw[A7m]
  dsimp only at dt ⊢
  rw[A3a]
  have o1:=A9s (e1,f1,g1) k
  have o2:=A9s (e2,f2,g2) k
  have o3:=A9s (e3,f3,g3) k
  have c1':0<(own1 (e1,f1,g1)).count k→(0<(own1 (a1,n1,c1)).count k∨W5.heap.size≤k)∧k<w1.heap.size:=fun h=>⟨(P1 k (A1m h)).imp List.count_pos_iff.2 id,L1 k (A1m h)⟩
  have fw:0<(own1 (e2,f2,g2)).count k→(0<(own1 (a2,n2,c2)).count k∨w1.heap.size≤k)∧k<w2.heap.size:=fun h=>⟨(P2 k (A1m h)).imp List.count_pos_iff.2 id,L2 k (A1m h)⟩
  have fx:0<(own1 (e3,f3,g3)).count k→(0<(own1 (a3,n3,c3)).count k∨w2.heap.size≤k):=fun h=>(P3 k (A1m h)).imp List.count_pos_iff.2 id
  have u1:0<(own1 (a1,n1,c1)).count k→k<w.heap.size:=fun h=>(aj k (A1m h)).2.2
  have u2:0<(own1 (a2,n2,c2)).count k→k<w.heap.size:=fun h=>(ag k (A1m h)).2.2
  have u3:0<(own1 (a3,n3,c3)).count k→k<w.heap.size:=fun h=>(ak k (A1m h)).2.2
  have u4:0<(su.flatMap (LB.fp d)).count k→k<w.heap.size:=fun h=>(HN.out.2 k (A1m h)).2.2.2
  have u5:0<(sv.flatMap (LB.fp d)).count k→k<w.heap.size:=fun h=>(HN.out.1 k (by unfold VL.fp;exact List.mem_append_right _ (A1m h))).2.2.2
  refine⟨?_,fun _=>?_⟩ <;> omega
 ·refine FrB.trans (FrB.of_below bw:FrB [] w W5) HT.out (fun _ hi=>by simp at hi) (fun i hi=>?_)
  rcases List.mem_append.1 hi with hi|hi
  ·rcases List.mem_append.1 hi with hi|hi
   ·rcases List.mem_append.1 hi with hi|hi
    ·right
     simp only[List.mem_cons,List.mem_nil_iff,or_false] at hi
     omega
    ·exact .inl (List.mem_append_left _ (by unfold VL.fp;simp[hi]))
   ·exact .inl (List.mem_append_left _ (by unfold VL.fp;simp[hi]))
  ·exact .inl (List.mem_append_left _ (by unfold VL.fp;simp[hi]))
def Apt (F:List Nat)(w w' w'':World):Prop:=∃ G,FrB G w' w''∧∀ k∈G,k<w.heap.size∧k∉F
theorem Apt.refl (F:List Nat)(w w':World):Apt F w w' w':=⟨[],FrB.refl _ _,fun k h=>by simp at h⟩
def A2k (kind:Int)(l:List UInt8):Int:=if 4000<l.length then 4 else if kind=8∧Lib.validD l=false then 9 else 0
theorem B9f {w:World}{ao:Option Addr}{cap:Nat}(hao:ao=none→cap=0)(ac:cap≤9223372036854775807) :
  Calls Tryz.prog 104 #[.slice ao 0 cap] w fun e w'=>e = .returned (.bool true)∧Below w.heap.size w w':=by
 have ag:(0:Int)≤(cap:Int):=by omega
 cases ao with
 | none=>
  obtain rfl:=hao rfl
  go_enter Tryz.func104,Tryz.ntmps104
  go_wp2
  go_loopg [0] 1 (fun _ s0 wx=>s0 = .slice none 0 0∧w=wx)
  case atStart=>exact⟨rfl,rfl⟩
  case round=>
   obtain⟨rfl,rfl⟩:=hrel
   go_wp2
   go_ret
   exact⟨rfl,Below.refl _ _⟩
 | some x=>
  go_enter Tryz.func104,Tryz.ntmps104
  go_wp2
  go_loopg [0] 1 (fun _ s0 wx=>s0 = .slice (some x) 0 0∧w=wx)
  case atStart=>exact⟨rfl,rfl⟩
  case round=>
   obtain⟨rfl,rfl⟩:=hrel
   go_wp2
   go_ret
   exact⟨rfl,Below.refl _ _⟩
theorem B9g {w:World}{ao:Option Addr}{n cap:Nat}{l:List UInt8}(h:RdL 1 YAt w (.slice ao n cap) l)(hT:Tabs w) :
  Calls Tryz.prog 104 #[.slice ao n cap] w fun e w'=>e = .returned (.bool (Lib.validD l))∧Below w.heap.size w w':=by
 obtain⟨ac,n',cap',e,h1,h2,h3,h4,h5⟩:=h
 cases e
 unfold maxLen at h3
 by_cases hn:n=0
 ·subst hn
  have hl:l = []:=List.eq_nil_of_length_eq_zero h1
  subst hl
  exact B9f (fun e=>(h4 e).2) h3
 ·obtain⟨y,hy⟩:∃ y,l[0]?=some y:=⟨l[0]'(by omega),List.getElem?_eq_getElem (by omega)⟩
  obtain⟨b,o,rfl,_⟩:=RdL.get (n:=n) (cap:=cap) YAt.plain ⟨ao,n,cap,rfl,h1,h2,by unfold maxLen;exact h3,h4,h5⟩ hy
  exact C5z (fun i x hx=>by have:=h5 _ rfl i x hx;rw[Nat.mul_one,A0e] at this;exact this) h1.symm h2 h3 hT
theorem B4e {w:World}(kind:Int){ao:Option Addr}{n cap:Nat}{l:List UInt8}(h:RdL 1 YAt w (.slice ao n cap) l)(hT:Tabs w) :
  Calls Tryz.prog 133 #[.int .i64 kind,.slice ao n cap] w fun e w'=>e = .returned (.int .i64 (A2k kind l))∧Below w.heap.size w w':=by
 have hv:=B9g h hT
 obtain⟨ag,n',cap',e,h1,h2,h3,h4,h5⟩:=h
 cases e
 have HL:Hid (l.length=n):=h1
 clear h1 h5
 obtain⟨q,Hq⟩:∃ q,Hid (q=Lib.validD l):=⟨_,rfl⟩
 rw[←Hq.out] at hv
 by_cases hm:4000<n
 ·have HR:Hid (A2k kind l=4):=by show _=_;unfold A2k;rw[HL.out,if_pos hm]
  have ac:(4000:Int)<(n:Int):=by omega
  go_enter Tryz.func133,Tryz.ntmps133
  go_wp2
  go_ret
  exact⟨by rw[HR.out];rfl,Below.refl _ _⟩
 ·have ac:¬ ((4000:Int)<(n:Int)):=by omega
  by_cases hk:kind=8
  ·subst hk
   cases q with
   | true=>
    have HR:Hid (A2k 8 l=0):=by show _=_;unfold A2k;rw[HL.out,if_neg hm,←Hq.out,if_neg (by simp)]
    go_enter Tryz.func133,Tryz.ntmps133
    go_wp2_with (go_at_call 104;refine hv.mono ?_;rintro e w1 ⟨rfl,hb1⟩)
    go_ret
    exact⟨by rw[HR.out];rfl,hb1⟩
   | false=>
    have HR:Hid (A2k 8 l=9):=by show _=_;unfold A2k;rw[HL.out,if_neg hm,←Hq.out,if_pos ⟨rfl,rfl⟩]
    go_enter Tryz.func133,Tryz.ntmps133
    go_wp2_with (go_at_call 104;refine hv.mono ?_;rintro e w1 ⟨rfl,hb1⟩)
    go_ret
    exact⟨by rw[HR.out];rfl,hb1⟩
  ·have HR:Hid (A2k kind l=0):=by show _=_;unfold A2k;rw[HL.out,if_neg hm,if_neg (by intro h;exact hk h.1)]
   have hkb:(kind==8)=false:=beq_eq_false_iff_ne.2 hk
   clear hk hv
   go_enter Tryz.func133,Tryz.ntmps133
   go_wp2
   go_ret
   exact⟨by rw[HR.out];rfl,Below.refl _ _⟩
theorem B9z {w:World}{c:Nat}{x:FI}(hc:w.heap[c]?=some (.cells (cFI x) 40 (0,0))){ao:Option Addr}{n cap:Nat}{l:List UInt8}(h:RdL 1 YAt w (.slice ao n cap) l)(hT:Tabs w) :
  Calls Tryz.prog 132 #[.slice ao n cap,.pointer (some ⟨c,0,none⟩)] w fun e w'=>e = .returned (.int .i64 (A2k x.kind l))∧Below w.heap.size w w':=by
 have c2:w.cell? ⟨c,2,none⟩=some (.int .i64 x.kind):=A0a hc 2 _ rfl
 have ac:c<w.heap.size:=(Array.getElem?_eq_some_iff.1 hc).1
 have hf:=B4e x.kind h hT
 go_enter Tryz.func132,Tryz.ntmps132
 go_wp2_with fail
 refine hf.mono ?_
 rintro e w1 ⟨rfl,hb⟩
 go_wp2
 go_ret
 exact⟨rfl,hb⟩
theorem C3q {v:Value}{l:List (List UInt8)}{w:World}{c:Nat}{x:FI}(h:RdL 1 ZAt w v l)(hT:Tabs w)(hc:w.heap[c]?=some (.cells (cFI x) 40 (0,0))) :
  Calls Tryz.prog 131 #[v,.func (.func 132) #[] #[.pointer (some ⟨c,0,none⟩)]] w fun e w'=>e = .returned (.int .i64 (A1g (A2k x.kind) l))∧Below w.heap.size w w':=by
 obtain⟨ao,n,cap,rfl,Hn,ag⟩:=h.shape
 obtain⟨R,HR⟩:∃ R,Hid (R=A1g (A2k x.kind) l):=⟨_,rfl⟩
 rw[←HR.out]
 go_enter Tryz.func131,Tryz.ntmps131
 go_wp2_with fail
 go_loopg [10] n (fun m i wr=>∃ k:Nat,k+m=n∧i = .int .i64 k∧Hid (R=A1g (A2k x.kind) (l.drop k))∧Below w.heap.size w wr)
 case atStart=>exact⟨0,by omega,rfl,HR,Below.refl _ _⟩
 case round=>
  obtain⟨k,hk,rfl,HK,hb⟩:=hrel
  have ah:=(hb.block c (Array.getElem?_eq_some_iff.1 hc).1).trans hc
  by_cases hlt:k<n
  ·obtain⟨a,Ha⟩:∃ a,Hid (l[k]?=some a):=⟨l[k]'(by rw[←Hn.out];exact hlt),List.getElem?_eq_getElem (by rw[←Hn.out];exact hlt)⟩
   obtain⟨b,off,rfl,hat⟩:=(h.below ZAt.stays hb).get ZAt.plain Ha.out
   obtain⟨vz,hz0,hz1⟩:=hat
   rw[Nat.mul_one] at hz0
   have ak:(k:Int)<(n:Int):=by omega
   obtain⟨az,nz,cz,rfl,aj,hnz⟩:=hz1.shape
   have ac:=B9z ah hz1 (hT.below hb)
   have hst:=A9c (f:=A2k x.kind) Ha.out
   generalize hF:A2k x.kind a=F at ac hst
   by_cases hz:F=0
   ·have HX:Hid (R=A1g (A2k x.kind) (l.drop (k+1))):=by
     show _=_
     rw[HK.out,hst,if_pos hz]
    have ez:(F != 0)=false:=by simp[hz]
    clear hst hF hz
    go_wp2_with fail
    refine ac.mono ?_
    rintro e w1 ⟨rfl,hb1⟩
    go_wp2_with fail
    go_roundg (n-(k+1))
    case measure=>omega
    case rel=>exact⟨k+1,by omega,by go_num,HX,hb.trans (hb1.mono hb.size)⟩
   ·have HX:Hid (R=F):=by
     show _=_
     rw[HK.out,hst,if_neg hz]
    have ez:(F != 0)=true:=by simpa using hz
    clear hst hF hz
    go_wp2_with fail
    refine ac.mono ?_
    rintro e w1 ⟨rfl,hb1⟩
    go_wp2
    go_ret
    exact⟨by rw[HX.out];rfl,hb.trans (hb1.mono hb.size)⟩
  ·have HX:Hid (R=0):=by
    show _=_
    rw[HK.out]
    exact A7n (by rw[←Hn.out];omega)
   go_wp2
   go_ret
   exact⟨by rw[HX.out];rfl,hb⟩
theorem C3u {β:Type}{w:World}(x:FI)(v:VI β){a1 a2 a3:Option Addr}{n1 n2 n3 c1 c2 c3:Nat}(h2:RdL 1 ZAt w (.slice a2 n2 c2) v.bytes)(hT:Tabs w) :
  Calls Tryz.prog 130 #[vFI x,.agg #[.int .i64 v.number,.slice a1 n1 c1,.slice a2 n2 c2,.slice a3 n3 c3]] w fun e w'=>e = .returned (.int .i64 (A1g (A2k x.kind) v.bytes))∧Below w.heap.size w w':=by
 have hb2:Below w.heap.size w ((w.alloc (.cells (cFI x) 40)).alloc (.cells #[.int .i64 v.number,.slice a1 n1 c1,.slice a2 n2 c2,.slice a3 n3 c3] 62)):=((Below.refl _ _).alloc (Nat.le_refl _) _).alloc (by simp) _
 have hi:=C3q (x:=x) (h2.below ZAt.stays hb2) (hT.below hb2) (A0o w _ _)
 have ac:=A4j
 unfold cFI at hb2 hi
 unfold vFI
 go_enter Tryz.func130,Tryz.ntmps130
 go_wp2_with fail
 refine hi.mono ?_
 rintro e w1 ⟨rfl,hb1⟩
 go_wp2
 go_ret
 exact⟨rfl,hb2.trans (hb1.mono hb2.size)⟩
end L
end Go.Proofs.YtgaoojpakjjdnaaGreatDoor
