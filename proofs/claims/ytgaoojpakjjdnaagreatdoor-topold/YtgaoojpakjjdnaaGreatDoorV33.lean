import Derived.Test.YtgaoojpakjjdnaaGreatDoorV32
set_option maxHeartbeats 32000000
set_option maxRecDepth 100000
namespace Go.Proofs.YtgaoojpakjjdnaaGreatDoor
namespace L
open Go.RowKit
theorem D0r {g:GI}{d:Nat}(ih:B1n g d){W:World}{vm ve:Value}{cf:Nat}(hg:GRd W vm ve g)(xf:W.heap[cf]?=some (.cells #[vm,ve] 25 (0,0))){t:List UInt8}(ht:∃ m∈g.msgs,m.name=t){x:BI d}(hx:BSw d x)(hf:D6x g d (A2j g t) x) :
  CDeep d W 34 #[.pointer (some ⟨cf,0,none⟩)] t (fun y=>A0x g d (A2j g t) y) x:=by
 intro V v0 v1 hV hq
 show Calls Tryz.prog 34 #[.string (S t),.agg #[v0,v1],.pointer (some ⟨cf,0,none⟩)] V _
 obtain⟨e0,m0,p0,e1,m1,p1,rfl,rfl⟩:=hq.shape
 obtain⟨am,nm,cm,rfl,bh,_⟩:=hg.1.shape
 obtain⟨ae,ne,ce,rfl,_,_⟩:=hg.2.shape
 have bk:=(Array.getElem?_eq_some_iff.1 xf).1
 obtain⟨j,hj,ak,bg,ac⟩:=D7q ht
 have br:j<nm:=by rw[bh.out];exact(List.getElem?_eq_some_iff.1 ak).1
 have bq:(j:Int)<(nm:Int):=by omega
 obtain⟨M,HM⟩:∃ M,Hid (M=A2j g t):=⟨_,rfl⟩
 rw[←HM.out] at ak bg hf ⊢
 obtain⟨bm,om,rfl,hat⟩:=(hg.below hV).1.get MAt.plain ak
 obtain⟨vf,vb,s0,s1,s2,ba,aw⟩:=hat.at
 obtain⟨af,nf,kf,rfl,_,_⟩:=ba.shape
 obtain⟨ab,nb,kb,rfl,_,_⟩:=aw.shape
 obtain⟨W1,ag⟩:∃ W1,Hid (W1=V.alloc (.cells #[.slice e0 m0 p0,.slice e1 m1 p1] 29)):=⟨_,rfl⟩
 have hb1:Below V.heap.size V W1:=by rw[ag.out];exact(Below.refl _ _).alloc (Nat.le_refl _) _
 have hz1:V.heap.size+1≤W1.heap.size:=by rw[ag.out];simp
 have x1:W1.heap[V.heap.size]?=some (.cells #[.slice e0 m0 p0,.slice e1 m1 p1] 29 (0,0)):=by rw[ag.out];exact heap_alloc_new _ _
 have y1:=(hV.block _ bk).trans xf
 have bn:∀ U,Below W1.heap.size W1 U→Below W1.heap.size W1 U∧(U.cell? ⟨cf,0,none⟩=some (.slice (some ⟨bm,om,none⟩) nm cm)∧U.cell? ⟨cf,1,none⟩=some (.slice ae ne ce))∧(U.cell? ⟨V.heap.size,0,none⟩=some (.slice e0 m0 p0)∧U.cell? ⟨V.heap.size,1,none⟩=some (.slice e1 m1 p1))∧U.cell? ⟨bm,om+j*3,none⟩=some (.string (S M.name))∧U.cell? ⟨bm,om+j*3+1,none⟩=some (.slice af nf kf)∧U.cell? ⟨bm,om+j*3+2,none⟩=some (.slice ab nb kb):=fun U hU=>by
  have aj:=KBT hb1 hU
  have hcv:=(Array.getElem?_eq_some_iff.1 y1).1
  exact⟨hU,A0y ((aj.block _ hcv).trans y1),A0y ((hU.block _ (by omega)).trans x1),A0c aj s0,A0c aj s1,A0c aj s2⟩
 have bp:∀ U,Below W1.heap.size W1 U→Calls Tryz.prog 35 #[.agg #[.slice (some ⟨bm,om,none⟩) nm cm,.slice ae ne ce],.string (S t)] U fun e w'=>e = .returned (.int .i64 (j:Int))∧Below U.heap.size U w':=fun U hU=>by
  have:=A2y ((hg.below hV).below (KBT hb1 hU)).1 ⟨ae,ne,ce,rfl⟩ t
  rw[hj] at this
  exact this
 have hwt:∀ U,Below W1.heap.size W1 U→Calls Tryz.prog 19 #[.agg #[.slice (some ⟨bm,om,none⟩) nm cm,.slice ae ne ce],.agg #[.string (S M.name),.slice af nf kf,.slice ab nb kb],.agg #[.slice e0 m0 p0,.slice e1 m1 p1]] U fun e w'=>∃ ao n c,e = .returned (.tuple #[.slice ao n c,.int .i64 (A0x g d M x).2])∧Row ekY w' U.heap.size (.slice ao n c) (A0x g d M x).1∧Below U.heap.size U w':=fun U hU=>ih U _ _ _ _ _ _ M x ((hg.below hV).below (KBT hb1 hU)) (ba.below FAt.stays (KBT hb1 hU)) (aw.below NAt.stays (KBT hb1 hU)) (hq.below (KBT hb1 hU)) hx hf
 obtain⟨R,HR⟩:∃ R,Hid (A0x g d M x=R):=⟨_,rfl⟩
 show Calls Tryz.prog 34 #[.string (S t),.agg #[.slice e0 m0 p0,.slice e1 m1 p1],.pointer (some ⟨cf,0,none⟩)] V fun e w'=>∃ ao n c,e = .returned (.tuple #[.slice ao n c,.int .i64 (A0x g d M x).2])∧Row ekY w' V.heap.size (.slice ao n c) (A0x g d M x).1∧Below V.heap.size V w'
 rw[HR.out] at hwt ⊢
 have hd:Below W1.heap.size W1 W1.drew:=(Below.refl _ _).drew
 clear hat s0 s1 s2 ak bg hj ac ht ih hx hf hq ba aw hg
 go_enter Tryz.func34,Tryz.ntmps34
 go_wp2_with fail
 rw[←ag.out]
 go_region_held3 (fun U=>Below W1.heap.size W1 U∧(U.cell? ⟨cf,0,none⟩=some (.slice (some ⟨bm,om,none⟩) nm cm)∧U.cell? ⟨cf,1,none⟩=some (.slice ae ne ce))∧(U.cell? ⟨V.heap.size,0,none⟩=some (.slice e0 m0 p0)∧U.cell? ⟨V.heap.size,1,none⟩=some (.slice e1 m1 p1))∧U.cell? ⟨bm,om+j*3,none⟩=some (.string (S M.name))∧U.cell? ⟨bm,om+j*3+1,none⟩=some (.slice af nf kf)∧U.cell? ⟨bm,om+j*3+2,none⟩=some (.slice ab nb kb)) ((with_reducible refine bn _ ?_;with_reducible (first|exact hd|exact ah|exact bc))) ((first|(go_at_call 35;refine(bp _ (by with_reducible exact hd)).mono ?_;rintro e w2 ⟨rfl,hb2⟩;have ah:=KBT hd hb2)|(go_at_call 19;refine(hwt _ (by with_reducible exact ah)).mono ?_;rintro e w3 ⟨az,nz,cz,rfl,hr3,hb3⟩;have bc:=KBT ah hb3)))
 all_goals
  have au:Row ekY w3 V.heap.size (.slice az nz cz) R.1:=hr3.mono (Nat.le_trans hb1.size ah.size)
  clear hr3
  go_wp2
  go_ret2
  exact⟨az,nz,cz,rfl,au,KBT hb1 bc⟩
theorem B4q (need:Nat):∀ r c,c≤need+(need+768) / 4→Builtin.growBy need r c≤need+(need+768) / 4
 | 0,c,h=>h
 | r+1,c,h=>by
  unfold Builtin.growBy
  split
  ·exact h
  ·exact B4q need r _ (by omega)
theorem D8r {need old:Nat}(h:old<need)(hb:need*48≤200000000000000):Builtin.nextslicecap need old*48≤281474976710656:=by
 have h1:Builtin.nextslicecap need old≤need+(need+768) / 4+512:=by
  unfold Builtin.nextslicecap
  split
  ·omega
  ·split
   ·omega
   ·have:=B4q need 4 old (by omega)
    omega
 omega
section
variable {α:Type}{w:World}
theorem D3o (E:EK α)(hB:E.bytes=48)(ty:TypeId)(base:Nat)(v:Value)(l m:List α)(hown:Row E w base v l)(ad:Addr)(n cap:Nat)(hm:m.length=n)(h0:0<n)
  (hcell:∀ k y,m[k]?=some y→∀ j u,(E.enc y)[j]?=some u→w.cell? (ad.add (k*E.size+j))=some u)
  (hlen:(l.length+n)*48≤200000000000000) (hb:base≤w.heap.size) :
  ∃ v' w',(Builtin.append_ #[E.slice,E.slice] ty #[v,.slice (some ad) n cap]).run Tryz.prog w = .ok v' w'∧Row E w' base v' (l++m)∧w.grownBy w' v.ownBlock:=by
 obtain⟨i0,hi,hz0,hz1,hz2⟩:=info_parts E.info
 have h63:l.length+n≤maxLen:=by unfold maxLen;omega
 have hl:(E.flat m).length=n*i0.size:=by rw[E.flat_len,hm,hz1]
 have hnews:∀ j u,(E.flat m)[j]?=some u→w.cell? (ad.add j)=some u:=by
  intro j u hu
  obtain⟨y,h1,h2⟩:=E.flat_get hu
  have:=hcell _ y h1 _ u h2
  rwa [Nat.mul_comm,Nat.div_add_mod] at this
 have h1c:∀ u∈E.flat m,u.oneCell'=true:=by
  intro y hy
  simp only[EK.flat,List.mem_flatMap] at hy
  obtain⟨p,hp,hy⟩:=hy
  exact E.one p y hy
 have ag:(E.flat l).length=l.length*i0.size:=by rw[E.flat_len,hz1]
 have hall:(E.flat (l++m)).length=(l++m).length*E.size:=E.flat_len _
 have hsz:(l++m).length=l.length+n:=by rw[List.length_append,hm]
 have new:∀ (old:Nat),(w.drew.alloc (.cells ((E.flat l).toArray++(E.flat m).toArray++Builtin.zeroCells (Value.cells (E.zero)) (grownCap w (l.length+n) old E.elem-(l.length+n))) E.elem)).ownsRow base E.elem E.size (.slice (some ⟨w.heap.size,0,none⟩) (l.length+n) (grownCap w (l.length+n) old E.elem)) (l++m).length (E.flat (l++m)):=by
  intro old
  obtain⟨C,hC⟩:∃ C,C=grownCap w (l.length+n) old E.elem:=⟨_,rfl⟩
  have aj:=grownCap_ge w (l.length+n) old E.elem
  have hle:=grownCap_le_maxLen w _ old E.elem h63
  rw[←hC] at aj hle ⊢
  refine⟨hall,.inr ⟨w.heap.size,_,_,by rw[hsz],hb,heap_alloc_new w.drew _,by rw[hsz];exact aj,hle,?_,?_⟩⟩
  ·rw[Array.size_append,Array.size_append,List.size_toArray,List.size_toArray,size_zeroCells,E.zs,ag,hl,hz1,←Nat.add_mul,←Nat.add_mul]
   rw[show l.length+n+(C-(l.length+n))=C by omega]
  ·have e:(E.flat (l++m))=E.flat l++E.flat m:=E.flat_append _ _
   rw[e]
   simp only[Array.toList_append]
   rw[hsz]
   have:(l.length+n)*E.size=(E.flat l++E.flat m).length:=by rw[List.length_append,ag,hl,hz1,Nat.add_mul]
   rw[this]
   exact List.take_left
 have ah:∀ (o:Obj) (row:Option Nat),w.grownBy (w.drew.alloc o) row:=fun o row=>⟨rfl,rfl,rfl,by simp,fun k hk _=>heap_alloc_old w.drew _ hk⟩
 rcases hown.2 with⟨hv,hn⟩|⟨g,cap',cur,hv,hbg,hg,hnc,hcm,hcs,htake⟩
 ·subst hv
  have hl0:l = []:=List.eq_nil_of_length_eq_zero hn
  subst hl0
  have hr:=run_append_nil (P:=Tryz.prog) w E.slice ty E.elem i0 _ E.under hi hz0 ad n cap (E.flat m) hl hnews h0 (by unfold maxLen at h63;simp at h63;omega) (by rw[hz2,hB];simp at hlen;omega)
  have h2:=new 0
  simp only[List.length_nil,Nat.zero_add,List.nil_append,EK.flat,List.flatMap_nil,Array.empty_append] at h2 hr ⊢
  exact⟨_,_,hr,h2,ah _ _⟩
 ·subst hv
  by_cases hroom:l.length+n≤cap'
  ·have ac:l.length*i0.size+(E.flat m).length≤cur.size:=by rw[hl,hcs,hz1,←Nat.add_mul];exact Nat.mul_le_mul_right _ hroom
   have hr:=run_append_room (P:=Tryz.prog) w E.slice ty E.elem i0 E.under hi g l.length cap' cur hg ad n cap (E.flat m) hl hnews h1c hroom ac
   refine⟨_,_,hr,⟨hall,.inr ⟨g,cap',_,by rw[hsz],hbg,setRow_heap w g cur _ _ _ hg,by rw[hsz];exact hroom,hcm,?_,?_⟩⟩,⟨rfl,rfl,rfl,by simp,fun k _ hk=>setRow_other w g k _ (fun e=>hk (by simp[Value.ownBlock,e]))⟩⟩
   ·simp only[List.size_toArray,List.length_append,List.length_take,List.length_drop,Array.length_toList]
    rw[hz1] at ac ⊢
    omega
   ·have e:(E.flat (l++m))=E.flat l++E.flat m:=E.flat_append _ _
    rw[e,hz1,htake,hsz]
    have:(l.length+n)*E.size=(E.flat l++E.flat m).length:=by rw[List.length_append,ag,hl,hz1,Nat.add_mul]
    rw[this]
    exact List.take_left
  ·have holds:=World.ownsRow.cells hown (g:=g) rfl
   have hr:=run_append_grow (P:=Tryz.prog) w E.slice ty E.elem i0 _ E.under hi hz0 ⟨g,0,none⟩ l.length cap' (E.flat l) ag holds ad n cap (E.flat m) hl hnews (by omega) (by unfold maxLen at h63;omega) (by rw[hz2,hB];exact D8r (by omega) hlen)
   exact⟨_,_,hr,new cap',ah _ _⟩
theorem C1o {ops:Array Oper}{rest:List Oper}{o:Oper}{a:Act}{Q:Exit→Act→World→Prop}(hgd:o.guard=none)(E:EK α)(hB:E.bytes=48)(s x:Operand)
  (ho:o.op = .call { callee:=.builtin .append,args:=#[s,x],argTypes:=#[E.slice,E.slice] })
  (base:Nat) (v:Value) (l m:List α) (hs:a.eval s=v) (hown:Row E w base v l) (ao:Option Addr) (n cap:Nat) (hx:a.eval x = .slice ao n cap) (hm:m.length=n) (hnil:ao=none→n=0∧cap=0)
  (hcell:∀ ad,ao=some ad→∀ k y,m[k]?=some y→∀ j u,(E.enc y)[j]?=some u→w.cell? (ad.add (k*E.size+j))=some u)
  (hl:l.length*48≤140737488355328) (hlen:(l.length+m.length)*48≤200000000000000) (hb:base≤w.heap.size)
  (h:∀ v' w',Row E w' base v' (l++m)→w.grownBy w' v.ownBlock→wpList Tryz.prog ops Q rest (a.put o.dst v') w'):wpList Tryz.prog ops Q (o::rest) a w:=by
 by_cases hsm:(l.length+m.length)*48≤140737488355328
 ·exact A2f hgd E s x ho base v l m hs hown ao n cap hx hm hnil hcell (by rw[hB];decide) (by rw[hB];exact hsm) hb h
 ·by_cases hn0:0<n
  ·cases ao with
   | none=>obtain⟨h1,_⟩:=hnil rfl;omega
   | some ad=>
    obtain⟨v',w',hr,h1,h2⟩:=D3o E hB o.type base v l m hown ad n cap hm hn0 (fun k y hy j u hu=>hcell ad rfl k y hy j u hu) (by rw[←hm];exact hlen) hb
    refine wpList_plain hgd fun _ hK=>?_
    unfold Oper.wp execOp
    simp only[ho,resolve,invoke,builtin,Sem.run_bind,Sem.run_pure,Result.andThen_ok,List.map_toArray,List.map_cons,List.map_nil,hs,hx,hr]
    exact hK _ _ (h v' w' h1 h2)
  ·exfalso
   have:m.length=0:=by omega
   exact hsm (by rw[this];exact hl)
end
theorem D0s {g:GI}{d:Nat}(ih:B1n g d):B1n g (d+1):=by
 intro w vm ve vf vb v0 v1 m b hg hf cw hq hsm dg
 have hq:BRd d w v0 v1 b:=hq
 obtain⟨hv,fh,fj⟩:OSw (BSw d) b:=hsm
 obtain⟨fk,eu⟩:D9h g (fun t x=>D6x g d (A2j g t) x) m b:=dg
 obtain⟨am,nm,cm,rfl,ft,_⟩:=hg.1.shape
 obtain⟨ae,ne,ce,rfl,_,_⟩:=hg.2.shape
 obtain⟨af,nf,cf,rfl,dz,_⟩:=hf.shape
 obtain⟨ab,nb,cb,rfl,_,_⟩:=cw.shape
 obtain⟨a0,n0,c0,rfl,H0,_⟩:=hq.1.shape
 obtain⟨a1,n1,c1,rfl,H1,_⟩:=hq.2.shape
 have fz:n0≤1048576:=by rw[H0.out];exact fk
 obtain⟨R,HR⟩:∃ R,Hid (A0x g (d+1) m b=R):=⟨_,rfl⟩
 rw[HR.out]
 obtain⟨q,Hq⟩:∃ q,Hid (A2i (fun t x=>A0x g d (A2j g t) x) m.fields [] b.vals=q):=⟨_,rfl⟩
 have dm:Hid (R=if q.2≠0 then([],q.2) else A3n [] (q.1++b.unk)):=by
  show _=_
  rw[←HR.out,←Hq.out];rfl
 have bh:=B8w (fun t x=>A0x g d (A2j g t) x) (fun t x=>B0c g d _ x) m.fields b.vals [] hv (fun r hr=>by cases hr)
 rw[Hq.out] at bh
 obtain⟨W0,au⟩:∃ W0,Hid (W0=((w.alloc (.cells #[.slice am nm cm,.slice ae ne ce] 25)).alloc (.cells #[.string (S m.name),.slice af nf cf,.slice ab nb cb] 38)).alloc (.cells #[.slice a0 n0 c0,.slice a1 n1 c1] 29)):=⟨_,rfl⟩
 have hb0:Below w.heap.size w W0:=by rw[au.out];exact(((Below.refl _ _).alloc (Nat.le_refl _) _).alloc (by simp) _).alloc (by simp;omega) _
 have hz0:w.heap.size+3≤W0.heap.size:=by rw[au.out];simp
 obtain⟨x3,x2,x1⟩:=C1q w (.cells #[.slice am nm cm,.slice ae ne ce] 25) (.cells #[.string (S m.name),.slice af nf cf,.slice ab nb cb] 38) (.cells #[.slice a0 n0 c0,.slice a1 n1 c1] 29)
 rw[←au.out] at x1 x2 x3
 obtain⟨t0,t1⟩:=A0y (g:=w.heap.size+1+1) x3
 have u0:=t0
 have u1:=t1
 rw[au.out] at u0 u1
 have fy:=A4j
 go_enter Tryz.func19,Tryz.ntmps19
 go_wp2_with fail
 rw[←au.out]
 go_loopg [9,20] n0 (fun mm u i wr=>∃ (k:Nat) (ao:Option Addr) (no co:Nat) (acc:List RI),k+mm=n0∧i = .int .i64 k∧u = .slice ao no co∧RecL w wr W0.heap.size (.slice ao no co) acc∧acc.length≤k*1048576∧Hid (A2i (fun t x=>A0x g d (A2j g t) x) m.fields acc ((BO.vals b).drop k)=q)∧Below W0.heap.size W0 wr)
 case atStart=>exact⟨0,none,0,0,[],by omega,rfl,rfl,RecL.nil _ _ _,by simp,Hq,Below.refl _ _⟩
 case round=>
  obtain⟨k,ao,no,co,acc,hk,rfl,rfl,hr,ba,HK,hb⟩:=hrel
  have ak:Below w.heap.size w wr:=KBT hb0 hb
  have dy:=hb.size
  by_cases hlt:k<n0
  ·obtain⟨v,Hx⟩:∃ x,Hid ((BO.vals b)[k]?=some x):=⟨(BO.vals b)[k]'(by rw[←H0.out];exact hlt),List.getElem?_eq_getElem (by rw[←H0.out];exact hlt)⟩
   have bw:=List.mem_of_getElem? Hx.out
   obtain⟨dw,di,ac⟩:=eu v bw
   obtain⟨gv,ov,rfl,dt⟩:=hq.1.get VAt.plain Hx.out
   obtain⟨y1,y2,y3,z0,z1,z2,z3,r1,r2,r3⟩:=dt.at
   obtain⟨b1,m1,d1,rfl,_,_⟩:=r1.shape
   obtain⟨b2,m2,d2,rfl,_,_⟩:=r2.shape
   obtain⟨b3,m3,d3,rfl,_,_⟩:=r3.shape
   have fx:(k:Int)<(n0:Int):=by omega
   obtain⟨j,hj,br,fc,ew⟩:=D1r dw
   have HS:=C9l (deep:=fun t x=>A0x g d (A2j g t) x) (fs:=m.fields) Hx.out acc
   have bv:=(C2t (fun t x=>A0x g d (A2j g t) x) (fun t x=>B0c g d _ x) (A0l m.fields v.number) v (hv v bw)).2
   obtain⟨f,Hf⟩:∃ f,Hid (f=A0l m.fields v.number):=⟨_,rfl⟩
   rw[←Hf.out] at br HS di ac bv
   have fw:j<nf:=by rw[dz.out];exact(List.getElem?_eq_some_iff.1 br).1
   have fu:(j:Int)<(nf:Int):=by omega
   obtain⟨bf,of,rfl,hat⟩:=hf.get FAt.plain br
   obtain⟨B,E,HE⟩:∃ B E,Hid (A1a (fun t x=>A0x g d (A2j g t) x) f v=(B,E)):=⟨_,_,rfl⟩
   rw[HE.out] at HS bv
   obtain⟨W1,bn⟩:∃ W1,Hid (W1=wr.alloc (.cells #[.int .i64 v.number,.slice b1 m1 d1,.slice b2 m2 d2,.slice b3 m3 d3] 62)):=⟨_,rfl⟩
   have hb1:Below wr.heap.size wr W1:=by rw[bn.out];exact(Below.refl _ _).alloc (Nat.le_refl _) _
   have hz1:wr.heap.size+1≤W1.heap.size:=by rw[bn.out];simp
   have xv:W1.heap[wr.heap.size]?=some (.cells #[.int .i64 v.number,.slice b1 m1 d1,.slice b2 m2 d2,.slice b3 m3 d3] 62 (0,0)):=by rw[bn.out];exact heap_alloc_new _ _
   have ag:Below w.heap.size w W1:=KBT ak hb1
   have et:∀ V,Below W1.heap.size W1 V→Calls Tryz.prog 37 #[.agg #[.string (S m.name),.slice (some ⟨bf,of,none⟩) nf cf,.slice ab nb cb],.int .i64 v.number] V fun e w'=>e = .returned (.int .i64 (j:Int))∧Below V.heap.size V w':=fun V hV=>by
    have:=A3e (hf.below FAt.stays (KBT ag hV)) ⟨ab,nb,cb,rfl⟩ ⟨m.name,rfl⟩ v.number
    rw[hj] at this
    exact this
   have fe:∀ V,Below W1.heap.size W1 V→Calls Tryz.prog 36 #[.agg #[.string (S f.name),.int .i64 f.number,.int .i64 f.kind,.string (S f.type),.bool f.many,.int .i64 f.choice],.agg #[.int .i64 v.number,.slice b1 m1 d1,.slice b2 m2 d2,.slice b3 m3 d3],.func (.func 34) #[] #[.pointer (some ⟨w.heap.size,0,none⟩)]] V fun e w'=>∃ ao n c,e = .returned (.tuple #[.slice ao n c,.int .i64 E])∧RecL w w' V.heap.size (.slice ao n c) B∧Below V.heap.size V w':=fun V hV=>by
    have bq:=KBT ag hV
    have:=C1d bq (r1.below UAt.stays bq) r2 (r3.below (BAt.stays d) bq) (hv v bw) f di (enters_of Tryz.func34 (by kernel_rfl) rfl) (cap:=#[.pointer (some ⟨w.heap.size,0,none⟩)]) (deep:=fun t x=>A0x g d (A2j g t) x) (fun dr y hy=>(D0r ih (hg.below bq) (((KBT (KBT hb hb1) hV).block _ (by omega)).trans x1) (ac dr).1 ((hv v bw).2.2.2.2.2 y hy) ((ac dr).2 y hy)))
    rw[HE.out] at this
    exact this
   have eo:∀ V,Below W1.heap.size W1 V→Below W1.heap.size W1 V∧(V.cell? ⟨w.heap.size+1,0,none⟩=some (.string (S m.name))∧V.cell? ⟨w.heap.size+1,1,none⟩=some (.slice (some ⟨bf,of,none⟩) nf cf)∧V.cell? ⟨w.heap.size+1,2,none⟩=some (.slice ab nb cb))∧(V.cell? ⟨wr.heap.size,0,none⟩=some (.int .i64 v.number)∧V.cell? ⟨wr.heap.size,1,none⟩=some (.slice b1 m1 d1)∧V.cell? ⟨wr.heap.size,2,none⟩=some (.slice b2 m2 d2)∧V.cell? ⟨wr.heap.size,3,none⟩=some (.slice b3 m3 d3))∧V.cell? ⟨bf,of+j*6,none⟩=some (.string (S f.name))∧V.cell? ⟨bf,of+j*6+1,none⟩=some (.int .i64 f.number)∧V.cell? ⟨bf,of+j*6+2,none⟩=some (.int .i64 f.kind)∧V.cell? ⟨bf,of+j*6+3,none⟩=some (.string (S f.type))∧V.cell? ⟨bf,of+j*6+4,none⟩=some (.bool f.many)∧V.cell? ⟨bf,of+j*6+5,none⟩=some (.int .i64 f.choice):=fun V hV=>
    ⟨hV,A4p (((KBT (KBT hb hb1) hV).block _ (by omega)).trans x2),C6u ((hV.block _ (by omega)).trans xv),(FAt.stays _ _ _ _ (KBT ag hV) hat).at⟩
   have hd:Below W1.heap.size W1 W1.drew:=(Below.refl _ _).drew
   have s0:=A0c ak z0
   have s1:=A0c ak z1
   have s2:=A0c ak z2
   have s3:=A0c ak z3
   have dn:Hid (A2i (fun t x=>A0x g d (A2j g t) x) m.fields acc ((BO.vals b).drop k)=if E≠0 then([],E) else A2i (fun t x=>A0x g d (A2j g t) x) m.fields (acc++B) ((BO.vals b).drop (k+1))):=HS
   clear HS di ac dw dt hat hj br fc ew z0 z1 z2 z3 r1 r2 r3 u0 u1 t0 t1
   go_wp2_with fail
   rw[←bn.out]
   go_cut [12,13] from 24 to 37 (fun s12 fq wc=>∃ (a5:Option Addr) (n5 c5:Nat),s12 = .slice a5 n5 c5∧fq = .int .i64 E∧RecL w wc W0.heap.size (.slice a5 n5 c5) B∧Below W1.heap.size W1 wc)
   case first=>
    go_region_held3 (fun V=>Below W1.heap.size W1 V∧(V.cell? ⟨w.heap.size+1,0,none⟩=some (.string (S m.name))∧V.cell? ⟨w.heap.size+1,1,none⟩=some (.slice (some ⟨bf,of,none⟩) nf cf)∧V.cell? ⟨w.heap.size+1,2,none⟩=some (.slice ab nb cb))∧(V.cell? ⟨wr.heap.size,0,none⟩=some (.int .i64 v.number)∧V.cell? ⟨wr.heap.size,1,none⟩=some (.slice b1 m1 d1)∧V.cell? ⟨wr.heap.size,2,none⟩=some (.slice b2 m2 d2)∧V.cell? ⟨wr.heap.size,3,none⟩=some (.slice b3 m3 d3))∧V.cell? ⟨bf,of+j*6,none⟩=some (.string (S f.name))∧V.cell? ⟨bf,of+j*6+1,none⟩=some (.int .i64 f.number)∧V.cell? ⟨bf,of+j*6+2,none⟩=some (.int .i64 f.kind)∧V.cell? ⟨bf,of+j*6+3,none⟩=some (.string (S f.type))∧V.cell? ⟨bf,of+j*6+4,none⟩=some (.bool f.many)∧V.cell? ⟨bf,of+j*6+5,none⟩=some (.int .i64 f.choice)) ((with_reducible refine eo _ ?_;with_reducible (first|exact hd|exact cj|exact aw))) ((first|(go_at_call 37;refine(et _ (by with_reducible exact hd)).mono ?_;rintro e w2 ⟨rfl,hb2⟩;have cj:=KBT hd hb2)|(go_at_call 36;refine(fe _ (by with_reducible exact cj)).mono ?_;rintro e w3 ⟨a5,n5,c5,rfl,bu,eh⟩;have aw:=KBT cj eh)))
    all_goals
     have dh:RecL w w3 W0.heap.size (.slice a5 n5 c5) B:=bu.mono (by have:=hb2.size;have:W1.drew.heap.size=W1.heap.size:=rfl;omega)
     clear bu
     go_wp2_with fail
     go_meet
    all_goals exact⟨a5,n5,c5,rfl,rfl,dh,aw⟩
   case rest=>
    obtain⟨a5,n5,c5,rfl,rfl,bu,aw⟩:=hcut
    have bp:Below W0.heap.size W0 wc:=KBT (KBT hb hb1) aw
    by_cases hE:E=0
    ·have d9:(E != 0)=false:=by simp[hE]
     have bk:Hid (A2i (fun t x=>A0x g d (A2j g t) x) m.fields (acc++B) ((BO.vals b).drop (k+1))=q):=by
      show _=_;rw[←HK.out,dn.out,if_neg (by simp[hE])]
     have hr3:RecL w wc W0.heap.size (.slice ao no co) acc:=(hr.below hb1).below aw
     obtain⟨l',k1,k2,k3⟩:=hr3
     obtain⟨m',j1,j2,j3⟩:=bu
     obtain⟨q1,q2,q3⟩:=D6m j1
     have fd:l'.length≤k*1048576:=by rw[←List.length_map (f:=Prod.fst),k2];exact ba
     have hl2:m'.length≤1048576:=by rw[←List.length_map (f:=Prod.fst),j2];exact bv
     clear hE hr
     go_wp2_with (at_builtin;refine A2f (by rfl) ekR _ _ (by rfl) W0.heap.size (.slice ao no co) l' m' (by rfl) k1 a5 n5 c5 (by rfl) q1 q2 q3 (by decide) ?d2 bp.size ?_)
     case d2=>
      rw[show ekR.bytes=48 from rfl]
      have h1:k*1048576≤1048576*1048576:=Nat.mul_le_mul_right _ (by omega)
      omega
     intro v' w6 aj bg
     obtain⟨a6,n6,c6,rfl,_⟩:=aj.shape'
     have cu:Below W0.heap.size W0 w6:=bp.grown bg bp.size (fun k hk=>(k1.own k hk).1)
     have bt:RecL w w6 W0.heap.size (.slice a6 n6 c6) (acc++B):=RecL.app (o:=none) k1 k2 k3 j2 j3 aj bg rfl
     have ee:(acc++B).length≤(k+1)*1048576:=by
      rw[List.length_append,Nat.succ_mul]
      have:B.length≤1048576:=bv
      omega
     clear aj k1 k3 j1 j3
     go_wp2_with fail
     go_roundg (n0-(k+1))
     case measure=>omega
     case rel=>exact⟨k+1,a6,n6,c6,_,by omega,by go_num,rfl,bt,ee,bk,cu⟩
    ·have d9:(E != 0)=true:=by simpa using hE
     have HF:Hid (R=([],E)):=by
      show _=_
      have e:q=([],E):=by rw[←HK.out,dn.out,if_pos hE]
      rw[dm.out,e,if_pos hE]
     clear hE
     go_wp2
     go_ret2
     exact⟨none,0,0,by rw[HF.out];rfl,by rw[HF.out];exact Row.nil _ _ _,KBT hb0 bp⟩
  ·have bk:Hid (q=(acc,0)):=by
    show _=_;rw[←HK.out,List.drop_of_length_le (by rw[←H0.out];omega)];rfl
   have HF:Hid (R=A3n [] (acc++b.unk)):=by
    show _=_;rw[dm.out,bk.out,if_neg (by simp)]
   have bc:∀ r∈acc,RSm r:=by have:=bh.1;rw[bk.out] at this;exact this
   obtain⟨g0,g1⟩:=A0y (g:=w.heap.size+1+1) ((hb.block _ (by omega)).trans x3)
   obtain⟨m',j2,j3,q1,q2,q3⟩:=D6k hq.2
   obtain⟨l',k1,k2,k3⟩:=hr
   have fd:l'.length≤1048576*1048576:=by
    rw[←List.length_map (f:=Prod.fst),k2]
    exact Nat.le_trans ba (Nat.mul_le_mul_right _ (by omega))
   have hl2:m'.length*48≤reachBytes:=by rw[←List.length_map (f:=Prod.fst),j2];exact fh
   have fo:∀ ad,a1=some ad→∀ k y,m'[k]?=some y→∀ j u,(ekR.enc y)[j]?=some u→wr.cell? (ad.add (k*ekR.size+j))=some u:=fun ad had k y hy j u hu=>A0c ak (q3 ad had k y hy j u hu)
   clear q3
   go_wp2_with (at_builtin;refine C1o (by rfl) ekR rfl _ _ (by rfl) W0.heap.size (.slice ao no co) l' m' (by rfl) k1 a1 n1 c1 (by rfl) q1 q2 fo ?d1 ?d2 dy ?_)
   case d1=>omega
   case d2=>
    unfold reachBytes at hl2
    omega
   intro v' w6 aj bg
   obtain⟨a6,n6,c6,rfl,_⟩:=aj.shape'
   have cu:Below W0.heap.size W0 w6:=hb.grown bg dy (fun k hk=>(k1.own k hk).1)
   have ah:Below w.heap.size w w6:=KBT hb0 cu
   have bt:RecL w w6 W0.heap.size (.slice a6 n6 c6) (acc++b.unk):=RecL.app (o:=none) k1 k2 k3 j2 (fun r hr=>.inl (j3 r hr)) aj bg rfl
   have hby:=C6b (bt.rd ah) (fun r hr=>by
    rcases List.mem_append.1 hr with hr|hr
    ·exact bc r hr
    ·have:=fj r hr;exact⟨this.1,by omega⟩)
   rw[←HF.out] at hby
   clear aj k1 k3 j3 bt
   go_wp2_with fail
   refine hby.mono ?_
   rintro e w7 ⟨a7,n7,c7,dp,rfl,dx,ei⟩
   obtain⟨E7,dl⟩:∃ E7,Hid (R.2=E7):=⟨_,rfl⟩
   rw[dl.out]
   obtain⟨W8,cg⟩:∃ W8,Hid (W8=w7.alloc (.cells #[.int .i64 E7,.int .i64 dp] 50)):=⟨_,rfl⟩
   have dv:Below w7.heap.size w7 W8:=by rw[cg.out];exact(Below.refl _ _).alloc (Nat.le_refl _) _
   have x8:W8.heap[w7.heap.size]?=some (.cells #[.int .i64 E7,.int .i64 dp] 50 (0,0)):=by rw[cg.out];exact heap_alloc_new _ _
   obtain⟨p0,p1⟩:=A0y x8
   have df:Row ekY W8.drew w.heap.size (.slice a7 n7 c7) R.1:=((dx.below dv).mono ah.size).keep fun _ _ _=>rfl
   have ej:Below w.heap.size w W8.drew:=(KBT (KBT ah ei) dv).drew
   clear hby dx
   go_wp2_with fail
   rw[←cg.out]
   go_region
   all_goals
    go_wp2_with fail
    go_ret2
    exact⟨a7,n7,c7,by rw[dl.out];rfl,df,ej⟩
theorem C3e (g:GI):∀ d,B1n g d
 | 0=>fun _ _ _ _ _ _ _ _ _ _ _ _ hq _ _=>hq.elim
 | d+1=>D0s (C3e g d)
end L
end Go.Proofs.YtgaoojpakjjdnaaGreatDoor
