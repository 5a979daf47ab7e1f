import Derived.Test.YtgaoojpakjjdnaaGreatDoorV11
set_option maxHeartbeats 32000000
set_option maxRecDepth 100000
namespace Go.Proofs.YtgaoojpakjjdnaaGreatDoor
namespace L
open Go.RowKit
def B9p (d:Nat):Prop:=∀ (w:World) (B0:Nat) (a0:Option Addr) (n0 c0:Nat) (a1:Option Addr) (n1 c1:Nat) (x:BI d),B0≤w.heap.size→BQ d w (.slice a0 n0 c0) (.slice a1 n1 c1) x→BOk d x→
 Calls Tryz.prog 31 #[.agg #[.slice a0 n0 c0,.slice a1 n1 c1]] w fun e w'=>∃ (y:LB d) (x0:Option Addr) (y0 z0:Nat) (x1:Option Addr) (y1 z1:Nat),(ekB d).enc y = [.slice x0 y0 z0,.slice x1 y1 z1]∧e = .returned (.agg #[.slice x0 y0 z0,.slice x1 y1 z1])∧LB.pl d y=x∧OwnB B0 d w' y∧(∀ k∈LB.fp d y,w.heap.size≤k)∧(LB.fp d y).Nodup∧Below w.heap.size w w'
def B5h (d:Nat):Prop:=∀ (w:World) (B0:Nat) (v:VI (BI d)) (a1:Option Addr) (n1 c1:Nat) (a2:Option Addr) (n2 c2:Nat) (a3:Option Addr) (n3 c3:Nat),B0≤w.heap.size→RdL 1 UAt w (.slice a1 n1 c1) v.bits→RdL 1 ZAt w (.slice a2 n2 c2) v.bytes→RdL 2 (BAt d) w (.slice a3 n3 c3) v.subs→VOk (BOk d) v→
 Calls Tryz.prog 32 #[.agg #[.int .i64 v.number,.slice a1 n1 c1,.slice a2 n2 c2,.slice a3 n3 c3]] w fun e w'=>∃ (y:VL (LB d)) (q0:Int) (x1:Option Addr) (y1 z1:Nat) (x2:Option Addr) (y2 z2:Nat) (x3:Option Addr) (y3 z3:Nat),(ekV (LB d)).enc y = [.int .i64 q0,.slice x1 y1 z1,.slice x2 y2 z2,.slice x3 y3 z3]∧e = .returned (.agg #[.int .i64 q0,.slice x1 y1 z1,.slice x2 y2 z2,.slice x3 y3 z3])∧VL.pl (LB.pl d) y=v∧OwnV (ekB d) (OwnB B0 d) w' B0 y∧(∀ k∈VL.fp (LB.fp d) y,w.heap.size≤k)∧(VL.fp (LB.fp d) y).Nodup∧Below w.heap.size w w'
theorem A1l {w:World}{g i:Nat}{cs:Array Value}{t:TypeId}{fr:Nat×Nat}{x:Value}(h:w.heap[g]?=some (.cells cs t fr))(ht:t≠5):FrB [g] w (w.setCell ⟨g,i,none⟩ x):=by
 refine⟨rfl,rfl,rfl,by simp,fun k _ hc=>Below.heap_setCell w ⟨g,i,none⟩ x k (show k≠g from fun e=>?_)⟩
 rcases hc with hc|⟨cs',fr',hc⟩
 ·exact hc (by simp[e])
 ·rw[e,h] at hc
  simp only[Option.some.injEq,Obj.cells.injEq] at hc
  exact ht hc.2.1
theorem C0i {V V':World}(h:V.grownBy V' (Value.slice none 0 0).ownBlock):Below V.heap.size V V':=⟨h.os,h.tape,h.output,h.size,fun k hk=>h.block k hk (by simp[Value.ownBlock])⟩
theorem A2c {g:Nat}{a b c:World}(h:FrB [g] a b)(k:FrB [g] b c):FrB [g] a c:=h.trans k (fun _ hi=>hi) (fun _ hi=>.inl hi)
theorem fr4 {w:World}{g:Nat}{cs:Array Value}{x0 x1 x2 x3:Value}(h:w.heap[g]?=some (.cells cs 62 (0,0))):FrB [g] w ((((w.setCell ⟨g,0,none⟩ x0).setCell ⟨g,1,none⟩ x1).setCell ⟨g,2,none⟩ x2).setCell ⟨g,3,none⟩ x3):=by
 have h1:=heap_setCell_same _ _ 0 _ _ x0 h
 have h2:=heap_setCell_same _ _ 1 _ _ x1 h1
 have h3:=heap_setCell_same _ _ 2 _ _ x2 h2
 exact A2c (A2c (A2c (A1l h (by decide)) (A1l h1 (by decide))) (A1l h2 (by decide))) (A1l h3 (by decide))
theorem OwnV.mono {β:Type}{E:EK β}{O O':World→β→Prop}{w:World}{base base':Nat}{v:VL β}(h:OwnV E O w base v)(hb:base'≤base)(hO:∀ s,O w s→O' w s):OwnV E O' w base' v:=⟨h.r1.mono hb,h.r2.mono hb,fun z hz=>(h.r2y z hz).mono hb,h.r3.mono hb,fun s hs=>hO s (h.r3s s hs)⟩
theorem OwnB.mono:∀ (d:Nat){w:World}{base base':Nat}{b:LB d},OwnB base d w b→base'≤base→OwnB base' d w b
 | 0,_,_,_,_,h,_=>h
 | d+1,_,_,_,_,h,hb=>⟨h.r0.mono hb,fun v hv=>(h.r0v v hv).mono hb fun _ hs=>OwnB.mono d hs hb,h.r1.mono hb,fun r hr=>(h.r1y r hr).mono hb⟩
theorem D7s {a b c:List Nat}{la ha lb hb lc hc:Nat}(na:a.Nodup)(nb:b.Nodup)(nc:c.Nodup)(ia:∀ k∈a,la≤k∧k<ha)(ib:∀ k∈b,lb≤k∧k<hb)(ic:∀ k∈c,lc≤k∧k<hc)(ac:ha≤lb∨hb≤la)(ag:ha≤lc∨hc≤la)(ah:hb≤lc∨hc≤lb):(a++b++c).Nodup:=by
 refine List.nodup_append.2 ⟨List.nodup_append.2 ⟨na,nb,fun x hx y hy e=>?_⟩,nc,fun x hx y hy e=>?_⟩
 ·subst e
  have:=ia x hx;have:=ib x hy
  omega
 ·subst e
  have:=ic x hy
  rcases List.mem_append.1 hx with hx|hx
  ·have:=ia x hx;omega
  ·have:=ib x hx;omega
theorem B6n (p:PV):(own1 p).Nodup:=by
 unfold own1
 cases p.v.ownBlock <;> simp
theorem B8p {d:Nat}(ih:B9p d):B5h d:=by
 intro w B0 v a1 n1 c1 a2 n2 c2 a3 n3 c3 hB r1 r2 r3 bn
 obtain⟨_,hu,ba,hz,hl2,hQ,bc⟩:=bn
 obtain⟨W2,aj⟩:∃ W2,Hid (W2=(w.alloc (.cells #[.int .i64 v.number,.slice a1 n1 c1,.slice a2 n2 c2,.slice a3 n3 c3] 62)).alloc (.cells #[.int .i64 0,.slice none 0 0,.slice none 0 0,.slice none 0 0] 62)):=⟨_,rfl⟩
 have hb2:Below w.heap.size w W2:=by rw[aj.out];exact((Below.refl _ _).alloc (Nat.le_refl _) _).alloc (by simp) _
 have z2:w.heap.size+2≤W2.heap.size:=by rw[aj.out];simp
 have x1:W2.heap[w.heap.size]?=some (.cells #[.int .i64 v.number,.slice a1 n1 c1,.slice a2 n2 c2,.slice a3 n3 c3] 62 (0,0)):=by rw[aj.out];exact A0o _ _ _
 have x2:W2.heap[w.heap.size+1]?=some (.cells #[.int .i64 0,.slice none 0 0,.slice none 0 0,.slice none 0 0] 62 (0,0)):=by rw[aj.out];exact A0j _ _ _
 have bh:∀ V,Below W2.heap.size W2 V→Calls Tryz.prog 76 #[.slice a2 n2 c2,.func (.func 77) #[] #[]] V fun e w'=>∃ (a:Option Addr) (n c:Nat) (l':List (List UInt8×PV)),e = .returned (.slice a n c)∧Cop ekZ Prod.fst (fun w (z:List UInt8×PV)=>Row ekY w W2.heap.size z.2.v z.1) (fun _=>[]) V W2.heap.size v.bytes w' (a,n,c) l':=fun V hV=>(D1l hV.size (r2.below ZAt.stays (BTr hb2 hV)) hl2 hz).mono fun _ _ ⟨⟨a,n,c⟩,l',h1,h2⟩=>⟨a,n,c,l',h1,h2⟩
 have hcb:∀ V,Below W2.heap.size W2 V→Calls Tryz.prog 78 #[.slice a3 n3 c3,.func (.func 31) #[] #[]] V fun e w'=>∃ (a:Option Addr) (n c:Nat) (l':List (LB d)),e = .returned (.slice a n c)∧Cop (ekB d) (LB.pl d) (OwnB W2.heap.size d) (LB.fp d) V W2.heap.size v.subs w' (a,n,c) l':=fun V hV=>(D1i hV.size (r3.below (BAt.stays d) (BTr hb2 hV)) bc (enters_of Tryz.func31 (by kernel_rfl) rfl) fun W hW a ha a0 n0 c0 a1 n1 c1 hq=>ih W W2.heap.size a0 n0 c0 a1 n1 c1 a (Nat.le_trans hV.size hW.size) hq (hQ a ha)).mono fun _ _ ⟨⟨a,n,c⟩,l',h1,h2⟩=>⟨a,n,c,l',h1,h2⟩
 have ah:∀ V,Below W2.heap.size W2 V→(V.cell? ⟨w.heap.size,0,none⟩=some (.int .i64 v.number)∧V.cell? ⟨w.heap.size,1,none⟩=some (.slice a1 n1 c1)∧V.cell? ⟨w.heap.size,2,none⟩=some (.slice a2 n2 c2)∧V.cell? ⟨w.heap.size,3,none⟩=some (.slice a3 n3 c3))∧V.cell? ⟨w.heap.size+1,0,none⟩=some (.int .i64 0)∧V.cell? ⟨w.heap.size+1,1,none⟩=some (.slice none 0 0)∧V.cell? ⟨w.heap.size+1,2,none⟩=some (.slice none 0 0)∧V.cell? ⟨w.heap.size+1,3,none⟩=some (.slice none 0 0)∧V.frozen? ⟨w.heap.size+1,0,none⟩=false∧V.frozen? ⟨w.heap.size+1,1,none⟩=false∧V.frozen? ⟨w.heap.size+1,2,none⟩=false∧V.frozen? ⟨w.heap.size+1,3,none⟩=false:=fun V hV=>by
  have y1:=(hV.block _ (by omega)).trans x1
  have y2:=(hV.block _ (by omega)).trans x2
  exact⟨⟨A0a y1 0 _ rfl,A0a y1 1 _ rfl,A0a y1 2 _ rfl,A0a y1 3 _ rfl⟩,A0a y2 0 _ rfl,A0a y2 1 _ rfl,A0a y2 2 _ rfl,A0a y2 3 _ rfl,A0b y2 0,A0b y2 1,A0b y2 2,A0b y2 3⟩
 have au:∀ V,Below W2.heap.size W2 V→Src ekU V a1 n1 c1 v.bits:=fun V hV=>(r1.below UAt.stays (BTr hb2 hV)).srcU
 have hby:(([]:List Nat).length+v.bits.length)*ekU.bytes≤140737488355328:=by
  unfold reachBytes at ba
  show(0+v.bits.length)*8≤_
  omega
 have hD:Below W2.heap.size W2 W2.drew:=(Below.refl _ _).drew
 obtain⟨⟨d0,d1,d2,d3⟩,e0,e1,e2,e3,e4,e5,e6,e7⟩:=ah _ hD
 have bw:¬ w.heap.size=w.heap.size+1:=by omega
 have cg:¬ w.heap.size+1=w.heap.size:=by omega
 have hS:∀ V,Below W2.heap.size W2 V→Below w.heap.size w V∧V.cell? ⟨w.heap.size,0,none⟩=some (.int .i64 v.number)∧V.cell? ⟨w.heap.size,1,none⟩=some (.slice a1 n1 c1)∧V.cell? ⟨w.heap.size,2,none⟩=some (.slice a2 n2 c2)∧V.cell? ⟨w.heap.size,3,none⟩=some (.slice a3 n3 c3):=fun V hV=>⟨BTr hb2 hV,(ah V hV).1⟩
 have far:∀ (V:World) (i j:Nat) (x:Value),(V.setCell ⟨w.heap.size+1,i,none⟩ x).cell? ⟨w.heap.size,j,none⟩=V.cell? ⟨w.heap.size,j,none⟩:=fun V i j x=>World.cell?_setCell_far V _ _ _ (by simp)
 have bg:∀ V,Below W2.heap.size W2 V→∀ x0 x1 x2 x3:Value,Below w.heap.size w ((((V.setCell ⟨w.heap.size+1,0,none⟩ x0).setCell ⟨w.heap.size+1,1,none⟩ x1).setCell ⟨w.heap.size+1,2,none⟩ x2).setCell ⟨w.heap.size+1,3,none⟩ x3)∧((((V.setCell ⟨w.heap.size+1,0,none⟩ x0).setCell ⟨w.heap.size+1,1,none⟩ x1).setCell ⟨w.heap.size+1,2,none⟩ x2).setCell ⟨w.heap.size+1,3,none⟩ x3).cell? ⟨w.heap.size,0,none⟩=some (.int .i64 v.number)∧((((V.setCell ⟨w.heap.size+1,0,none⟩ x0).setCell ⟨w.heap.size+1,1,none⟩ x1).setCell ⟨w.heap.size+1,2,none⟩ x2).setCell ⟨w.heap.size+1,3,none⟩ x3).cell? ⟨w.heap.size,1,none⟩=some (.slice a1 n1 c1)∧((((V.setCell ⟨w.heap.size+1,0,none⟩ x0).setCell ⟨w.heap.size+1,1,none⟩ x1).setCell ⟨w.heap.size+1,2,none⟩ x2).setCell ⟨w.heap.size+1,3,none⟩ x3).cell? ⟨w.heap.size,2,none⟩=some (.slice a2 n2 c2)∧((((V.setCell ⟨w.heap.size+1,0,none⟩ x0).setCell ⟨w.heap.size+1,1,none⟩ x1).setCell ⟨w.heap.size+1,2,none⟩ x2).setCell ⟨w.heap.size+1,3,none⟩ x3).cell? ⟨w.heap.size,3,none⟩=some (.slice a3 n3 c3):=fun V hV x0 x1 x2 x3=>by
  simp only[far]
  exact⟨A2w (A2w (A2w (A2w (BTr hb2 hV) (by omega)) (by omega)) (by omega)) (by omega),(ah V hV).1⟩
 clear ih r1 r2 r3 ba hl2 bc hz hQ hu x1 far
 go_enter Tryz.func32,Tryz.ntmps32
 go_wp2_with fail
 rw[←aj.out]
 go_region_held3 (fun V=>Below w.heap.size w V∧V.cell? ⟨w.heap.size,0,none⟩=some (.int .i64 v.number)∧V.cell? ⟨w.heap.size,1,none⟩=some (.slice a1 n1 c1)∧V.cell? ⟨w.heap.size,2,none⟩=some (.slice a2 n2 c2)∧V.cell? ⟨w.heap.size,3,none⟩=some (.slice a3 n3 c3)) ((first|(with_reducible refine hS _ ?_;with_reducible (first|exact hD|exact hA|exact hZ|exact hY))|(with_reducible refine bg _ ?_ _ _ _ _;with_reducible (first|exact hA|exact hY)))) ((first|(refine C9t (by rfl) ekU _ _ (by rfl) W2.heap.size (.slice none 0 0) [] v.bits (by rfl) (Row.nil _ _ _) a1 n1 c1 (by rfl) (au _ hD).1 (au _ hD).2.1 (au _ (by with_reducible (first|exact hD|exact hZ|exact hY))).2.2 (by decide) hby (by with_reducible (first|exact hD.size|exact hZ.size|exact hY.size)) ?_;intro vA wA ak bk bt;obtain⟨aA,nA,cA,rfl,br⟩:=ak.shape';have hA:Below W2.heap.size W2 wA:=BTr (by with_reducible (first|exact hD|exact hZ|exact hY)) (C0i bk);obtain⟨⟨et,eu,ew,fc⟩,cj,cu,cw,df,dg,dh,di,dl⟩:=ah _ hA)|(go_at_call 76;refine(bh _ (by with_reducible (first|exact hD|exact hA))).mono ?_;rintro e wZ ⟨aZ,nZ,cZ,lZ,rfl,ag⟩;have hZ:Below W2.heap.size W2 wZ:=BTr (by with_reducible (first|exact hD|exact hA)) ag.below;obtain⟨⟨fk,fo,fq,ft⟩,dy,dz,d9,ee,eh,ei,ej,eo⟩:=ah _ hZ)|(go_at_call 78;refine(hcb _ (by with_reducible (first|exact hZ|exact hA))).mono ?_;rintro e wY ⟨aY,nY,cY,lY,rfl,ac⟩;have hY:Below W2.heap.size W2 wY:=BTr (by with_reducible (first|exact hZ|exact hA)) ac.below;obtain⟨⟨fd,fe,fh,fj⟩,dm,dn,dp,dr,dt,dv,dw,dx⟩:=ah _ hY)))
 have bu:W2.heap.size≤wA.heap.size:=hA.size
 have bq:wA.heap.size≤wZ.heap.size:=ag.below.size
 have bv:wZ.heap.size≤wY.heap.size:=ac.below.size
 have iA:∀ k∈own1 ((aA,nA,cA):PV),W2.heap.size≤k∧k<wA.heap.size:=fun k hk=>by
  have aw:(Value.slice aA nA cA).ownBlock=some k:=A0u.1 hk
  exact⟨(ak.own k aw).1,(ak.own k aw).2⟩
 have iZ:∀ k∈own1 ((aZ,nZ,cZ):PV),wA.heap.size≤k∧k<wZ.heap.size:=fun k hk=>⟨ag.ge k (List.mem_append_left _ hk),(ag.row.own1 k hk).2⟩
 have iY:∀ k∈own1 ((aY,nY,cY):PV)++lY.flatMap (LB.fp d),wZ.heap.size≤k∧k<wY.heap.size:=fun k hk=>⟨ac.ge k hk,by
  rcases List.mem_append.1 hk with hk|hk
  ·exact(ac.row.own1 k hk).2
  ·obtain⟨s,hs,hk⟩:=List.mem_flatMap.1 hk
   exact(OwnB.inB d (ac.own s hs) k hk).2⟩
 have hx2:wY.heap[w.heap.size+1]?=some (.cells #[.int .i64 0,.slice none 0 0,.slice none 0 0,.slice none 0 0] 62 (0,0)):=(hY.block _ (by omega)).trans x2
 have hf:=fr4 hx2 (x0:=.int .i64 v.number) (x1:=.slice aA nA cA) (x2:=.slice aZ nZ cZ) (x3:=.slice aY nY cY)
 have rA:Row ekU wY W2.heap.size (PV.v (aA,nA,cA)) v.bits:=by
  have:=(ak.below ag.below).below ac.below
  rw[List.nil_append] at this
  exact this
 have bp:∀ s∈lY,OwnB W2.heap.size d wY s:=fun s hs=>ac.own s hs
 go_wp2_with fail
 refine bodyPost_ret (v:=.agg #[.int .i64 v.number,.slice aA nA cA,.slice aZ nZ cZ,.slice aY nY cY]) (by simp[results,Tryz.results32,go_sem, *]) rfl ?_
 refine⟨⟨v.number,v.bits,lZ,lY,(aA,nA,cA),(aZ,nZ,cZ),(aY,nY,cY)⟩,v.number,aA,nA,cA,aZ,nZ,cZ,aY,nY,cY,rfl,rfl,?_,?_,?_,?_,?_⟩
 ·simp only[VL.pl,ag.map,ac.map]
 ·refine⟨?_,?_,fun z hz=>?_,?_,fun s hs=>?_⟩
  ·exact((((rA.set4 (by omega)).set4 (by omega)).set4 (by omega)).set4 (by omega)).mono (by omega)
  ·exact(((((ag.row.below ac.below).set4 (by omega)).set4 (by omega)).set4 (by omega)).set4 (by omega)).mono (by omega)
  ·have hz':Row ekY wZ W2.heap.size z.2.v z.1:=ag.own z hz
   exact(((((hz'.below ac.below).set4 (by omega)).set4 (by omega)).set4 (by omega)).set4 (by omega)).mono (by omega)
  ·exact((((ac.row.set4 (by omega)).set4 (by omega)).set4 (by omega)).set4 (by omega)).mono (by omega)
  ·refine OwnB.mono d (OwnB.fr d [w.heap.size+1] wY _ s (bp s hs) hf fun k hk hm=>?_) (by omega)
   rw[List.mem_singleton] at hm
   have:=iY k (List.mem_append_right _ (List.mem_flatMap.2 ⟨s,hs,hk⟩))
   omega
 ·intro k hk
  simp only[VL.fp] at hk
  rw[List.append_assoc] at hk
  rcases List.mem_append.1 hk with hk|hk
  ·rcases List.mem_append.1 hk with hk|hk
   ·have:=iA k hk;omega
   ·have:=iZ k hk;omega
  ·have:=iY k hk;omega
 ·simp only[VL.fp]
  rw[List.append_assoc]
  exact D7s (B6n _) (B6n _) ac.nd iA iZ iY (.inl (Nat.le_refl _)) (.inl bq) (.inl (Nat.le_refl _))
 ·exact A2w (A2w (A2w (A2w (BTr hb2 hY) (by omega)) (by omega)) (by omega)) (by omega)
theorem D7r {a b:List Nat}{la ha lb hb:Nat}(na:a.Nodup)(nb:b.Nodup)(ia:∀ k∈a,la≤k∧k<ha)(ib:∀ k∈b,lb≤k∧k<hb)(ac:ha≤lb∨hb≤la):(a++b).Nodup:=by
 refine List.nodup_append.2 ⟨na,nb,fun x hx y hy e=>?_⟩
 subst e
 have:=ia x hx;have:=ib x hy
 omega
theorem fr2 {w:World}{g:Nat}{cs:Array Value}{x0 x1:Value}(h:w.heap[g]?=some (.cells cs 29 (0,0))):FrB [g] w ((w.setCell ⟨g,0,none⟩ x0).setCell ⟨g,1,none⟩ x1):=
 A2c (A1l h (by decide)) (A1l (heap_setCell_same _ _ 0 _ _ x0 h) (by decide))
theorem D3c {d:Nat}(ih:B5h d):B9p (d+1):=by
 intro w B0 a0 n0 c0 a1 n1 c1 x hB hq bc
 have hq:BRd d w (.slice a0 n0 c0) (.slice a1 n1 c1) x:=hq
 obtain⟨hv,hl0,hr,au⟩:(∀ v∈BO.vals x,VOk (BOk d) v)∧(BO.vals x).length*80≤reachBytes∧(∀ r∈BO.unk x,B7j r)∧(BO.unk x).length*48≤reachBytes:=bc
 obtain⟨W2,ah⟩:∃ W2,Hid (W2=(w.alloc (.cells #[.slice a0 n0 c0,.slice a1 n1 c1] 29)).alloc (.cells #[.slice none 0 0,.slice none 0 0] 29)):=⟨_,rfl⟩
 have hb2:Below w.heap.size w W2:=by rw[ah.out];exact((Below.refl _ _).alloc (Nat.le_refl _) _).alloc (by simp) _
 have z2:w.heap.size+2≤W2.heap.size:=by rw[ah.out];simp
 have x1:W2.heap[w.heap.size]?=some (.cells #[.slice a0 n0 c0,.slice a1 n1 c1] 29 (0,0)):=by rw[ah.out];exact A0o _ _ _
 have x2:W2.heap[w.heap.size+1]?=some (.cells #[.slice none 0 0,.slice none 0 0] 29 (0,0)):=by rw[ah.out];exact A0j _ _ _
 have hcv:∀ V,Below W2.heap.size W2 V→Calls Tryz.prog 73 #[.slice a0 n0 c0,.func (.func 32) #[] #[]] V fun e w'=>∃ (a:Option Addr) (n c:Nat) (l':List (VL (LB d))),e = .returned (.slice a n c)∧Cop (ekV (LB d)) (VL.pl (LB.pl d)) (fun w (v:VL (LB d))=>OwnV (ekB d) (OwnB W2.heap.size d) w W2.heap.size v) (VL.fp (LB.fp d)) V W2.heap.size (BO.vals x) w' (a,n,c) l':=fun V hV=>
  (D1k hV.size (hq.1.below (VAt.stays (BAt.stays d)) (BTr hb2 hV)) hl0 (enters_of Tryz.func32 (by kernel_rfl) rfl) (fun U hU a ha a1 n1 c1 a2 n2 c2 a3 n3 c3 r1 r2 r3=>ih U W2.heap.size a a1 n1 c1 a2 n2 c2 a3 n3 c3 (Nat.le_trans hV.size hU.size) r1 r2 r3 (hv a ha))).mono fun e w' ⟨⟨a,n,c⟩,l',he,hc⟩=>⟨a,n,c,l',he,hc⟩
 have ba:∀ V,Below W2.heap.size W2 V→Calls Tryz.prog 74 #[.slice a1 n1 c1,.func (.func 75) #[] #[]] V fun e w'=>∃ (a:Option Addr) (n c:Nat) (l':List (RI×PV)),e = .returned (.slice a n c)∧Cop ekR Prod.fst (fun w (r:RI×PV)=>Row ekY w W2.heap.size r.2.v r.1.bytes) (fun(_:RI×PV)=>([]:List Nat)) V W2.heap.size (BO.unk x) w' (a,n,c) l':=fun V hV=>
  (D1j hV.size (hq.2.below RAt.stays (BTr hb2 hV)) au (enters_of Tryz.func75 (by kernel_rfl) rfl) (fun U hU a ha ay ny cy hy=>(C5j (B0:=W2.heap.size) (Nat.le_trans hV.size hU.size) a hy (by have:=(hr a ha).2.2.2;unfold reachBytes at this;omega)).mono fun e w' ⟨ax,nx,cx,he,bh,hbl⟩=>⟨(a,(ax,nx,cx)),a.number,a.how,(a.bits:Int),ax,nx,cx,rfl,he,rfl,bh,fun k hk=>by simp at hk,by simp,hbl⟩)).mono fun e w' ⟨⟨a,n,c⟩,l',he,hc⟩=>⟨a,n,c,l',he,hc⟩
 have ak:∀ V,Below W2.heap.size W2 V→Below w.heap.size w V∧V.cell? ⟨w.heap.size,0,none⟩=some (.slice a0 n0 c0)∧V.cell? ⟨w.heap.size,1,none⟩=some (.slice a1 n1 c1):=fun V hV=>⟨BTr hb2 hV,A0y ((hV.block _ (by omega)).trans x1)⟩
 have aj:∀ V,Below W2.heap.size W2 V→V.heap[w.heap.size+1]?=some (.cells #[.slice none 0 0,.slice none 0 0] 29 (0,0)):=fun V hV=>(hV.block _ (by omega)).trans x2
 have hD:Below W2.heap.size W2 W2.drew:=(Below.refl _ _).drew
 have far:∀ (V:World) (i j:Nat) (x:Value),(V.setCell ⟨w.heap.size+1,i,none⟩ x).cell? ⟨w.heap.size,j,none⟩=V.cell? ⟨w.heap.size,j,none⟩:=fun V i j x=>World.cell?_setCell_far V _ _ _ (by simp)
 have aw:∀ V,Below W2.heap.size W2 V→∀ y0 y1:Value,Below w.heap.size w ((V.setCell ⟨w.heap.size+1,0,none⟩ y0).setCell ⟨w.heap.size+1,1,none⟩ y1)∧((V.setCell ⟨w.heap.size+1,0,none⟩ y0).setCell ⟨w.heap.size+1,1,none⟩ y1).cell? ⟨w.heap.size,0,none⟩=some (.slice a0 n0 c0)∧((V.setCell ⟨w.heap.size+1,0,none⟩ y0).setCell ⟨w.heap.size+1,1,none⟩ y1).cell? ⟨w.heap.size,1,none⟩=some (.slice a1 n1 c1):=fun V hV y0 y1=>by
  simp only[far]
  exact⟨A2w (A2w (BTr hb2 hV) (by omega)) (by omega),(ak V hV).2⟩
 have bp:¬ w.heap.size=w.heap.size+1:=by omega
 have bq:¬ w.heap.size+1=w.heap.size:=by omega
 clear ih hv hr hl0 au hq x1 far
 go_enter Tryz.func31,Tryz.ntmps31
 go_wp2_with fail
 rw[←ah.out]
 go_region_held3 (fun V=>Below w.heap.size w V∧V.cell? ⟨w.heap.size,0,none⟩=some (.slice a0 n0 c0)∧V.cell? ⟨w.heap.size,1,none⟩=some (.slice a1 n1 c1)) ((first|(with_reducible refine ak _ ?_;with_reducible (first|exact hD|exact hZ|exact hY))|(with_reducible refine aw _ ?_ _ _;with_reducible exact hY))) ((first|(go_at_call 73;refine(hcv _ (by with_reducible exact hD)).mono ?_;rintro e wZ ⟨aZ,nZ,cZ,lZ,rfl,ag⟩;have hZ:Below W2.heap.size W2 wZ:=BTr hD ag.below)|(go_at_call 74;refine(ba _ (by with_reducible exact hZ)).mono ?_;rintro e wY ⟨aY,nY,cY,lY,rfl,ac⟩;have hY:Below W2.heap.size W2 wY:=BTr hZ ac.below;have hx2:=aj _ hY;obtain⟨br,bt⟩:=A0y hx2;have bu:=A0b hx2 0;have bv:=A0b hx2 1)))
 have bn:W2.heap.size≤wZ.heap.size:=hZ.size
 have bk:wZ.heap.size≤wY.heap.size:=ac.below.size
 have iZ:∀ k∈own1 ((aZ,nZ,cZ):PV)++lZ.flatMap (VL.fp (LB.fp d)),W2.heap.size≤k∧k<wZ.heap.size:=fun k hk=>⟨ag.ge k hk,by
  rcases List.mem_append.1 hk with hk|hk
  ·exact(ag.row.own1 k hk).2
  ·obtain⟨s,hs,hk⟩:=List.mem_flatMap.1 hk
   exact(D8h W2.heap.size d).inB wZ s (ag.own s hs) k hk⟩
 have iY:∀ k∈own1 ((aY,nY,cY):PV),wZ.heap.size≤k∧k<wY.heap.size:=fun k hk=>⟨ac.ge k (List.mem_append_left _ hk),(ac.row.own1 k hk).2⟩
 have hf:=fr2 hx2 (x0:=.slice aZ nZ cZ) (x1:=.slice aY nY cY)
 go_wp2_with fail
 refine bodyPost_ret (v:=.agg #[.slice aZ nZ cZ,.slice aY nY cY]) (by simp[results,Tryz.results31,go_sem, *]) rfl ?_
 refine⟨(⟨lZ,lY,(aZ,nZ,cZ),(aY,nY,cY)⟩:BL (LB d)),aZ,nZ,cZ,aY,nY,cY,rfl,rfl,?_,?_,?_,?_,?_⟩
 ·show(⟨lZ.map (VL.pl (LB.pl d)),lY.map Prod.fst⟩:BO (BI d))=x
  rw[ag.map,ac.map]
  rfl
 ·refine⟨?_,fun v hv=>?_,?_,fun r hr=>?_⟩
  ·exact(((ag.row.below ac.below).set4 (by omega)).set4 (by omega)).mono (by omega)
  ·have h1:=(D8h W2.heap.size d).below (ag.own v hv) ac.below
   have h2:=(D8h W2.heap.size d).fr [w.heap.size+1] wY _ v h1 hf fun k hk hm=>by
    rw[List.mem_singleton] at hm
    have:=iZ k (List.mem_append_right _ (List.mem_flatMap.2 ⟨v,hv,hk⟩))
    omega
   exact OwnV.mono h2 (by omega) fun s hs=>OwnB.mono d hs (by omega)
  ·exact((ac.row.set4 (by omega)).set4 (by omega)).mono (by omega)
  ·have bg:Row ekY wY W2.heap.size r.2.v r.1.bytes:=ac.own r hr
   exact((bg.set4 (by omega)).set4 (by omega)).mono (by omega)
 ·intro k hk
  have hk:k∈own1 ((aZ,nZ,cZ):PV)++own1 ((aY,nY,cY):PV)++lZ.flatMap (VL.fp (LB.fp d)):=hk
  rcases List.mem_append.1 hk with hk|hk
  ·rcases List.mem_append.1 hk with hk|hk
   ·have:=iZ k (List.mem_append_left _ hk);omega
   ·have:=iY k hk;omega
  ·have:=iZ k (List.mem_append_right _ hk);omega
 ·show(own1 ((aZ,nZ,cZ):PV)++own1 ((aY,nY,cY):PV)++lZ.flatMap (VL.fp (LB.fp d))).Nodup
  have hp:(own1 ((aZ,nZ,cZ):PV)++lZ.flatMap (VL.fp (LB.fp d))++own1 ((aY,nY,cY):PV)).Perm (own1 ((aZ,nZ,cZ):PV)++own1 ((aY,nY,cY):PV)++lZ.flatMap (VL.fp (LB.fp d))):=by
   rw[List.append_assoc,List.append_assoc]
   exact List.Perm.append_left _ List.perm_append_comm
  exact hp.nodup_iff.1 (D7r ag.nd (B6n _) iZ iY (.inl (Nat.le_refl _)))
 ·exact A2w (A2w (BTr hb2 hY) (by omega)) (by omega)
theorem C0u:∀ d,B9p d
 | 0=>fun _ _ _ _ _ _ _ _ _ _ hq _=>hq.elim
 | d+1=>D3c (B8p (C0u d))
theorem C2k (d:Nat):B5h d:=B8p (C0u d)
open Go.RowKit Go.WideMaps Go.Maps
def A0q (l:List FI)(x:FI)(n:Int):Bool:=if x.choice≤0 then decide (n=x.number) else decide (A1d l n=x.choice)
def PredK (fn:Nat)(cap:Array Value)(K:List Nat)(W:World)(p:Int→Bool):Prop:=
 ∀ V,W.heap.size≤V.heap.size→(∀ k∈K,V.heap[k]?=W.heap[k]?)→∀ n,I64 n→∀ (a1:Option Addr) (n1 c1:Nat) (a2:Option Addr) (n2 c2:Nat) (a3:Option Addr) (n3 c3:Nat),
  Calls Tryz.prog fn (#[.agg #[.int .i64 n,.slice a1 n1 c1,.slice a2 n2 c2,.slice a3 n3 c3]]++cap) V fun e w'=>e = .returned (.bool (p n))∧Below V.heap.size V w'
theorem C5g {w:World}{c:Nat}{x:FI}(hc:w.heap[c]?=some (.cells #[.string (S x.name),.int .i64 x.number,.int .i64 x.kind,.string (S x.type),.bool x.many,.int .i64 x.choice] 40 (0,0)))(n:Int)(a1:Option Addr)(n1 c1:Nat)(a2:Option Addr)(n2 c2:Nat)(a3:Option Addr)(n3 c3:Nat) :
  Calls Tryz.prog 142 #[.agg #[.int .i64 n,.slice a1 n1 c1,.slice a2 n2 c2,.slice a3 n3 c3],.pointer (some ⟨c,0,none⟩)] w fun e w'=>e = .returned (.bool (decide (n=x.number)))∧Below w.heap.size w w':=by
 have c1':w.cell? ⟨c,1,none⟩=some (.int .i64 x.number):=A0a hc 1 _ rfl
 have ag:c<w.heap.size:=(Array.getElem?_eq_some_iff.1 hc).1
 have ac:=(Below.refl w.heap.size w).alloc (Nat.le_refl _) (.cells #[.int .i64 n,.slice a1 n1 c1,.slice a2 n2 c2,.slice a3 n3 c3] 62)
 obtain⟨q,Hq⟩:∃ q,Hid (q=decide (n=x.number)):=⟨_,rfl⟩
 have hq:(n==x.number)=q:=by rw[Hq.out,Bool.eq_iff_iff];simp
 rw[←Hq.out]
 go_enter Tryz.func142,Tryz.ntmps142
 go_wp2
 go_ret
 exact⟨rfl,ac⟩
theorem C5h {w:World}{c cm b N:Nat}{D:DataW Unit}{l:List FI}{x:FI}(hm:w.heap[cm]?=some (.cells #[.map (some b)] 206 (0,0)))(ho:OwnM w b N D)(hch:ChD D l)(hc:w.heap[c]?=some (.cells #[.string (S x.name),.int .i64 x.number,.int .i64 x.kind,.string (S x.type),.bool x.many,.int .i64 x.choice] 40 (0,0)))(n:Int)(hn:I64 n)(a1:Option Addr)(n1 c1:Nat)(a2:Option Addr)(n2 c2:Nat)(a3:Option Addr)(n3 c3:Nat) :
  Calls Tryz.prog 144 #[.agg #[.int .i64 n,.slice a1 n1 c1,.slice a2 n2 c2,.slice a3 n3 c3],.pointer (some ⟨cm,0,none⟩),.pointer (some ⟨c,0,none⟩)] w fun e w'=>e = .returned (.bool (decide (A1d l n=x.choice)))∧Below w.heap.size w w':=by
 have c5:w.cell? ⟨c,5,none⟩=some (.int .i64 x.choice):=A0a hc 5 _ rfl
 have ag:c<w.heap.size:=(Array.getElem?_eq_some_iff.1 hc).1
 have m0:w.cell? ⟨cm,0,none⟩=some (.map (some b)):=A0a hm 0 _ rfl
 have ah:cm<w.heap.size:=(Array.getElem?_eq_some_iff.1 hm).1
 have ac:=(Below.refl w.heap.size w).alloc (Nat.le_refl _) (.cells #[.int .i64 n,.slice a1 n1 c1,.slice a2 n2 c2,.slice a3 n3 c3] 62)
 have hkey:keyOf Tryz.prog 3 (.int .i64 n)=some (.int .i64 n):=keyOf_int_mk Tryz.underlying3 (WalkArith.wf_i64 hn)
 obtain⟨z,hrun,hat,_⟩:=(ho.below ac).lookup_int C7z Tryz.underlying206 Tryz.underlying3 (D8c _) hkey
 have hz:=hch.get hat
 obtain⟨q,Hq⟩:∃ q,Hid (q=decide (A1d l n=x.choice)):=⟨_,rfl⟩
 have hq:(z==x.choice)=q:=by rw[Hq.out,hz,Bool.eq_iff_iff];simp
 rw[←Hq.out]
 clear hz hat hkey ho hch
 go_enter Tryz.func144,Tryz.ntmps144
 go_wp2
 go_ret
 exact⟨rfl,ac⟩
theorem C5i {nm vf vb:Value}{l:List FI}{w:World}(h:RdL 6 FAt w vf l)(ba:∃ ao n cap,vb = .slice ao n cap)(au:∃ s:List UInt8,nm = .string (S s))(aj:∀ f∈l,I64 f.number∧I64 f.choice)(hl:l.length≤140737488355328)(x:FI) :
  Calls Tryz.prog 69 #[.agg #[nm,vf,vb],vFI x] w fun e w'=>∃ fn cap K,e = .returned (.func (.func fn) #[] cap)∧(∀ (args:Array Value) (w:World),(callFunc fn args).run Tryz.prog w = .ok (.enter fn args) w)∧(∀ k∈K,w.heap.size≤k∧k<w'.heap.size)∧PredK fn cap K w' (A0q l x)∧Below w.heap.size w w':=by
 obtain⟨ao,n,cap,rfl,Hn,ak⟩:=h.shape
 obtain⟨ae,ne,ce,rfl⟩:=ba
 obtain⟨s,rfl⟩:=au
 have bc:=A4j
 obtain⟨W2,ac⟩:∃ W2,Hid (W2=(w.alloc (.cells #[.string (S s),.slice ao n cap,.slice ae ne ce] 38)).alloc (.cells #[.string (S x.name),.int .i64 x.number,.int .i64 x.kind,.string (S x.type),.bool x.many,.int .i64 x.choice] 40)):=⟨_,rfl⟩
 have hb2:Below w.heap.size w W2:=by rw[ac.out];exact((Below.refl _ _).alloc (Nat.le_refl _) _).alloc (by simp) _
 have z2:w.heap.size+2≤W2.heap.size:=by rw[ac.out];simp
 have x2:W2.heap[w.heap.size+1]?=some (.cells #[.string (S x.name),.int .i64 x.number,.int .i64 x.kind,.string (S x.type),.bool x.many,.int .i64 x.choice] 40 (0,0)):=by rw[ac.out];exact A0j _ _ _
 by_cases hx:x.choice≤0
 ·have HP:Hid (∀ n,A0q l x n=decide (n=x.number)):=fun n=>by unfold A0q;rw[if_pos hx]
  unfold vFI
  clear aj hl h
  go_enter Tryz.func69,Tryz.ntmps69
  go_wp2
  go_ret
  rw[←ac.out]
  refine⟨_,_,[w.heap.size+1],rfl,enters_of Tryz.func142 (by kernel_rfl) rfl,fun k hk=>by rw[List.mem_singleton] at hk;omega,?_,hb2⟩
  intro V hV hK n hn a1 n1 c1 a2 n2 c2 a3 n3 c3
  rw[HP.out n]
  exact C5g ((hK _ (by simp)).trans x2) n a1 n1 c1 a2 n2 c2 a3 n3 c3
 ·have HP:Hid (∀ n,A0q l x n=decide (A1d l n=x.choice)):=fun n=>by unfold A0q;rw[if_neg hx]
  have hc:=B5m (h.below FAt.stays hb2) ⟨ae,ne,ce,rfl⟩ ⟨s,rfl⟩ aj hl
  unfold vFI
  clear aj hl h
  go_enter Tryz.func69,Tryz.ntmps69
  go_wp2_with fail
  rw[←ac.out]
  refine hc.mono ?_
  rintro e w1 ⟨b,D,rfl,hb,hown,hch,ah⟩
  obtain⟨W4,ag⟩:∃ W4,Hid (W4=w1.alloc (.cells #[.map (some b)] 206)):=⟨_,rfl⟩
  have hb4:Below w1.heap.size w1 W4:=by rw[ag.out];exact(Below.refl _ _).alloc (Nat.le_refl _) _
  have z4:w1.heap.size+1≤W4.heap.size:=by rw[ag.out];simp
  have x4:W4.heap[w1.heap.size]?=some (.cells #[.map (some b)] 206 (0,0)):=by rw[ag.out];exact heap_alloc_new _ _
  have y2:=((BTr ah hb4).block _ (by omega)).trans x2
  have hz1:=ah.size
  have hbl:=hown.lt
  have aw:=hown.below hb4
  clear hc hown
  go_wp2
  go_ret
  rw[←ag.out]
  refine⟨_,_,[w1.heap.size,w.heap.size+1,b],rfl,enters_of Tryz.func144 (by kernel_rfl) rfl,fun k hk=>?_,?_,BTr hb2 (BTr ah hb4)⟩
  ·simp only[List.mem_cons,List.mem_nil_iff,or_false] at hk
   rcases hk with rfl|rfl|rfl <;> omega
  ·intro V hV hK n hn a1 n1 c1 a2 n2 c2 a3 n3 c3
   rw[HP.out n]
   exact C5h ((hK _ (by simp)).trans x4) (aw.block (hK _ (by simp))) hch ((hK _ (by simp)).trans y2) n hn a1 n1 c1 a2 n2 c2 a3 n3 c3
theorem PredK.at {fn:Nat}{cap:Array Value}{K:List Nat}{W V:World}{p:Int→Bool}(h:PredK fn cap K W p)(hs:W.heap.size≤V.heap.size)(hK:∀ k∈K,V.heap[k]?=W.heap[k]?):PredK fn cap K V p:=
 fun U hU hk=>h U (Nat.le_trans hs hU) fun k hm=>(hk k hm).trans (hK k hm)
theorem D2a {β:Type}{P:World→Addr→β→Prop}(hP:A5g P){v:Value}{l:List (VI β)}{w:World}{fn:Nat}{ag:Array Value}{K:List Nat}{p:Int→Bool}(h:RdL 4 (VAt P) w v l)
  (aj:∀ (args:Array Value) (w:World),(callFunc fn args).run Tryz.prog w = .ok (.enter fn args) w) (hp:PredK fn ag K w p) (hK:∀ k∈K,k<w.heap.size) (hI:∀ a∈l,I64 a.number) :
  Calls Tryz.prog 79 #[v,.func (.func fn) #[] ag] w fun e w'=>e = .returned (.int .i64 (A0k (fun v=>p v.number) l))∧Below w.heap.size w w':=by
 obtain⟨ao,n,cap,rfl,Hn,ah⟩:=h.shape
 go_enter Tryz.func79,Tryz.ntmps79
 go_wp2_with fail
 go_loopg [8] n (fun m i wr=>∃ k:Nat,k+m=n∧i = .int .i64 k∧Hid (∀ a∈l.take k,p a.number=false)∧Below w.heap.size w wr)
 case atStart=>exact⟨0,by omega,rfl,by show ∀ a∈_,_;simp,Below.refl _ _⟩
 case round=>
  obtain⟨k,hk,rfl,HK,hb⟩:=hrel
  by_cases hlt:k<n
  ·obtain⟨a,Ha⟩:∃ a,Hid (l[k]?=some a):=⟨l[k]'(by rw[←Hn.out];exact hlt),List.getElem?_eq_getElem (by rw[←Hn.out];exact hlt)⟩
   obtain⟨b,off,rfl,hat⟩:=(h.below (VAt.stays hP) hb).get VAt.plain Ha.out
   obtain⟨v1,v2,v3,s0,s1,s2,s3,r1,r2,r3⟩:=hat.at
   obtain⟨a1,n1,c1,rfl,_,_⟩:=r1.shape
   obtain⟨a2,n2,c2,rfl,_,_⟩:=r2.shape
   obtain⟨a3,n3,c3,rfl,_,_⟩:=r3.shape
   have ak:(k:Int)<(n:Int):=by omega
   have ac:=hp wr hb.size (fun k hk=>hb.block k (hK k hk)) a.number (hI a (A3u Ha.out)) a1 n1 c1 a2 n2 c2 a3 n3 c3
   cases hq:p a.number with
   | true=>
    have HF:Hid (A0k (fun v:VI β=>p v.number) l=(k:Int)):=A7o Ha.out HK.out hq
    rw[hq] at ac
    clear hq hat r1 r2 r3 hp hI
    go_wp2_with fail
    refine ac.mono ?_
    rintro e w1 ⟨rfl,hb1⟩
    go_wp2
    go_ret
    exact⟨by rw[HF.out];rfl,hb.trans (hb1.mono hb.size)⟩
   | false=>
    have HX:Hid (∀ a∈l.take (k+1),p a.number=false):=by
     show ∀ a∈_,_
     rw[A0z Ha.out]
     intro y hy
     rcases List.mem_append.1 hy with hy|hy
     ·exact HK.out y hy
     ·rw[List.mem_singleton] at hy;rw[hy];exact hq
    rw[hq] at ac
    clear hq hat r1 r2 r3 hp hI
    go_wp2_with fail
    refine ac.mono ?_
    rintro e w1 ⟨rfl,hb1⟩
    go_wp2_with fail
    go_roundg (n-(k+1))
    case measure=>omega
    case rel=>exact⟨k+1,by omega,by go_num,HX,hb.trans (hb1.mono hb.size)⟩
  ·have HF:Hid (A0k (fun v:VI β=>p v.number) l = -1):=by
    have:=HK.out
    rw[List.take_of_length_le (by rw[←Hn.out];omega)] at this
    exact A4m this
   go_wp2
   go_ret
   exact⟨by rw[HF.out];rfl,hb⟩
end L
end Go.Proofs.YtgaoojpakjjdnaaGreatDoor
