import Derived.Test.YtgaoojpakjjdnaaGreatDoorX11
import Derived.Laws.IdiomCopy
import Derived.Lib.SliceRun
set_option maxHeartbeats 32000000
set_option maxRecDepth 100000
set_option linter.unusedVariables false
namespace Go.Proofs.YtgaoojpakjjdnaaGreatDoor
namespace L
open Go.RowKit
theorem E0n {a b:List Nat}{la ha lb hb:Nat}(na:a.Nodup)(nb:b.Nodup)(ia:∀ k∈a,la≤k∧k<ha)(ib:∀ k∈b,lb≤k∧k<hb)(ac:ha≤lb∨hb≤la):(a++b).Nodup:=by
 refine List.nodup_append.2 ⟨na,nb,fun x hx y hy e=>?_⟩
 subst e
 have:=ia x hx;have:=ib x hy
 omega
theorem fr2 {w:World}{g:Nat}{cs:Array Value}{x0 x1:Value}(h:w.heap[g]?=some (.cells cs 29 (0,0))):FrB [g] w ((w.setCell ⟨g,0,none⟩ x0).setCell ⟨g,1,none⟩ x1):=
 A1x (A1d h (by decide)) (A1d (heap_setCell_same _ _ 0 _ _ x0 h) (by decide))
theorem D5d {d:Nat}(ih:B5n d):C0j (d+1):=by
 intro w B0 a0 n0 c0 a1 n1 c1 x hB hq bg
 have hq:BRd d w (.slice a0 n0 c0) (.slice a1 n1 c1) x:=hq
 obtain⟨hv,hl0,hr,au⟩:(∀ v∈BO.vals x,VOk (BOk d) v)∧(BO.vals x).length*80≤reachBytes∧(∀ r∈BO.unk x,B7r r)∧(BO.unk x).length*48≤reachBytes:=bg
 obtain⟨W2,ah⟩:∃ W2,Hid (W2=(w.alloc (.cells #[.slice a0 n0 c0,.slice a1 n1 c1] 29)).alloc (.cells #[.slice none 0 0,.slice none 0 0] 29)):=⟨_,rfl⟩
 have hb2:Below w.heap.size w W2:=by rw[ah.out];exact((Below.refl _ _).alloc (Nat.le_refl _) _).alloc (by simp) _
 have z2:w.heap.size+2≤W2.heap.size:=by rw[ah.out];simp
 have x1:W2.heap[w.heap.size]?=some (.cells #[.slice a0 n0 c0,.slice a1 n1 c1] 29 (0,0)):=by rw[ah.out];exact A0l _ _ _
 have x2:W2.heap[w.heap.size+1]?=some (.cells #[.slice none 0 0,.slice none 0 0] 29 (0,0)):=by rw[ah.out];exact A0i _ _ _
 have hcv:∀ V,Below W2.heap.size W2 V→Calls Tryz.prog 73 #[.slice a0 n0 c0,.func (.func 32) #[] #[]] V fun e w'=>∃ (a:Option Addr) (n c:Nat) (l':List (VL (LB d))),e = .returned (.slice a n c)∧Cop (ekV (LB d)) (VL.pl (LB.pl d)) (fun w (v:VL (LB d))=>OwnV (ekB d) (OwnB W2.heap.size d) w W2.heap.size v) (VL.fp (LB.fp d)) V W2.heap.size (BO.vals x) w' (a,n,c) l':=fun V hV=>
  (D3k hV.size (hq.1.below (VAt.stays (BAt.stays d)) (BTr hb2 hV)) hl0 (enters_of Tryz.func32 (by kernel_rfl) rfl) (fun U hU a ha a1 n1 c1 a2 n2 c2 a3 n3 c3 r1 r2 r3=>ih U W2.heap.size a a1 n1 c1 a2 n2 c2 a3 n3 c3 (Nat.le_trans hV.size hU.size) r1 r2 r3 (hv a ha))).mono fun e w' ⟨⟨a,n,c⟩,l',he,hc⟩=>⟨a,n,c,l',he,hc⟩
 have a8:∀ V,Below W2.heap.size W2 V→Calls Tryz.prog 74 #[.slice a1 n1 c1,.func (.func 75) #[] #[]] V fun e w'=>∃ (a:Option Addr) (n c:Nat) (l':List (RI×PV)),e = .returned (.slice a n c)∧Cop ekR Prod.fst (fun w (r:RI×PV)=>Row ekY w W2.heap.size r.2.v r.1.bytes) (fun(_:RI×PV)=>([]:List Nat)) V W2.heap.size (BO.unk x) w' (a,n,c) l':=fun V hV=>
  (D3j hV.size (hq.2.below RAt.stays (BTr hb2 hV)) au (enters_of Tryz.func75 (by kernel_rfl) rfl) (fun U hU a ha ay ny cy hy=>(C6m (B0:=W2.heap.size) (Nat.le_trans hV.size hU.size) a hy (by have:=(hr a ha).2.2.2;unfold reachBytes at this;omega)).mono fun e w' ⟨ax,nx,cx,he,bk,hbl⟩=>⟨(a,(ax,nx,cx)),a.number,a.how,(a.bits:Int),ax,nx,cx,rfl,he,rfl,bk,fun k hk=>by simp at hk,by simp,hbl⟩)).mono fun e w' ⟨⟨a,n,c⟩,l',he,hc⟩=>⟨a,n,c,l',he,hc⟩
 have ak:∀ V,Below W2.heap.size W2 V→Below w.heap.size w V∧V.cell? ⟨w.heap.size,0,none⟩=some (.slice a0 n0 c0)∧V.cell? ⟨w.heap.size,1,none⟩=some (.slice a1 n1 c1):=fun V hV=>⟨BTr hb2 hV,A0r ((hV.block _ (by omega)).trans x1)⟩
 have aj:∀ V,Below W2.heap.size W2 V→V.heap[w.heap.size+1]?=some (.cells #[.slice none 0 0,.slice none 0 0] 29 (0,0)):=fun V hV=>(hV.block _ (by omega)).trans x2
 have hD:Below W2.heap.size W2 W2.drew:=(Below.refl _ _).drew
 have far:∀ (V:World) (i j:Nat) (x:Value),(V.setCell ⟨w.heap.size+1,i,none⟩ x).cell? ⟨w.heap.size,j,none⟩=V.cell? ⟨w.heap.size,j,none⟩:=fun V i j x=>World.cell?_setCell_far V _ _ _ (by simp)
 have aw:∀ V,Below W2.heap.size W2 V→∀ y0 y1:Value,Below w.heap.size w ((V.setCell ⟨w.heap.size+1,0,none⟩ y0).setCell ⟨w.heap.size+1,1,none⟩ y1)∧((V.setCell ⟨w.heap.size+1,0,none⟩ y0).setCell ⟨w.heap.size+1,1,none⟩ y1).cell? ⟨w.heap.size,0,none⟩=some (.slice a0 n0 c0)∧((V.setCell ⟨w.heap.size+1,0,none⟩ y0).setCell ⟨w.heap.size+1,1,none⟩ y1).cell? ⟨w.heap.size,1,none⟩=some (.slice a1 n1 c1):=fun V hV y0 y1=>by
  simp only[far]
  exact⟨A2q (A2q (BTr hb2 hV) (by omega)) (by omega),(ak V hV).2⟩
 have br:¬ w.heap.size=w.heap.size+1:=by omega
 have bt:¬ w.heap.size+1=w.heap.size:=by omega
 clear ih hv hr hl0 au hq x1 far
 go_enter Tryz.func31,Tryz.ntmps31
 go_wp2_with fail
 rw[←ah.out]
 go_region_held3 (fun V=>Below w.heap.size w V∧V.cell? ⟨w.heap.size,0,none⟩=some (.slice a0 n0 c0)∧V.cell? ⟨w.heap.size,1,none⟩=some (.slice a1 n1 c1)) ((first|(with_reducible refine ak _ ?_;with_reducible (first|exact hD|exact hZ|exact hY))|(with_reducible refine aw _ ?_ _ _;with_reducible exact hY))) ((first|(go_at_call 73;refine(hcv _ (by with_reducible exact hD)).mono ?_;rintro e wZ ⟨aZ,nZ,cZ,lZ,rfl,ag⟩;have hZ:Below W2.heap.size W2 wZ:=BTr hD ag.below)|(go_at_call 74;refine(a8 _ (by with_reducible exact hZ)).mono ?_;rintro e wY ⟨aY,nY,cY,lY,rfl,ac⟩;have hY:Below W2.heap.size W2 wY:=BTr hZ ac.below;have hx2:=aj _ hY;obtain⟨bu,bv⟩:=A0r hx2;have bw:=A0b hx2 0;have cg:=A0b hx2 1)))
 have bq:W2.heap.size≤wZ.heap.size:=hZ.size
 have bp:wZ.heap.size≤wY.heap.size:=ac.below.size
 have iZ:∀ k∈own1 ((aZ,nZ,cZ):PV)++lZ.flatMap (VL.fp (LB.fp d)),W2.heap.size≤k∧k<wZ.heap.size:=fun k hk=>⟨ag.ge k hk,by
  rcases List.mem_append.1 hk with hk|hk
  ·exact(ag.row.own1 k hk).2
  ·obtain⟨s,hs,hk⟩:=List.mem_flatMap.1 hk
   exact(E1f W2.heap.size d).inB wZ s (ag.own s hs) k hk⟩
 have iY:∀ k∈own1 ((aY,nY,cY):PV),wZ.heap.size≤k∧k<wY.heap.size:=fun k hk=>⟨ac.ge k (List.mem_append_left _ hk),(ac.row.own1 k hk).2⟩
 have hf:=fr2 hx2 (x0:=.slice aZ nZ cZ) (x1:=.slice aY nY cY)
 go_wp2_with fail
 refine bodyPost_ret (v:=.agg #[.slice aZ nZ cZ,.slice aY nY cY]) (by simp[results,Tryz.results31,go_sem, *]) rfl ?_
 refine⟨(⟨lZ,lY,(aZ,nZ,cZ),(aY,nY,cY)⟩:BL (LB d)),aZ,nZ,cZ,aY,nY,cY,rfl,rfl,?_,?_,?_,?_,?_⟩
 ·show(⟨lZ.map (VL.pl (LB.pl d)),lY.map Prod.fst⟩:BO (BI d))=x
  rw[ag.map,ac.map]
  rfl
 ·refine⟨?_,fun v hv=>?_,?_,fun r hr=>?_⟩
  ·exact(((ag.row.below ac.below).set4 (by omega)).set4 (by omega)).mono (by omega)
  ·have h1:=(E1f W2.heap.size d).below (ag.own v hv) ac.below
   have h2:=(E1f W2.heap.size d).fr [w.heap.size+1] wY _ v h1 hf fun k hk hm=>by
    rw[List.mem_singleton] at hm
    have:=iZ k (List.mem_append_right _ (List.mem_flatMap.2 ⟨v,hv,hk⟩))
    omega
   exact OwnV.mono h2 (by omega) fun s hs=>OwnB.mono d hs (by omega)
  ·exact((ac.row.set4 (by omega)).set4 (by omega)).mono (by omega)
  ·have bh:Row ekY wY W2.heap.size r.2.v r.1.bytes:=ac.own r hr
   exact((bh.set4 (by omega)).set4 (by omega)).mono (by omega)
 ·intro k hk
  have hk:k∈own1 ((aZ,nZ,cZ):PV)++own1 ((aY,nY,cY):PV)++lZ.flatMap (VL.fp (LB.fp d)):=hk
  rcases List.mem_append.1 hk with hk|hk
  ·rcases List.mem_append.1 hk with hk|hk
   ·have:=iZ k (List.mem_append_left _ hk);omega
   ·have:=iY k hk;omega
  ·have:=iZ k (List.mem_append_right _ hk);omega
 ·show(own1 ((aZ,nZ,cZ):PV)++own1 ((aY,nY,cY):PV)++lZ.flatMap (VL.fp (LB.fp d))).Nodup
  have hp:(own1 ((aZ,nZ,cZ):PV)++lZ.flatMap (VL.fp (LB.fp d))++own1 ((aY,nY,cY):PV)).Perm (own1 ((aZ,nZ,cZ):PV)++own1 ((aY,nY,cY):PV)++lZ.flatMap (VL.fp (LB.fp d))):=by
   rw[List.append_assoc,List.append_assoc]
   exact List.Perm.append_left _ List.perm_append_comm
  exact hp.nodup_iff.1 (E0n ag.nd (B6u _) iZ iY (.inl (Nat.le_refl _)))
 ·exact A2q (A2q (BTr hb2 hY) (by omega)) (by omega)
theorem C1p:∀ d,C0j d
 | 0=>fun _ _ _ _ _ _ _ _ _ _ hq _=>hq.elim
 | d+1=>D5d (B9g (C1p d))
theorem C3i (d:Nat):B5n d:=B9g (C1p d)
open Go.RowKit Go.WideMaps Go.Maps
def A0m (l:List FI)(x:FI)(n:Int):Bool:=if x.choice≤0 then decide (n=x.number) else decide (A1u l n=x.choice)
def PredK (fn:Nat)(cap:Array Value)(K:List Nat)(W:World)(p:Int→Bool):Prop:=
 ∀ V,W.heap.size≤V.heap.size→(∀ k∈K,V.heap[k]?=W.heap[k]?)→∀ n,I64 n→∀ (a1:Option Addr) (n1 c1:Nat) (a2:Option Addr) (n2 c2:Nat) (a3:Option Addr) (n3 c3:Nat),
  Calls Tryz.prog fn (#[.agg #[.int .i64 n,.slice a1 n1 c1,.slice a2 n2 c2,.slice a3 n3 c3]]++cap) V fun e w'=>e = .returned (.bool (p n))∧Below V.heap.size V w'
theorem C6j {w:World}{c:Nat}{x:FI}(hc:w.heap[c]?=some (.cells #[.string (S x.name),.int .i64 x.number,.int .i64 x.kind,.string (S x.type),.bool x.many,.int .i64 x.choice] 40 (0,0)))(n:Int)(a1:Option Addr)(n1 c1:Nat)(a2:Option Addr)(n2 c2:Nat)(a3:Option Addr)(n3 c3:Nat) :
  Calls Tryz.prog 142 #[.agg #[.int .i64 n,.slice a1 n1 c1,.slice a2 n2 c2,.slice a3 n3 c3],.pointer (some ⟨c,0,none⟩)] w fun e w'=>e = .returned (.bool (decide (n=x.number)))∧Below w.heap.size w w':=by
 have c1':w.cell? ⟨c,1,none⟩=some (.int .i64 x.number):=A0a hc 1 _ rfl
 have ag:c<w.heap.size:=(Array.getElem?_eq_some_iff.1 hc).1
 have ac:=(Below.refl w.heap.size w).alloc (Nat.le_refl _) (.cells #[.int .i64 n,.slice a1 n1 c1,.slice a2 n2 c2,.slice a3 n3 c3] 62)
 obtain⟨q,Hq⟩:∃ q,Hid (q=decide (n=x.number)):=⟨_,rfl⟩
 have hq:(n==x.number)=q:=by rw[Hq.out,Bool.eq_iff_iff];simp
 rw[←Hq.out]
 go_enter Tryz.func142,Tryz.ntmps142
 go_wp2
 go_ret
 exact⟨rfl,ac⟩
theorem C6k {w:World}{c cm b N:Nat}{D:DataW Unit}{l:List FI}{x:FI}(hm:w.heap[cm]?=some (.cells #[.map (some b)] 206 (0,0)))(ho:OwnM w b N D)(hch:ChD D l)(hc:w.heap[c]?=some (.cells #[.string (S x.name),.int .i64 x.number,.int .i64 x.kind,.string (S x.type),.bool x.many,.int .i64 x.choice] 40 (0,0)))(n:Int)(hn:I64 n)(a1:Option Addr)(n1 c1:Nat)(a2:Option Addr)(n2 c2:Nat)(a3:Option Addr)(n3 c3:Nat) :
  Calls Tryz.prog 144 #[.agg #[.int .i64 n,.slice a1 n1 c1,.slice a2 n2 c2,.slice a3 n3 c3],.pointer (some ⟨cm,0,none⟩),.pointer (some ⟨c,0,none⟩)] w fun e w'=>e = .returned (.bool (decide (A1u l n=x.choice)))∧Below w.heap.size w w':=by
 have c5:w.cell? ⟨c,5,none⟩=some (.int .i64 x.choice):=A0a hc 5 _ rfl
 have ag:c<w.heap.size:=(Array.getElem?_eq_some_iff.1 hc).1
 have m0:w.cell? ⟨cm,0,none⟩=some (.map (some b)):=A0a hm 0 _ rfl
 have ah:cm<w.heap.size:=(Array.getElem?_eq_some_iff.1 hm).1
 have ac:=(Below.refl w.heap.size w).alloc (Nat.le_refl _) (.cells #[.int .i64 n,.slice a1 n1 c1,.slice a2 n2 c2,.slice a3 n3 c3] 62)
 have hkey:keyOf Tryz.prog 3 (.int .i64 n)=some (.int .i64 n):=keyOf_int_mk Tryz.underlying3 (WalkArith.wf_i64 hn)
 obtain⟨z,hrun,hat,_⟩:=(ho.below ac).lookup_int C9m Tryz.underlying206 Tryz.underlying3 (E0z _) hkey
 have hz:=hch.get hat
 obtain⟨q,Hq⟩:∃ q,Hid (q=decide (A1u l n=x.choice)):=⟨_,rfl⟩
 have hq:(z==x.choice)=q:=by rw[Hq.out,hz,Bool.eq_iff_iff];simp
 rw[←Hq.out]
 clear hz hat hkey ho hch
 go_enter Tryz.func144,Tryz.ntmps144
 go_wp2
 go_ret
 exact⟨rfl,ac⟩
theorem C6l {nm vf vb:Value}{l:List FI}{w:World}(h:RdL 6 FAt w vf l)(a8:∃ ao n cap,vb = .slice ao n cap)(au:∃ s:List UInt8,nm = .string (S s))(aj:∀ f∈l,I64 f.number∧I64 f.choice)(hl:l.length≤140737488355328)(x:FI) :
  Calls Tryz.prog 69 #[.agg #[nm,vf,vb],vFI x] w fun e w'=>∃ fn cap K,e = .returned (.func (.func fn) #[] cap)∧(∀ (args:Array Value) (w:World),(callFunc fn args).run Tryz.prog w = .ok (.enter fn args) w)∧(∀ k∈K,w.heap.size≤k∧k<w'.heap.size)∧PredK fn cap K w' (A0m l x)∧Below w.heap.size w w':=by
 obtain⟨ao,n,cap,rfl,Hn,ak⟩:=h.shape
 obtain⟨ae,ne,ce,rfl⟩:=a8
 obtain⟨s,rfl⟩:=au
 have bg:=A4s
 obtain⟨W2,ac⟩:∃ W2,Hid (W2=(w.alloc (.cells #[.string (S s),.slice ao n cap,.slice ae ne ce] 38)).alloc (.cells #[.string (S x.name),.int .i64 x.number,.int .i64 x.kind,.string (S x.type),.bool x.many,.int .i64 x.choice] 40)):=⟨_,rfl⟩
 have hb2:Below w.heap.size w W2:=by rw[ac.out];exact((Below.refl _ _).alloc (Nat.le_refl _) _).alloc (by simp) _
 have z2:w.heap.size+2≤W2.heap.size:=by rw[ac.out];simp
 have x2:W2.heap[w.heap.size+1]?=some (.cells #[.string (S x.name),.int .i64 x.number,.int .i64 x.kind,.string (S x.type),.bool x.many,.int .i64 x.choice] 40 (0,0)):=by rw[ac.out];exact A0i _ _ _
 by_cases hx:x.choice≤0
 ·have HP:Hid (∀ n,A0m l x n=decide (n=x.number)):=fun n=>by unfold A0m;rw[if_pos hx]
  unfold vFI
  clear aj hl h
  go_enter Tryz.func69,Tryz.ntmps69
  go_wp2
  go_ret
  rw[←ac.out]
  refine⟨_,_,[w.heap.size+1],rfl,enters_of Tryz.func142 (by kernel_rfl) rfl,fun k hk=>by rw[List.mem_singleton] at hk;omega,?_,hb2⟩
  intro V hV hK n hn a1 n1 c1 a2 n2 c2 a3 n3 c3
  rw[HP.out n]
  exact C6j ((hK _ (by simp)).trans x2) n a1 n1 c1 a2 n2 c2 a3 n3 c3
 ·have HP:Hid (∀ n,A0m l x n=decide (A1u l n=x.choice)):=fun n=>by unfold A0m;rw[if_neg hx]
  have hc:=B5w (h.below FAt.stays hb2) ⟨ae,ne,ce,rfl⟩ ⟨s,rfl⟩ aj hl
  unfold vFI
  clear aj hl h
  go_enter Tryz.func69,Tryz.ntmps69
  go_wp2_with fail
  rw[←ac.out]
  refine hc.mono ?_
  rintro e w1 ⟨b,D,rfl,hb,hown,hch,ah⟩
  obtain⟨W4,ag⟩:∃ W4,Hid (W4=w1.alloc (.cells #[.map (some b)] 206)):=⟨_,rfl⟩
  have hb4:Below w1.heap.size w1 W4:=by rw[ag.out];exact(Below.refl _ _).alloc (Nat.le_refl _) _
  have z4:w1.heap.size+1≤W4.heap.size:=by rw[ag.out];simp
  have x4:W4.heap[w1.heap.size]?=some (.cells #[.map (some b)] 206 (0,0)):=by rw[ag.out];exact heap_alloc_new _ _
  have y2:=((BTr ah hb4).block _ (by omega)).trans x2
  have hz1:=ah.size
  have hbl:=hown.lt
  have aw:=hown.below hb4
  clear hc hown
  go_wp2
  go_ret
  rw[←ag.out]
  refine⟨_,_,[w1.heap.size,w.heap.size+1,b],rfl,enters_of Tryz.func144 (by kernel_rfl) rfl,fun k hk=>?_,?_,BTr hb2 (BTr ah hb4)⟩
  ·simp only[List.mem_cons,List.mem_nil_iff,or_false] at hk
   rcases hk with rfl|rfl|rfl <;> omega
  ·intro V hV hK n hn a1 n1 c1 a2 n2 c2 a3 n3 c3
   rw[HP.out n]
   exact C6k ((hK _ (by simp)).trans x4) (aw.block (hK _ (by simp))) hch ((hK _ (by simp)).trans y2) n hn a1 n1 c1 a2 n2 c2 a3 n3 c3
theorem PredK.at {fn:Nat}{cap:Array Value}{K:List Nat}{W V:World}{p:Int→Bool}(h:PredK fn cap K W p)(hs:W.heap.size≤V.heap.size)(hK:∀ k∈K,V.heap[k]?=W.heap[k]?):PredK fn cap K V p:=
 fun U hU hk=>h U (Nat.le_trans hs hU) fun k hm=>(hk k hm).trans (hK k hm)
theorem D4c {β:Type}{P:World→Addr→β→Prop}(hP:A4p P){v:Value}{l:List (VI β)}{w:World}{fn:Nat}{ag:Array Value}{K:List Nat}{p:Int→Bool}(h:RdL 4 (VAt P) w v l)
  (aj:∀ (args:Array Value) (w:World),(callFunc fn args).run Tryz.prog w = .ok (.enter fn args) w) (hp:PredK fn ag K w p) (hK:∀ k∈K,k<w.heap.size) (hI:∀ a∈l,I64 a.number) :
  Calls Tryz.prog 79 #[v,.func (.func fn) #[] ag] w fun e w'=>e = .returned (.int .i64 (A0g (fun v=>p v.number) l))∧Below w.heap.size w w':=by
 obtain⟨ao,n,cap,rfl,Hn,ah⟩:=h.shape
 go_enter Tryz.func79,Tryz.ntmps79
 go_wp2_with fail
 go_loopg [8] n (fun m i wr=>∃ k:Nat,k+m=n∧i = .int .i64 k∧Hid (∀ a∈l.take k,p a.number=false)∧Below w.heap.size w wr)
 case atStart=>exact⟨0,by omega,rfl,by show ∀ a∈_,_;simp,Below.refl _ _⟩
 case round=>
  obtain⟨k,hk,rfl,HK,hb⟩:=hrel
  by_cases hlt:k<n
  ·obtain⟨a,Ha⟩:∃ a,Hid (l[k]?=some a):=⟨l[k]'(by rw[←Hn.out];exact hlt),List.getElem?_eq_getElem (by rw[←Hn.out];exact hlt)⟩
   obtain⟨b,off,rfl,hat⟩:=(h.below (VAt.stays hP) hb).get VAt.plain Ha.out
   obtain⟨v1,v2,v3,s0,s1,s2,s3,r1,r2,r3⟩:=hat.at
   obtain⟨a1,n1,c1,rfl,_,_⟩:=r1.shape
   obtain⟨a2,n2,c2,rfl,_,_⟩:=r2.shape
   obtain⟨a3,n3,c3,rfl,_,_⟩:=r3.shape
   have ak:(k:Int)<(n:Int):=by omega
   have ac:=hp wr hb.size (fun k hk=>hb.block k (hK k hk)) a.number (hI a (A3z Ha.out)) a1 n1 c1 a2 n2 c2 a3 n3 c3
   cases hq:p a.number with
   | true=>
    have HF:Hid (A0g (fun v:VI β=>p v.number) l=(k:Int)):=A8b Ha.out HK.out hq
    rw[hq] at ac
    clear hq hat r1 r2 r3 hp hI
    go_wp2_with fail
    refine ac.mono ?_
    rintro e w1 ⟨rfl,hb1⟩
    go_wp2
    go_ret
    exact⟨by rw[HF.out];rfl,hb.trans (hb1.mono hb.size)⟩
   | false=>
    have HX:Hid (∀ a∈l.take (k+1),p a.number=false):=by
     show ∀ a∈_,_
     rw[A0y Ha.out]
     intro y hy
     rcases List.mem_append.1 hy with hy|hy
     ·exact HK.out y hy
     ·rw[List.mem_singleton] at hy;rw[hy];exact hq
    rw[hq] at ac
    clear hq hat r1 r2 r3 hp hI
    go_wp2_with fail
    refine ac.mono ?_
    rintro e w1 ⟨rfl,hb1⟩
    go_wp2_with fail
    go_roundg (n-(k+1))
    case measure=>omega
    case rel=>exact⟨k+1,by omega,by go_num,HX,hb.trans (hb1.mono hb.size)⟩
  ·have HF:Hid (A0g (fun v:VI β=>p v.number) l = -1):=by
    have:=HK.out
    rw[List.take_of_length_le (by rw[←Hn.out];omega)] at this
    exact A4x this
   go_wp2
   go_ret
   exact⟨by rw[HF.out];rfl,hb⟩
theorem B2g {w:World}{g i:Nat}{cs:Array Value}{t:TypeId}{fr:Nat×Nat}{u:Value}(h:w.heap[g]?=some (.cells cs t fr))(hc:w.cell? ⟨g,i,none⟩=some u):cs[i]?=some u:=by
 simpa [World.cell?,h] using hc
section
variable {α:Type}{E:EK α}{w w':World}{base g n cap:Nat}{l:List α}
theorem Row.cur (h:Row E w base (.slice (some ⟨g,0,none⟩) n cap) l):l.length=n∧base≤g∧n≤cap∧cap≤maxLen∧∃ cur,w.heap[g]?=some (.cells cur E.elem (0,0))∧cur.size=cap*E.size:=by
 rcases h.2 with⟨hv,_⟩|⟨g',cap',cur,hv,hb,hg,h1,h2,h3,_⟩
 ·cases hv
 ·cases hv;exact⟨rfl,hb,h1,h2,cur,hg,h3⟩
theorem Row.cells (h:Row E w base (.slice (some ⟨g,0,none⟩) n cap) l){k:Nat}{y : α}(hy:l[k]?=some y){j:Nat}{u:Value}(hu:(E.enc y)[j]?=some u):w.cell? ⟨g,k*E.size+j,none⟩=some u:=by
 have hj:j<E.size:=by have:=(List.getElem?_eq_some_iff.1 hu).1;rw[E.len] at this;exact this
 have:=World.ownsRow.cells h (g:=g) rfl (k*E.size+j) u (by rw[E.flat_at l k j y hy hj];exact hu)
 simpa [A0d] using this
theorem Row.of_cells {cur:Array Value}(hb:base≤g)(hg:w.heap[g]?=some (.cells cur E.elem (0,0)))(hsz:cur.size=cap*E.size)(hn:l.length=n)(h1:n≤cap)(h2:cap≤maxLen)(hc:∀ k y,l[k]?=some y→∀ j u,(E.enc y)[j]?=some u→w.cell? ⟨g,k*E.size+j,none⟩=some u):Row E w base (.slice (some ⟨g,0,none⟩) n cap) l:=by
 subst hn
 refine⟨E.flat_len l,.inr ⟨g,cap,cur,rfl,hb,hg,h1,h2,hsz,?_⟩⟩
 apply List.ext_getElem?
 intro i
 by_cases hi:i<l.length*E.size
 ·rw[List.getElem?_take,if_pos hi]
  have hk:i / E.size<l.length:=by rw[Nat.div_lt_iff_lt_mul E.pos];exact hi
  have hj:=Nat.mod_lt i E.pos
  have e:i / E.size*E.size+i%E.size=i:=by rw[Nat.mul_comm];exact Nat.div_add_mod i E.size
  have h3:=E.flat_at l (i / E.size) (i%E.size) _ (List.getElem?_eq_getElem hk) hj
  rw[e] at h3
  obtain⟨u,hu⟩:∃ u,(E.enc (l[i / E.size]'hk))[i%E.size]?=some u:=⟨(E.enc (l[i / E.size]'hk))[i%E.size]'(by rw[E.len];exact hj),List.getElem?_eq_getElem _⟩
  rw[h3,hu]
  have h4:=hc _ _ (List.getElem?_eq_getElem hk) _ _ hu
  rw[e] at h4
  rw[Array.getElem?_toList]
  exact B2g hg h4
 ·rw[List.getElem?_take,if_neg hi,List.getElem?_eq_none (by rw[E.flat_len];omega)]
end
section
variable {β:Type}{w:World}{base g n cap:Nat}{l:List (VL β)}
theorem Row.setV (h:Row (ekV β) w base (.slice (some ⟨g,0,none⟩) n cap) l){i:Nat}{a:VL β}{x0 x1 x2 x3:Value}(he:(ekV β).enc a = [x0,x1,x2,x3])(hi:i<n) :
  Row (ekV β) ((((w.setCell ⟨g,i*4,none⟩ x0).setCell ⟨g,i*4+1,none⟩ x1).setCell ⟨g,i*4+2,none⟩ x2).setCell ⟨g,i*4+3,none⟩ x3) base (.slice (some ⟨g,0,none⟩) n cap) (l.set i a):=by
 obtain⟨hl,hb,h1,h2,cur,hg,hsz⟩:=h.cur
 have hs:∀ (V:World) (c:Array Value) (j:Nat) (v:Value),V.heap[g]?=some (.cells c (ekV β).elem (0,0))→(V.setCell ⟨g,j,none⟩ v).heap[g]?=some (.cells (c.setIfInBounds j v) (ekV β).elem (0,0)):=fun V c j v hh=>heap_setCell_same V g j c _ v hh
 have e4:(ekV β).size=4:=rfl
 have hg4:=hs _ _ (i*4+3) x3 (hs _ _ (i*4+2) x2 (hs _ _ (i*4+1) x1 (hs _ _ (i*4) x0 hg)))
 have hsz':i*4+3<cur.size:=by rw[hsz,e4];omega
 refine Row.of_cells hb hg4 (by simp[hsz]) (by rw[List.length_set];exact hl) h1 h2 fun k y hy j u hu=>?_
 rw[e4]
 have hj:j<4:=by have:=(List.getElem?_eq_some_iff.1 hu).1;rw[(ekV β).len] at this;exact this
 refine A0a hg4 _ _ ?_
 by_cases hk:k=i
 ·subst hk
  rw[List.getElem?_set_self (by omega)] at hy
  cases hy
  rw[he] at hu
  match j,hj,hu with
  | 0,_,hu=>simp at hu;subst hu;rw[Array.getElem?_setIfInBounds_ne (by omega),Array.getElem?_setIfInBounds_ne (by omega),Array.getElem?_setIfInBounds_ne (by omega)];exact Array.getElem?_setIfInBounds_self_of_lt (by omega)
  | 1,_,hu=>simp at hu;subst hu;rw[Array.getElem?_setIfInBounds_ne (by omega),Array.getElem?_setIfInBounds_ne (by omega),Array.getElem?_setIfInBounds_self_of_lt (by simp;omega)]
  | 2,_,hu=>simp at hu;subst hu;rw[Array.getElem?_setIfInBounds_ne (by omega),Array.getElem?_setIfInBounds_self_of_lt (by simp;omega)]
  | 3,_,hu=>simp at hu;subst hu;rw[Array.getElem?_setIfInBounds_self_of_lt (by simp;omega)]
 ·rw[List.getElem?_set_ne (fun e=>hk e.symm)] at hy
  have:=h.cells hy hu
  rw[e4] at this
  have:=B2g hg this
  rw[Array.getElem?_setIfInBounds_ne (by omega),Array.getElem?_setIfInBounds_ne (by omega),Array.getElem?_setIfInBounds_ne (by omega),Array.getElem?_setIfInBounds_ne (by omega)]
  exact this
end
section
variable {α:Type}{E:EK α}{w:World}{base g n cap:Nat}{l:List α}
theorem A2j {g:Nat}{t:TypeId}:∀ (vs:List Value) (o:Nat) (w:World) (cs:Array Value),w.heap[g]?=some (.cells cs t (0,0))→∃ cs',(w.setCells g o vs).heap[g]?=some (.cells cs' t (0,0))∧cs'.size=cs.size
 | [],_,_,cs,h=>⟨cs,h,rfl⟩
 | v::r,o,w,cs,h=>by
  obtain⟨cs',h1,h2⟩:=A2j r (o+1) (w.setCell ⟨g,o,none⟩ v) _ (heap_setCell_same w g o cs t v h)
  exact⟨cs',h1,by simpa using h2⟩
theorem Row.cut (h:Row E w base (.slice (some ⟨g,0,none⟩) n cap) l){m o:Nat}(hm:m≤n)(vs:List Value)(ho:m*E.size≤o):Row E (w.setCells g o vs) base (.slice (some ⟨g,0,none⟩) m cap) (l.take m):=by
 obtain⟨hl,hb,h1,h2,cur,hg,hsz⟩:=h.cur
 obtain⟨cs',h3,h4⟩:=A2j vs o w cur hg
 refine Row.of_cells hb h3 (by rw[h4,hsz]) (by rw[List.length_take];omega) (by omega) h2 fun k y hy j u hu=>?_
 have hk:k<m:=by have:=(List.getElem?_eq_some_iff.1 hy).1;rw[List.length_take] at this;omega
 rw[List.getElem?_take,if_pos hk] at hy
 have hj:j<E.size:=by have:=(List.getElem?_eq_some_iff.1 hu).1;rw[E.len] at this;exact this
 rw[World.cell?_setCells_out]
 ·exact h.cells hy hu
 ·intro _ _
  left
  show k*E.size+j<o
  have:(k+1)*E.size≤m*E.size:=Nat.mul_le_mul_right _ hk
  rw[Nat.succ_mul] at this
  omega
end
theorem C6x {w:World}{g o n c:Nat}(hn:0<n)(hc:∀ j,j<n*4→(w.cell? ⟨g,o+j,none⟩).isSome=true)(hf:∀ j,j<n*4→w.frozen? ⟨g,o+j,none⟩=false) :
  ∃ vs:List Value,∀ ty,(Builtin.clear_ #[26] ty #[.slice (some ⟨g,o,none⟩) n c]).run Tryz.prog w = .ok (.tuple #[]) (w.setCells g o vs):=by
 have hz:∀ w,(zeroValue 62).run Tryz.prog w = .ok (.agg #[.int .i64 0,.slice none 0 0,.slice none 0 0,.slice none 0 0]) w:=fun w=>by kernel_rfl
 refine⟨(Builtin.zeroCells (Value.agg #[.int .i64 0,.slice none 0 0,.slice none 0 0,.slice none 0 0]).cells n).toList,fun ty=>?_⟩
 have hlen:(Builtin.zeroCells (Value.agg #[.int .i64 0,.slice none 0 0,.slice none 0 0,.slice none 0 0]).cells n).toList.length=n*4:=by
  simp[Builtin.zeroCells,Value.cells]
 have ac:∀ v∈(Builtin.zeroCells (Value.agg #[.int .i64 0,.slice none 0 0,.slice none 0 0,.slice none 0 0]).cells n).toList,v.oneCell'=true:=by
  intro v hv
  simp[Builtin.zeroCells,Value.cells] at hv
  obtain⟨i,_,rfl⟩:=hv
  rcases (by omega:i%4=0∨i%4=1∨i%4=2∨i%4=3) with h|h|h|h <;> rw[h] <;> rfl
 have hst:=run_storeCells_cells (P:=Tryz.prog) g o _ 0 w (by rw[hlen];simpa using hc) (by rw[hlen];simpa using hf) ac
 simp only[Nat.add_zero] at hst
 obtain⟨m,rfl⟩:∃ m,n=m+1:=⟨n-1,by omega⟩
 simp[Builtin.clear_,run_underlying Tryz.underlying26,hz,hst]
theorem FrB.setCells {g o:Nat}{t:TypeId}:∀ (vs:List Value) (o:Nat){w V:World}{cs:Array Value},FrB [g] w V→V.heap[g]?=some (.cells cs t (0,0))→t≠5→FrB [g] w (V.setCells g o vs)
 | [],_,_,_,_,h,_,_=>h
 | v::r,o,_,V,cs,h,hg,ht=>FrB.setCells (o:=o) r (o+1) (A1x h (A1d (i:=o) (x:=v) hg ht)) (heap_setCell_same V g o cs t v hg) ht
theorem E1u {w:World}{g i:Nat}{cs:Array Value}{x0 x1 x2 x3:Value}(h:w.heap[g]?=some (.cells cs 62 (0,0))):FrB [g] w ((((w.setCell ⟨g,i,none⟩ x0).setCell ⟨g,i+1,none⟩ x1).setCell ⟨g,i+2,none⟩ x2).setCell ⟨g,i+3,none⟩ x3):=by
 have h1:=heap_setCell_same _ _ i _ _ x0 h
 have h2:=heap_setCell_same _ _ (i+1) _ _ x1 h1
 have h3:=heap_setCell_same _ _ (i+2) _ _ x2 h2
 exact A1x (A1x (A1x (A1d h (by decide)) (A1d h1 (by decide))) (A1d h2 (by decide))) (A1d h3 (by decide))
structure Kept {α:Type}(q : α→Bool) (l:List α) (k m:Nat) (l':List α):Prop where
 lt:m<k
 le:k≤l.length
 len:l'.length=l.length
 front:l'.take m=(l.take k).filter q
 rest:l'.drop k=l.drop k
theorem Kept.at {α:Type}{q : α→Bool}{l l':List α}{k m:Nat}(h:Kept q l k m l'):l'[k]?=l[k]?:=by
 have:=congrArg (·[0]?) h.rest
 simpa using this
theorem Kept.skip {α:Type}{q : α→Bool}{l l':List α}{k m:Nat}{a : α}(h:Kept q l k m l')(ha:l[k]?=some a)(hq:q a=false):Kept q l (k+1) m l':=by
 refine⟨by have:=h.lt;omega,(List.getElem?_eq_some_iff.1 ha).1,h.len,?_,?_⟩
 ·rw[A0y ha,List.filter_append,h.front];simp[hq]
 ·have:=congrArg (List.drop 1) h.rest
  simpa [List.drop_drop] using this
theorem Kept.keep {α:Type}{q : α→Bool}{l l':List α}{k m:Nat}{a : α}(h:Kept q l k m l')(ha:l[k]?=some a)(hq:q a=true):Kept q l (k+1) (m+1) (l'.set m a):=by
 have hlt:=h.lt
 have hk:=(List.getElem?_eq_some_iff.1 ha).1
 have hl:=h.len
 refine⟨by omega,hk,by rw[List.length_set];exact hl,?_,?_⟩
 ·have e:(l'.set m a)[m]?=some a:=List.getElem?_set_self (by omega)
  rw[A0y e,List.take_set_of_le (Nat.le_refl _),h.front,A0y ha,List.filter_append]
  simp[hq]
 ·rw[List.drop_set_of_lt (by omega)]
  have:=congrArg (List.drop 1) h.rest
  simpa [List.drop_drop] using this
theorem Kept.start {α:Type}{q : α→Bool}{l:List α}{k:Nat}{a : α}(ha:l[k]?=some a)(hq:q a=false)(h:∀ b∈l.take k,q b=true):Kept q l (k+1) k l:=by
 refine⟨by omega,(List.getElem?_eq_some_iff.1 ha).1,rfl,?_,rfl⟩
 rw[A0y ha,List.filter_append,List.filter_eq_self.2 h]
 simp[hq]
def E2i (d:Nat)(w:World)(B0:Nat)(l:List (VI (BI d)))(x:Int)(e:Ending)(w':World):Prop:=
 ((∀ v∈l,decide (v.number=x)=false)∧e = .returned (.tuple #[.agg #[.int .i64 0,.slice none 0 0,.slice none 0 0,.slice none 0 0],.bool false]))∨
 ∃ (k:Nat) (v:VI (BI d)),A0g (fun v:VI (BI d)=>decide (v.number=x)) l=(k:Int)∧l[k]?=some v∧v.number=x∧
  ∃ (y:VL (LB d)) (q0:Int) (x1:Option Addr) (y1 z1:Nat) (x2:Option Addr) (y2 z2:Nat) (x3:Option Addr) (y3 z3:Nat),(ekV (LB d)).enc y = [.int .i64 q0,.slice x1 y1 z1,.slice x2 y2 z2,.slice x3 y3 z3]∧e = .returned (.tuple #[.agg #[.int .i64 q0,.slice x1 y1 z1,.slice x2 y2 z2,.slice x3 y3 z3],.bool true])∧VL.pl (LB.pl d) y=v∧OwnV (ekB d) (OwnB B0 d) w' B0 y∧(∀ k∈VL.fp (LB.fp d) y,w.heap.size≤k)∧(VL.fp (LB.fp d) y).Nodup
theorem B2p {α:Type}{p : α→Bool}{l:List α}(h:l.findIdx? p=none):∀ v∈l,p v=false:=by
 rw[List.findIdx?_eq_none_iff] at h
 exact h
theorem A8s {α:Type}{p : α→Bool}{l:List α}{k:Nat}(h:l.findIdx? p=some k):∃ a,l[k]?=some a∧p a=true:=by
 rw[List.findIdx?_eq_some_iff_getElem] at h
 obtain⟨hk,hp,_⟩:=h
 exact⟨_,List.getElem?_eq_getElem hk,hp⟩
theorem B6e {d:Nat}{w:World}{B0:Nat}{v0 v1:Value}{b:BO (BI d)}(hB:B0≤w.heap.size)(h:BRd d w v0 v1 b)(ak:∀ v∈b.vals,VOk (BOk d) v)(x:Int) :
  Calls Tryz.prog 18 #[.agg #[v0,v1],.int .i64 x] w fun e w'=>E2i d w B0 b.vals x e w'∧Below w.heap.size w w':=by
 obtain⟨a0,n0,c0,rfl,Hn,bh⟩:=h.1.shape
 obtain⟨a1,n1,c1,rfl,_,_⟩:=h.2.shape
 obtain⟨W2,ac⟩:∃ W2,Hid (W2=(w.alloc (.cells #[.slice a0 n0 c0,.slice a1 n1 c1] 29)).alloc (.cells #[.int .i64 0,.slice none 0 0,.slice none 0 0,.slice none 0 0] 62)):=⟨_,rfl⟩
 have hb2:Below w.heap.size w W2:=by rw[ac.out];exact((Below.refl _ _).alloc (Nat.le_refl _) _).alloc (by simp) _
 have z2:w.heap.size+2≤W2.heap.size:=by rw[ac.out];simp
 have x1:W2.heap[w.heap.size]?=some (.cells #[.slice a0 n0 c0,.slice a1 n1 c1] 29 (0,0)):=by rw[ac.out];exact A0l _ _ _
 have x2:W2.heap[w.heap.size+1]?=some (.cells #[.int .i64 0,.slice none 0 0,.slice none 0 0,.slice none 0 0] 62 (0,0)):=by rw[ac.out];exact A0i _ _ _
 have hi:=B3q (BAt.stays d) (h.1.below (VAt.stays (BAt.stays d)) hb2) ⟨a1,n1,c1,rfl⟩ x
 cases hp:b.vals.findIdx? (fun v=>decide (v.number=x)) with
 | none=>
  have e1:A0g (fun v:VI (BI d)=>decide (v.number=x)) b.vals = -1:=by unfold A0g;rw[hp]
  have HP:Hid (∀ v∈b.vals,decide (v.number=x)=false):=B2p hp
  rw[e1] at hi
  clear hp e1 ak
  go_enter Tryz.func18,Tryz.ntmps18
  go_wp2_with fail
  rw[←ac.out]
  refine hi.mono ?_
  rintro e w1 ⟨rfl,hb1⟩
  have y2:=(hb1.block _ (by omega)).trans x2
  have s0:=A0a y2 0 _ rfl
  have s1:=A0a y2 1 _ rfl
  have s2:=A0a y2 2 _ rfl
  have s3:=A0a y2 3 _ rfl
  have f0:=A0b y2 0
  have f1:=A0b y2 1
  have f2:=A0b y2 2
  have f3:=A0b y2 3
  go_wp2_with fail
  refine bodyPost_ret (v:=.tuple #[.agg #[.int .i64 0,.slice none 0 0,.slice none 0 0,.slice none 0 0],.bool false]) (by simp[results,Tryz.results18,go_sem, *]) rfl ?_
  exact⟨.inl ⟨HP.out,rfl⟩,A2q (A2q (A2q (A2q (BTr hb2 hb1) (by omega)) (by omega)) (by omega)) (by omega)⟩
 | some k=>
  have e1:A0g (fun v:VI (BI d)=>decide (v.number=x)) b.vals=(k:Int):=by unfold A0g;rw[hp]
  obtain⟨v,Hv,hx⟩:=A8s hp
  have HX:Hid (v.number=x):=(show v.number=x from of_decide_eq_true hx)
  have HF:Hid (A0g (fun v:VI (BI d)=>decide (v.number=x)) b.vals=(k:Int)):=e1
  have HV:Hid (b.vals[k]?=some v):=Hv
  have bq:(k:Int)<(n0:Int):=by have:=(List.getElem?_eq_some_iff.1 Hv).1;have:=Hn.out;omega
  have bp:¬ (k:Int)<0:=by omega
  have ag:=ak v (List.mem_of_getElem? Hv)
  rw[e1] at hi
  clear hp e1 ak hx Hv
  go_enter Tryz.func18,Tryz.ntmps18
  go_wp2_with fail
  rw[←ac.out]
  refine hi.mono ?_
  rintro e w1 ⟨rfl,hb1⟩
  have aw:=BTr hb2 hb1
  have hz1:=hb1.size
  obtain⟨b0,off,rfl,hat⟩:=(h.1.below (VAt.stays (BAt.stays d)) aw).get VAt.plain HV.out
  obtain⟨u1,u2,u3,s0,s1,s2,s3,r1,r2,r3⟩:=hat.at
  obtain⟨a4,n4,c4,rfl,_,_⟩:=r1.shape
  obtain⟨a2,n2,c2,rfl,_,_⟩:=r2.shape
  obtain⟨a3,n3,c3,rfl,_,_⟩:=r3.shape
  obtain⟨t0,t1⟩:=A0r ((hb1.block _ (by omega)).trans x1)
  have hc:=C3i d w1 B0 v a4 n4 c4 a2 n2 c2 a3 n3 c3 (by omega) r1 r2 r3 ag
  have y2:=(hb1.block _ (by omega)).trans x2
  clear hat r1 r2 r3 ag h x1 x2 hi
  go_wp2_with fail
  refine hc.mono ?_
  rintro e w2 ⟨y,q0,x1,y1,z1,x2,ah,aj,x3,y3,z3,HE,rfl,hpl,bg,a8,bk,hb3⟩
  have HE:Hid ((ekV (LB d)).enc y = [.int .i64 q0,.slice x1 y1 z1,.slice x2 ah aj,.slice x3 y3 z3]):=HE
  have g2:=(hb3.block _ (by omega)).trans y2
  have br:=A0a g2 0 _ rfl
  have bt:=A0a g2 1 _ rfl
  have bu:=A0a g2 2 _ rfl
  have bv:=A0a g2 3 _ rfl
  have f0:=A0b g2 0
  have f1:=A0b g2 1
  have f2:=A0b g2 2
  have f3:=A0b g2 3
  have hf:=fr4 g2 (x0:=.int .i64 q0) (x1:=.slice x1 y1 z1) (x2:=.slice x2 ah aj) (x3:=.slice x3 y3 z3)
  have au:=OwnV.fr (OwnB.fr d) bg hf fun k hk hm=>by
   rw[List.mem_singleton] at hm
   have:=a8 k hk
   omega
  clear bg hf hc
  go_wp2_with fail
  refine bodyPost_ret (v:=.tuple #[.agg #[.int .i64 q0,.slice x1 y1 z1,.slice x2 ah aj,.slice x3 y3 z3],.bool true]) (by simp[results,Tryz.results18,go_sem, *]) rfl ?_
  exact⟨.inr ⟨k,v,HF.out,HV.out,HX.out,y,q0,x1,y1,z1,x2,ah,aj,x3,y3,z3,HE.out,rfl,hpl,au,fun k hk=>by have:=a8 k hk;omega,bk⟩,A2q (A2q (A2q (A2q (BTr aw hb3) (by omega)) (by omega)) (by omega)) (by omega)⟩
end L
end Go.Proofs.YtgaoojpakjjdnaaGreatDoor
