import Derived.Test.YtelmjekjohbmjaaGreatDoorY13
import Derived.Test.YtelmjekjohbmjaaGreatDoorY10
import Derived.Test.YtelmjekjohbmjaaGreatDoorY11
namespace Go.Proofs.YtelmjekjohbmjaaGreatDoor
namespace L
open Go.RowKit
theorem C1j {a b:List Nat}{la ha lb hb:Nat}(na:a.Nodup) (nb:b.Nodup) (ia:∀ k∈a,la≤k∧k < ha) (ib:∀ k∈b,lb≤k∧k < hb) (dab:ha≤lb∨hb≤la):(a++b).Nodup:=by
 refine List.nodup_append.2 ⟨na,nb,fun x hx y hy e=>?_⟩
 subst e
 have:=ia x hx;have:=ib x hy
 omega
theorem fr2 {w:World}{g:Nat}{cs:Array Value}{x0 x1:Value}(h:w.heap[g]?=some (.cells cs 29 (0,0))):FrB [g] w ((w.setCell ⟨g,0,none⟩ x0).setCell ⟨g,1,none⟩ x1):=
 A1v (A1b h (by decide)) (A1b (heap_setCell_same _ _ 0 _ _ x0 h) (by decide))
set_option maxHeartbeats 4000000 in
set_option maxRecDepth 100000 in
theorem B9g {d:Nat}(ih:A8t d):B0x (d+1):=by
 intro w B0 a0 n0 c0 a1 n1 c1 x hB hq hok
 have hq:BRd d w (.slice a0 n0 c0) (.slice a1 n1 c1) x:=hq
 obtain⟨hv,hl0,hr,hl1⟩:(∀ v∈BO.vals x,VOk (BOk d) v)∧(BO.vals x).length*80≤reachBytes∧(∀ r∈BO.unk x,B2w r)∧(BO.unk x).length*48≤reachBytes:=hok
 obtain⟨W2,HW2⟩:∃ W2,Hid (W2=(w.alloc (.cells #[.slice a0 n0 c0,.slice a1 n1 c1] 29)).alloc (.cells #[.slice none 0 0,.slice none 0 0] 29)):=⟨_,rfl⟩
 have hb2:Below w.heap.size w W2:=by rw[HW2.out];exact((Below.refl _ _).alloc (Nat.le_refl _) _).alloc (by simp) _
 have z2:w.heap.size+2≤W2.heap.size:=by rw[HW2.out];simp
 have x1:W2.heap[w.heap.size]?=some (.cells #[.slice a0 n0 c0,.slice a1 n1 c1] 29 (0,0)):=by rw[HW2.out];exact A0r _ _ _
 have x2:W2.heap[w.heap.size+1]?=some (.cells #[.slice none 0 0,.slice none 0 0] 29 (0,0)):=by rw[HW2.out];exact A0o _ _ _
 have hcv:∀ V,Below W2.heap.size W2 V→Calls Tryz.prog 29 #[.slice a0 n0 c0,.func (.func 30) #[] #[]] V fun e w'=>∃ (a:Option Addr) (n c:Nat) (l':List (VL (LB d))),e = .returned (.slice a n c)∧Cop (ekV (LB d)) (VL.pl (LB.pl d)) (fun w (v:VL (LB d))=>OwnV (ekB d) (OwnB W2.heap.size d) w W2.heap.size v) (VL.fp (LB.fp d)) V W2.heap.size (BO.vals x) w' (a,n,c) l':=fun V hV=>
  (B8h hV.size (hq.1.below (VAt.stays (BAt.stays d)) (BTr hb2 hV)) hl0 (enters_of Tryz.func30 (by kernel_rfl) rfl) (fun U hU a ha a1 n1 c1 a2 n2 c2 a3 n3 c3 r1 r2 r3=>ih U W2.heap.size a a1 n1 c1 a2 n2 c2 a3 n3 c3 (Nat.le_trans hV.size hU.size) r1 r2 r3 (hv a ha))).mono fun e w' ⟨⟨a,n,c⟩,l',he,hc⟩=>⟨a,n,c,l',he,hc⟩
 have hcr:∀ V,Below W2.heap.size W2 V→Calls Tryz.prog 31 #[.slice a1 n1 c1,.func (.func 32) #[] #[]] V fun e w'=>∃ (a:Option Addr) (n c:Nat) (l':List (RI×PV)),e = .returned (.slice a n c)∧Cop ekR Prod.fst (fun w (r:RI×PV)=>Row ekY w W2.heap.size r.2.v r.1.bytes) (fun(_:RI×PV)=>([]:List Nat)) V W2.heap.size (BO.unk x) w' (a,n,c) l':=fun V hV=>
  (B8g hV.size (hq.2.below RAt.stays (BTr hb2 hV)) hl1 (enters_of Tryz.func32 (by kernel_rfl) rfl) (fun U hU a ha ay ny cy hy=>(B4h (B0:=W2.heap.size) (Nat.le_trans hV.size hU.size) a hy (by have:=(hr a ha).2.2.2;unfold reachBytes at this;omega)).mono fun e w' ⟨ax,nx,cx,he,hrw,hbl⟩=>⟨(a,(ax,nx,cx)),a.number,a.how,(a.bits:Int),ax,nx,cx,rfl,he,rfl,hrw,fun k hk=>by simp at hk,by simp,hbl⟩)).mono fun e w' ⟨⟨a,n,c⟩,l',he,hc⟩=>⟨a,n,c,l',he,hc⟩
 have hcl:∀ V,Below W2.heap.size W2 V→Below w.heap.size w V∧V.cell? ⟨w.heap.size,0,none⟩=some (.slice a0 n0 c0)∧V.cell? ⟨w.heap.size,1,none⟩=some (.slice a1 n1 c1):=fun V hV=>⟨BTr hb2 hV,A0x ((hV.block _ (by omega)).trans x1)⟩
 have hcl2:∀ V,Below W2.heap.size W2 V→V.heap[w.heap.size+1]?=some (.cells #[.slice none 0 0,.slice none 0 0] 29 (0,0)):=fun V hV=>(hV.block _ (by omega)).trans x2
 have hD:Below W2.heap.size W2 W2.drew:=(Below.refl _ _).drew
 have far:∀ (V:World) (i j:Nat) (x:Value),(V.setCell ⟨w.heap.size+1,i,none⟩ x).cell? ⟨w.heap.size,j,none⟩=V.cell? ⟨w.heap.size,j,none⟩:=fun V i j x=>World.cell?_setCell_far V _ _ _ (by simp)
 have hS2:∀ V,Below W2.heap.size W2 V→∀ y0 y1:Value,Below w.heap.size w ((V.setCell ⟨w.heap.size+1,0,none⟩ y0).setCell ⟨w.heap.size+1,1,none⟩ y1)∧((V.setCell ⟨w.heap.size+1,0,none⟩ y0).setCell ⟨w.heap.size+1,1,none⟩ y1).cell? ⟨w.heap.size,0,none⟩=some (.slice a0 n0 c0)∧((V.setCell ⟨w.heap.size+1,0,none⟩ y0).setCell ⟨w.heap.size+1,1,none⟩ y1).cell? ⟨w.heap.size,1,none⟩=some (.slice a1 n1 c1):=fun V hV y0 y1=>by
  simp only[far]
  exact⟨A0f (A0f (BTr hb2 hV) (by omega)) (by omega),(hcl V hV).2⟩
 have ne1:¬ w.heap.size=w.heap.size+1:=by omega
 have ne2:¬ w.heap.size+1=w.heap.size:=by omega
 clear ih hv hr hl0 hl1 hq x1 far
 go_enter Tryz.func11,Tryz.ntmps11
 go_wp2_with fail
 rw[←HW2.out]
 go_region_held3 (fun V=>Below w.heap.size w V∧V.cell? ⟨w.heap.size,0,none⟩=some (.slice a0 n0 c0)∧V.cell? ⟨w.heap.size,1,none⟩=some (.slice a1 n1 c1)) ((first|(with_reducible refine hcl _ ?_;with_reducible (first|exact hD|exact hZ|exact hY))|(with_reducible refine hS2 _ ?_ _ _;with_reducible exact hY))) ((first|(go_at_call 29;refine(hcv _ (by with_reducible exact hD)).mono ?_;rintro e wZ ⟨aZ,nZ,cZ,lZ,rfl,hcZ⟩;have hZ:Below W2.heap.size W2 wZ:=BTr hD hcZ.below)|(go_at_call 31;refine(hcr _ (by with_reducible exact hZ)).mono ?_;rintro e wY ⟨aY,nY,cY,lY,rfl,hcY⟩;have hY:Below W2.heap.size W2 wY:=BTr hZ hcY.below;have hx2:=hcl2 _ hY;obtain⟨sY0,sY1⟩:=A0x hx2;have sY2:=A0b hx2 0;have sY3:=A0b hx2 1)))
 have hzZ:W2.heap.size≤wZ.heap.size:=hZ.size
 have hzY:wZ.heap.size≤wY.heap.size:=hcY.below.size
 have iZ:∀ k∈own1 ((aZ,nZ,cZ):PV)++lZ.flatMap (VL.fp (LB.fp d)),W2.heap.size≤k∧k < wZ.heap.size:=fun k hk=>⟨hcZ.ge k hk,by
  rcases List.mem_append.1 hk with hk|hk
  ·exact(hcZ.row.own1 k hk).2
  ·obtain⟨s,hs,hk⟩:=List.mem_flatMap.1 hk
   exact(C1y W2.heap.size d).inB wZ s (hcZ.own s hs) k hk⟩
 have iY:∀ k∈own1 ((aY,nY,cY):PV),wZ.heap.size≤k∧k < wY.heap.size:=fun k hk=>⟨hcY.ge k (List.mem_append_left _ hk),(hcY.row.own1 k hk).2⟩
 have hf:=fr2 hx2 (x0:=.slice aZ nZ cZ) (x1:=.slice aY nY cY)
 go_wp2_with fail
 refine bodyPost_ret (v:=.agg #[.slice aZ nZ cZ,.slice aY nY cY]) (by simp[results,Tryz.results11,go_sem, *]) rfl ?_
 refine⟨(⟨lZ,lY,(aZ,nZ,cZ),(aY,nY,cY)⟩:BL (LB d)),aZ,nZ,cZ,aY,nY,cY,rfl,rfl,?_,?_,?_,?_,?_⟩
 ·show(⟨lZ.map (VL.pl (LB.pl d)),lY.map Prod.fst⟩:BO (BI d))=x
  rw[hcZ.map,hcY.map]
  rfl
 ·refine⟨?_,fun v hv=>?_,?_,fun r hr=>?_⟩
  ·exact(((hcZ.row.below hcY.below).set4 (by omega)).set4 (by omega)).mono (by omega)
  ·have h1:=(C1y W2.heap.size d).below (hcZ.own v hv) hcY.below
   have h2:=(C1y W2.heap.size d).fr [w.heap.size+1] wY _ v h1 hf fun k hk hm=>by
    rw[List.mem_singleton] at hm
    have:=iZ k (List.mem_append_right _ (List.mem_flatMap.2 ⟨v,hv,hk⟩))
    omega
   exact OwnV.mono h2 (by omega) fun s hs=>OwnB.mono d hs (by omega)
  ·exact((hcY.row.set4 (by omega)).set4 (by omega)).mono (by omega)
  ·have hr':Row ekY wY W2.heap.size r.2.v r.1.bytes:=hcY.own r hr
   exact((hr'.set4 (by omega)).set4 (by omega)).mono (by omega)
 ·intro k hk
  have hk:k∈own1 ((aZ,nZ,cZ):PV)++own1 ((aY,nY,cY):PV)++lZ.flatMap (VL.fp (LB.fp d)):=hk
  rcases List.mem_append.1 hk with hk|hk
  ·rcases List.mem_append.1 hk with hk|hk
   ·have:=iZ k (List.mem_append_left _ hk);omega
   ·have:=iY k hk;omega
  ·have:=iZ k (List.mem_append_right _ hk);omega
 ·show(own1 ((aZ,nZ,cZ):PV)++own1 ((aY,nY,cY):PV)++lZ.flatMap (VL.fp (LB.fp d))).Nodup
  have hp:(own1 ((aZ,nZ,cZ):PV)++lZ.flatMap (VL.fp (LB.fp d))++own1 ((aY,nY,cY):PV)).Perm (own1 ((aZ,nZ,cZ):PV)++own1 ((aY,nY,cY):PV)++lZ.flatMap (VL.fp (LB.fp d))):=by
   rw[List.append_assoc,List.append_assoc]
   exact List.Perm.append_left _ List.perm_append_comm
  exact hp.nodup_iff.1 (C1j hcZ.nd (B1s _) iZ iY (.inl (Nat.le_refl _)))
 ·exact A0f (A0f (BTr hb2 hY) (by omega)) (by omega)
theorem A7m:∀ d,B0x d
 | 0=>fun _ _ _ _ _ _ _ _ _ _ hq _=>hq.elim
 | d+1=>B9g (B0f (A7m d))
theorem B2l (d:Nat):A8t d:=B0f (A7m d)
end L
end Go.Proofs.YtelmjekjohbmjaaGreatDoor
namespace Go.Proofs.YtelmjekjohbmjaaGreatDoor
namespace L
open Go.RowKit Go.WideMaps Go.Maps
def A0m (l:List FI) (x:FI) (n:Int):Bool:=if x.choice≤0 then decide (n=x.number) else decide (A1o l n=x.choice)
def PredK (fn:Nat) (cap:Array Value) (K:List Nat) (W:World) (p:Int→Bool):Prop:=
 ∀ V,W.heap.size≤V.heap.size→(∀ k∈K,V.heap[k]?=W.heap[k]?)→∀ n,I64 n→∀ (a1:Option Addr) (n1 c1:Nat) (a2:Option Addr) (n2 c2:Nat) (a3:Option Addr) (n3 c3:Nat),
  Calls Tryz.prog fn (#[.agg #[.int .i64 n,.slice a1 n1 c1,.slice a2 n2 c2,.slice a3 n3 c3]]++cap) V fun e w'=>e = .returned (.bool (p n))∧Below V.heap.size V w'
set_option maxHeartbeats 1000000 in
set_option maxRecDepth 100000 in
theorem B4e {w:World}{c:Nat}{x:FI}(hc:w.heap[c]?=some (.cells #[.string (S x.name),.int .i64 x.number,.int .i64 x.kind,.string (S x.type),.bool x.many,.int .i64 x.choice] 53 (0,0))) (n:Int) (a1:Option Addr) (n1 c1:Nat) (a2:Option Addr) (n2 c2:Nat) (a3:Option Addr) (n3 c3:Nat) :
  Calls Tryz.prog 110 #[.agg #[.int .i64 n,.slice a1 n1 c1,.slice a2 n2 c2,.slice a3 n3 c3],.pointer (some ⟨c,0,none⟩)] w fun e w'=>e = .returned (.bool (decide (n=x.number)))∧Below w.heap.size w w':=by
 have c1':w.cell? ⟨c,1,none⟩=some (.int .i64 x.number):=A0a hc 1 _ rfl
 have hcl:c < w.heap.size:=(Array.getElem?_eq_some_iff.1 hc).1
 have hba:=(Below.refl w.heap.size w).alloc (Nat.le_refl _) (.cells #[.int .i64 n,.slice a1 n1 c1,.slice a2 n2 c2,.slice a3 n3 c3] 34)
 obtain⟨q,Hq⟩:∃ q,Hid (q=decide (n=x.number)):=⟨_,rfl⟩
 have hq:(n == x.number)=q:=by rw[Hq.out,Bool.eq_iff_iff];simp
 rw[←Hq.out]
 go_enter Tryz.func110,Tryz.ntmps110
 go_wp2
 go_ret
 exact⟨rfl,hba⟩
set_option maxHeartbeats 1000000 in
set_option maxRecDepth 100000 in
theorem B4f {w:World}{c cm b N:Nat}{D:DataW Unit}{l:List FI}{x:FI}(hm:w.heap[cm]?=some (.cells #[.map (some b)] 150 (0,0))) (ho:OwnM w b N D) (hch:ChD D l) (hc:w.heap[c]?=some (.cells #[.string (S x.name),.int .i64 x.number,.int .i64 x.kind,.string (S x.type),.bool x.many,.int .i64 x.choice] 53 (0,0))) (n:Int) (hn:I64 n) (a1:Option Addr) (n1 c1:Nat) (a2:Option Addr) (n2 c2:Nat) (a3:Option Addr) (n3 c3:Nat) :
  Calls Tryz.prog 112 #[.agg #[.int .i64 n,.slice a1 n1 c1,.slice a2 n2 c2,.slice a3 n3 c3],.pointer (some ⟨cm,0,none⟩),.pointer (some ⟨c,0,none⟩)] w fun e w'=>e = .returned (.bool (decide (A1o l n=x.choice)))∧Below w.heap.size w w':=by
 have c5:w.cell? ⟨c,5,none⟩=some (.int .i64 x.choice):=A0a hc 5 _ rfl
 have hcl:c < w.heap.size:=(Array.getElem?_eq_some_iff.1 hc).1
 have m0:w.cell? ⟨cm,0,none⟩=some (.map (some b)):=A0a hm 0 _ rfl
 have hml:cm < w.heap.size:=(Array.getElem?_eq_some_iff.1 hm).1
 have hba:=(Below.refl w.heap.size w).alloc (Nat.le_refl _) (.cells #[.int .i64 n,.slice a1 n1 c1,.slice a2 n2 c2,.slice a3 n3 c3] 34)
 have hkey:keyOf Tryz.prog 3 (.int .i64 n)=some (.int .i64 n):=keyOf_int_mk Tryz.underlying3 (WalkArith.wf_i64 hn)
 obtain⟨z,hrun,hat,_⟩:=(ho.below hba).lookup_int B6e Tryz.underlying150 Tryz.underlying3 (C1t _) hkey
 have hz:=hch.get hat
 obtain⟨q,Hq⟩:∃ q,Hid (q=decide (A1o l n=x.choice)):=⟨_,rfl⟩
 have hq:(z == x.choice)=q:=by rw[Hq.out,hz,Bool.eq_iff_iff];simp
 rw[←Hq.out]
 clear hz hat hkey ho hch
 go_enter Tryz.func112,Tryz.ntmps112
 go_wp2
 go_ret
 exact⟨rfl,hba⟩
set_option maxHeartbeats 2000000 in
set_option maxRecDepth 100000 in
theorem B4g {nm vf vb:Value}{l:List FI}{w:World}(h:RdL 6 FAt w vf l) (hvb:∃ ao n cap,vb = .slice ao n cap) (hnm:∃ s:List UInt8,nm = .string (S s)) (hok:∀ f∈l,I64 f.number∧I64 f.choice) (hl:l.length≤140737488355328) (x:FI) :
  Calls Tryz.prog 71 #[.agg #[nm,vf,vb],vFI x] w fun e w'=>∃ fn cap K,e = .returned (.func (.func fn) #[] cap)∧(∀ (args:Array Value) (w:World),(callFunc fn args).run Tryz.prog w = .ok (.enter fn args) w)∧(∀ k∈K,w.heap.size≤k∧k < w'.heap.size)∧PredK fn cap K w' (A0m l x)∧Below w.heap.size w w':=by
 obtain⟨ao,n,cap,rfl,Hn,hcap⟩:=h.shape
 obtain⟨ae,ne,ce,rfl⟩:=hvb
 obtain⟨s,rfl⟩:=hnm
 have hmf:=A2y
 obtain⟨W2,HW2⟩:∃ W2,Hid (W2=(w.alloc (.cells #[.string (S s),.slice ao n cap,.slice ae ne ce] 48)).alloc (.cells #[.string (S x.name),.int .i64 x.number,.int .i64 x.kind,.string (S x.type),.bool x.many,.int .i64 x.choice] 53)):=⟨_,rfl⟩
 have hb2:Below w.heap.size w W2:=by rw[HW2.out];exact((Below.refl _ _).alloc (Nat.le_refl _) _).alloc (by simp) _
 have z2:w.heap.size+2≤W2.heap.size:=by rw[HW2.out];simp
 have x2:W2.heap[w.heap.size+1]?=some (.cells #[.string (S x.name),.int .i64 x.number,.int .i64 x.kind,.string (S x.type),.bool x.many,.int .i64 x.choice] 53 (0,0)):=by rw[HW2.out];exact A0o _ _ _
 by_cases hx:x.choice≤0
 ·have HP:Hid (∀ n,A0m l x n=decide (n=x.number)):=fun n=>by unfold A0m;rw[if_pos hx]
  unfold vFI
  clear hok hl h
  go_enter Tryz.func71,Tryz.ntmps71
  go_wp2
  go_ret
  rw[←HW2.out]
  refine⟨_,_,[w.heap.size+1],rfl,enters_of Tryz.func110 (by kernel_rfl) rfl,fun k hk=>by rw[List.mem_singleton] at hk;omega,?_,hb2⟩
  intro V hV hK n hn a1 n1 c1 a2 n2 c2 a3 n3 c3
  rw[HP.out n]
  exact B4e ((hK _ (by simp)).trans x2) n a1 n1 c1 a2 n2 c2 a3 n3 c3
 ·have HP:Hid (∀ n,A0m l x n=decide (A1o l n=x.choice)):=fun n=>by unfold A0m;rw[if_neg hx]
  have hc:=A8x (h.below FAt.stays hb2) ⟨ae,ne,ce,rfl⟩ ⟨s,rfl⟩ hok hl
  unfold vFI
  clear hok hl h
  go_enter Tryz.func71,Tryz.ntmps71
  go_wp2_with fail
  rw[←HW2.out]
  refine hc.mono ?_
  rintro e w1 ⟨b,D,rfl,hb,hown,hch,hbw⟩
  obtain⟨W4,HW4⟩:∃ W4,Hid (W4=w1.alloc (.cells #[.map (some b)] 150)):=⟨_,rfl⟩
  have hb4:Below w1.heap.size w1 W4:=by rw[HW4.out];exact(Below.refl _ _).alloc (Nat.le_refl _) _
  have z4:w1.heap.size+1≤W4.heap.size:=by rw[HW4.out];simp
  have x4:W4.heap[w1.heap.size]?=some (.cells #[.map (some b)] 150 (0,0)):=by rw[HW4.out];exact heap_alloc_new _ _
  have y2:=((BTr hbw hb4).block _ (by omega)).trans x2
  have hz1:=hbw.size
  have hbl:=hown.lt
  have ho4:=hown.below hb4
  clear hc hown
  go_wp2
  go_ret
  rw[←HW4.out]
  refine⟨_,_,[w1.heap.size,w.heap.size+1,b],rfl,enters_of Tryz.func112 (by kernel_rfl) rfl,fun k hk=>?_,?_,BTr hb2 (BTr hbw hb4)⟩
  ·simp only[List.mem_cons,List.mem_nil_iff,or_false] at hk
   rcases hk with rfl|rfl|rfl <;> omega
  ·intro V hV hK n hn a1 n1 c1 a2 n2 c2 a3 n3 c3
   rw[HP.out n]
   exact B4f ((hK _ (by simp)).trans x4) (ho4.block (hK _ (by simp))) hch ((hK _ (by simp)).trans y2) n hn a1 n1 c1 a2 n2 c2 a3 n3 c3
end L
end Go.Proofs.YtelmjekjohbmjaaGreatDoor
namespace Go.Proofs.YtelmjekjohbmjaaGreatDoor
namespace L
open Go.RowKit
set_option maxHeartbeats 1000000 in
set_option maxRecDepth 100000 in
theorem B6t {β:Type}{w:World}{c:Nat}{x:Int}(hc:w.heap[c]?=some (.cells #[.int .i64 x] 3 (0,0))) (v:VI β) (a1:Option Addr) (n1 c1:Nat) (a2:Option Addr) (n2 c2:Nat) (a3:Option Addr) (n3 c3:Nat) :
  Calls Tryz.prog 115 #[.agg #[.int .i64 v.number,.slice a1 n1 c1,.slice a2 n2 c2,.slice a3 n3 c3],.pointer (some ⟨c,0,none⟩)] w fun e w'=>e = .returned (.bool (decide (x < v.number)))∧Below w.heap.size w w':=by
 have c0:w.cell? ⟨c,0,none⟩=some (.int .i64 x):=A0a hc 0 _ rfl
 have hcl:c < w.heap.size:=(Array.getElem?_eq_some_iff.1 hc).1
 have hba:=(Below.refl w.heap.size w).alloc (Nat.le_refl _) (.cells #[.int .i64 v.number,.slice a1 n1 c1,.slice a2 n2 c2,.slice a3 n3 c3] 34)
 obtain⟨q,Hq⟩:∃ q,Hid (q=decide (x < v.number)):=⟨_,rfl⟩
 have hq:decide (x < v.number)=q:=Hq.out.symm
 rw[←Hq.out]
 go_enter Tryz.func115,Tryz.ntmps115
 go_wp2
 go_ret
 exact⟨rfl,hba⟩
set_option maxHeartbeats 1000000 in
set_option maxRecDepth 100000 in
theorem B4k {β:Type}{P:World→Addr→β→Prop}(hP:A3p P){v:Value}{l:List (VI β)}{w:World}{c:Nat}{x:Int}(h:RdL 4 (VAt P) w v l) (hc:w.heap[c]?=some (.cells #[.int .i64 x] 3 (0,0))) :
  Calls Tryz.prog 68 #[v,.func (.func 115) #[] #[.pointer (some ⟨c,0,none⟩)]] w fun e w'=>e = .returned (.int .i64 (A0i (fun v=>decide (x < v.number)) l))∧Below w.heap.size w w':=by
 obtain⟨ao,n,cap,rfl,Hn,hcap⟩:=h.shape
 go_enter Tryz.func68,Tryz.ntmps68
 go_wp2_with fail
 go_loopg [8] n (fun m i wr=>∃ k:Nat,k+m=n∧i = .int .i64 k∧Hid (∀ a∈l.take k,decide (x < a.number)=false)∧Below w.heap.size w wr)
 case atStart=>exact⟨0,by omega,rfl,by show ∀ a∈_,_;simp,Below.refl _ _⟩
 case round=>
  obtain⟨k,hk,rfl,HK,hb⟩:=hrel
  have hcr:=(hb.block c (Array.getElem?_eq_some_iff.1 hc).1).trans hc
  by_cases hlt:k < n
  ·obtain⟨a,Ha⟩:∃ a,Hid (l[k]?=some a):=⟨l[k]'(by rw[←Hn.out];exact hlt),List.getElem?_eq_getElem (by rw[←Hn.out];exact hlt)⟩
   obtain⟨b,off,rfl,hat⟩:=(h.below (VAt.stays hP) hb).get VAt.plain Ha.out
   obtain⟨v1,v2,v3,s0,s1,s2,s3,r1,r2,r3⟩:=hat.at
   obtain⟨a1,n1,c1,rfl,_,_⟩:=r1.shape
   obtain⟨a2,n2,c2,rfl,_,_⟩:=r2.shape
   obtain⟨a3,n3,c3,rfl,_,_⟩:=r3.shape
   have hki:(k:Int) < (n:Int):=by omega
   have hcall:=B6t hcr a a1 n1 c1 a2 n2 c2 a3 n3 c3
   cases hq:decide (x < a.number) with
   | true=>
    have HF:Hid (A0i (fun v=>decide (x < v.number)) l=(k:Int)):=A2v Ha.out HK.out hq
    rw[hq] at hcall
    clear hq hat r1 r2 r3
    go_wp2_with fail
    refine hcall.mono ?_
    rintro e w1 ⟨rfl,hb1⟩
    go_wp2
    go_ret
    exact⟨by rw[HF.out];rfl,hb.trans (hb1.mono hb.size)⟩
   | false=>
    have HX:Hid (∀ a∈l.take (k+1),decide (x < a.number)=false):=by
     show ∀ a∈_,_
     rw[A0s Ha.out]
     intro y hy
     rcases List.mem_append.1 hy with hy|hy
     ·exact HK.out y hy
     ·rw[List.mem_singleton] at hy;rw[hy];exact hq
    rw[hq] at hcall
    clear hq hat r1 r2 r3
    go_wp2_with fail
    refine hcall.mono ?_
    rintro e w1 ⟨rfl,hb1⟩
    go_wp2_with fail
    go_roundg (n - (k+1))
    case measure=>omega
    case rel=>exact⟨k+1,by omega,by go_num,HX,hb.trans (hb1.mono hb.size)⟩
  ·have HF:Hid (A0i (fun v=>decide (x < v.number)) l = -1):=by
    have:=HK.out
    rw[List.take_of_length_le (by rw[←Hn.out];omega)] at this
    exact A1p this
   go_wp2
   go_ret
   exact⟨by rw[HF.out];rfl,hb⟩
def A0w {β:Type}(x:Int) (l:List (VI β)):Nat:=(l.findIdx? fun v=>decide (x < v.number)).getD l.length
set_option maxHeartbeats 1000000 in
set_option maxRecDepth 100000 in
theorem B1u {β:Type}{P:World→Addr→β→Prop}(hP:A3p P){v0:Value}{l:List (VI β)}{w:World}(h:RdL 4 (VAt P) w v0 l) (x:Int) :
  Calls Tryz.prog 74 #[.int .i64 x,v0] w fun e w'=>e = .returned (.int .i64 ((A0w x l:Nat):Int))∧Below w.heap.size w w':=by
 obtain⟨ao,n,cap,rfl,Hn,hcap⟩:=h.shape
 have hb2:Below w.heap.size w (w.alloc (.cells #[.int .i64 x] 3)):=(Below.refl _ _).alloc (Nat.le_refl _) _
 have hi:=B4k hP (h.below (VAt.stays hP) hb2) (heap_alloc_new w _)
 have hmf:=A2y
 cases hp:l.findIdx? (fun v=>decide (x < v.number)) with
 | some k=>
  have e1:A0i (fun v:VI β=>decide (x < v.number)) l=(k:Int):=by unfold A0i;rw[hp]
  have HP:Hid (A0w x l=k):=by show _=_;unfold A0w;rw[hp];rfl
  have hk:¬ (k:Int) < 0:=by omega
  rw[e1] at hi
  clear hp e1
  go_enter Tryz.func74,Tryz.ntmps74
  go_wp2_with fail
  refine hi.mono ?_
  rintro e w1 ⟨rfl,hb1⟩
  go_wp2
  go_ret
  exact⟨by rw[HP.out];rfl,hb2.trans (hb1.mono hb2.size)⟩
 | none=>
  have e1:A0i (fun v:VI β=>decide (x < v.number)) l = -1:=by unfold A0i;rw[hp]
  have HP:Hid (A0w x l=n):=by show _=_;unfold A0w;rw[hp,Hn.out];rfl
  rw[e1] at hi
  clear hp e1
  go_enter Tryz.func74,Tryz.ntmps74
  go_wp2_with fail
  refine hi.mono ?_
  rintro e w1 ⟨rfl,hb1⟩
  go_wp2
  go_ret
  exact⟨by rw[HP.out];rfl,hb2.trans (hb1.mono hb2.size)⟩
end L
end Go.Proofs.YtelmjekjohbmjaaGreatDoor
namespace Go.Proofs.YtelmjekjohbmjaaGreatDoor
namespace L
open Go.RowKit
set_option linter.unusedVariables false
def isF (n:Int) (f:FI):Bool:=decide (f.number=n)
def isN (t:List UInt8) (m:MI):Bool:=decide (m.name=t)
def isV {β:Type}(n:Int) (v:VI β):Bool:=decide (v.number=n)
def A6d {β:Type}(fs:List FI) (x:FI) (l:List (VI β)) (y:VI β):List (VI β):=
 if A0u x y then l.filter (fun a=>!A0m fs x a.number)
 else(l.filter fun a=>!A0m fs x a.number).take (A0w y.number (l.filter fun a=>!A0m fs x a.number))++[y]++(l.filter fun a=>!A0m fs x a.number).drop (A0w y.number (l.filter fun a=>!A0m fs x a.number))
def A4f {β:Type}(J:MI→β→β→β) (ms:List MI) (x:FI) (a b:VI β):VI β:=
 if x.many then⟨a.number,a.bits++b.bits,a.bytes++b.bytes,a.subs++b.subs⟩
 else if x.kind=10 then
  match ms.find? (isN x.type),a.subs,b.subs with
  | some M,s::_,t::_=>⟨a.number,a.bits,a.bytes,[J M s t]⟩
  | _,_,_=>a
 else b
def A1x {β:Type}(J:MI→β→β→β) (ms:List MI) (fs:List FI) (l:List (VI β)) (v:VI β):List (VI β):=
 match fs.find? (isF v.number) with
 | none=>l
 | some x=>
  match l.find? (isV v.number) with
  | none=>A6d fs x l v
  | some u=>A6d fs x l (A4f J ms x u v)
def jnB (ms:List MI):(d:Nat)→MI→BI d→BI d→BI d
 | 0=>fun _ a _=>a
 | d+1=>fun M a b=>(⟨(BO.vals b).foldl (A1x (jnB ms d) ms M.fields) (BO.vals a),BO.unk a++BO.unk b⟩:BO (BI d))
def ShV {β:Type}(R:MI→β→Prop) (ms:List MI) (fs:List FI) (v:VI β):Prop:=
 I64 v.number∧∃ x,fs.find? (isF v.number)=some x∧(x.many=false→x.kind=10→∃ M s,ms.find? (isN x.type)=some M∧v.subs = [s]∧R M s)
def ShB (ms:List MI):(d:Nat)→MI→BI d→Prop
 | 0=>fun _ _=>False
 | d+1=>fun M b=>∀ v∈BO.vals b,ShV (ShB ms d) ms M.fields v
def jW {β:Type}(f : β→Nat) (v:VI β):Nat:=1+v.bits.length+v.bytes.length+(v.subs.map fun s=>1+f s).sum
def jWB:(d:Nat)→BI d→Nat
 | 0=>fun _=>0
 | d+1=>fun b=>((BO.vals b).map (jW (jWB d))).sum+(BO.unk b).length
theorem A6p {fs:List FI}{n:Int}{x:FI}(h:fs.find? (isF n)=some x):x.number=n:=by
 have:=List.find?_some h
 simpa [isF] using this
theorem A7l {fs:List FI}{n:Int}{x:FI}(h:fs.find? (isF n)=some x):A0m fs x n=true:=by
 have hn:=A6p h
 unfold A0m
 split
 ·simp[hn]
 ·unfold A1o
  have:fs.find? (fun f=>decide (f.number=n))=some x:=h
  rw[this]
  simp
theorem A5z {β:Type}{J:MI→β→β→β}{ms:List MI}{x:FI}{a b:VI β}(h:a.number=b.number):(A4f J ms x a b).number=b.number:=by
 unfold A4f
 split
 ·exact h
 ·split
  ·split
   ·exact h
   ·exact h
  ·rfl
theorem A5y {β:Type}{fs:List FI}{x:FI}{l:List (VI β)}{y a:VI β}(h:a∈A6d fs x l y):a=y∨a∈l:=by
 unfold A6d at h
 split at h
 ·exact .inr (List.mem_filter.1 h).1
 ·rw[List.mem_append,List.mem_append,List.mem_singleton] at h
  rcases h with(h|h)|h
  ·exact .inr (List.mem_filter.1 (List.mem_of_mem_take h)).1
  ·exact .inl h
  ·exact .inr (List.mem_filter.1 (List.mem_of_mem_drop h)).1
theorem C1h {β:Type}{R:MI→β→Prop}{J:MI→β→β→β}(hJ:∀ M s t,R M s→R M t→R M (J M s t)){ms:List MI}{fs:List FI}{x:FI}{a b:VI β}(hn:a.number=b.number) (hx:fs.find? (isF b.number)=some x) (ha:ShV R ms fs a) (hb:ShV R ms fs b):ShV R ms fs (A4f J ms x a b):=by
 obtain⟨hia,x1,hx1,h1⟩:=ha
 obtain⟨hib,x2,hx2,h2⟩:=hb
 rw[hn,hx] at hx1
 rw[hx] at hx2
 cases hx1
 cases hx2
 refine⟨by rw[A5z hn];exact hib,x,by rw[A5z hn];exact hx,fun hm hk=>?_⟩
 obtain⟨M,s,hM,hs,hr⟩:=h1 hm hk
 obtain⟨M',t,hM',ht,hr'⟩:=h2 hm hk
 rw[hM] at hM'
 cases hM'
 refine⟨M,J M s t,hM,?_,hJ M s t hr hr'⟩
 unfold A4f
 rw[hm,if_neg (by simp),if_pos hk,hM,hs,ht]
theorem C0v {β:Type}{R:MI→β→Prop}{J:MI→β→β→β}(hJ:∀ M s t,R M s→R M t→R M (J M s t)){ms:List MI}{fs:List FI}{l:List (VI β)}{v:VI β}(hl:∀ a∈l,ShV R ms fs a) (hv:ShV R ms fs v):∀ a∈A1x J ms fs l v,ShV R ms fs a:=by
 obtain⟨hi,x,hx,_⟩:=id hv
 unfold A1x
 rw[hx]
 intro a ha
 cases hu:l.find? (isV v.number) with
 | none=>
  rw[hu] at ha
  rcases A5y ha with rfl|h
  ·exact hv
  ·exact hl a h
 | some u=>
  rw[hu] at ha
  have hun:u.number=v.number:=by have:=List.find?_some hu;simpa [isV] using this
  rcases A5y ha with rfl|h
  ·exact C1h hJ hun hx (hl u (List.mem_of_find?_eq_some hu)) hv
  ·exact hl a h
theorem B1j {β:Type}{R:MI→β→Prop}{J:MI→β→β→β}(hJ:∀ M s t,R M s→R M t→R M (J M s t)){ms:List MI}{fs:List FI}:∀ (m l:List (VI β)),(∀ a∈l,ShV R ms fs a)→(∀ a∈m,ShV R ms fs a)→∀ a∈m.foldl (A1x J ms fs) l,ShV R ms fs a
 | [],_,hl,_=>hl
 | v::m,l,hl,hm=>B1j hJ m _ (C0v hJ hl (hm v (List.mem_cons_self ..))) fun a ha=>hm a (List.mem_cons_of_mem _ ha)
theorem B6c (ms:List MI):∀ (d:Nat) (M:MI) (a b:BI d),ShB ms d M a→ShB ms d M b→ShB ms d M (jnB ms d M a b)
 | 0,_,_,_,h,_=>h
 | d+1,_,_,_,ha,hb=>B1j (fun M s t=>B6c ms d M s t) _ _ ha hb
theorem A6g {α:Type}(f : α→Nat) (p : α→Bool):∀ l:List α,((l.filter p).map f).sum≤(l.map f).sum
 | []=>Nat.le_refl _
 | a::l=>by
  have:=A6g f p l
  rw[List.filter_cons]
  split <;> simp only[List.map_cons,List.sum_cons] <;> omega
theorem B7j {α:Type}(f : α→Nat){p : α→Bool}{a : α}(hp:p a=false):∀ {l:List α},a∈l→f a+((l.filter p).map f).sum≤(l.map f).sum
 | b::l,h=>by
  rw[List.filter_cons]
  rcases List.mem_cons.1 h with rfl|h
  ·have:=A6g f p l
   rw[hp]
   simp only[Bool.false_eq_true,if_false,List.map_cons,List.sum_cons]
   omega
  ·have:=B7j f hp h
   split <;> simp only[List.map_cons,List.sum_cons] <;> omega
theorem C0w {α:Type}(f : α→Nat) (l:List α) (i:Nat) (a : α):((l.take i++[a]++l.drop i).map f).sum=f a+(l.map f).sum:=by
 have h:(l.map f).sum=((l.take i).map f).sum+((l.drop i).map f).sum:=by rw[←List.sum_append,←List.map_append,List.take_append_drop]
 simp only[List.map_append,List.sum_append,List.map_cons,List.map_nil,List.sum_cons,List.sum_nil]
 omega
theorem C1m {β:Type}(f : β→Nat) (fs:List FI) (x:FI) (l:List (VI β)) (y:VI β):((A6d fs x l y).map (jW f)).sum≤jW f y+((l.filter fun a=>!A0m fs x a.number).map (jW f)).sum:=by
 unfold A6d
 split
 ·omega
 ·rw[C0w];omega
theorem C1i {β:Type}{f : β→Nat}{J:MI→β→β→β}(hJ:∀ M s t,f (J M s t)≤f s+f t) (ms:List MI) (x:FI) (a b:VI β):jW f (A4f J ms x a b)≤jW f a+jW f b:=by
 unfold A4f
 split
 ·unfold jW
  simp only[List.length_append,List.map_append,List.sum_append]
  omega
 ·split
  ·split
   ·rename_i M s l t m h1 h2 h3
    have:=hJ M s t
    unfold jW
    rw[h2,h3]
    simp only[List.map_cons,List.sum_cons,List.map_nil,List.sum_nil]
    omega
   ·omega
  ·omega
theorem C1p {β:Type}{f : β→Nat}{J:MI→β→β→β}(hJ:∀ M s t,f (J M s t)≤f s+f t) (ms:List MI) (fs:List FI) (l:List (VI β)) (v:VI β):((A1x J ms fs l v).map (jW f)).sum≤(l.map (jW f)).sum+jW f v:=by
 unfold A1x
 split
 ·omega
 ·rename_i x hx
  split
  ·have:=C1m f fs x l v
   have:=A6g (jW f) (fun a=>!A0m fs x a.number) l
   omega
  ·rename_i u hu
   have hun:u.number=v.number:=by have:=List.find?_some hu;simpa [isV] using this
   have h1:=C1m f fs x l (A4f J ms x u v)
   have h2:=C1i hJ ms x u v
   have h3:=B7j (jW f) (p:=fun a:VI β=>!A0m fs x a.number) (a:=u) (by simp[hun,A7l hx]) (List.mem_of_find?_eq_some hu)
   omega
theorem B2i {β:Type}{f : β→Nat}{J:MI→β→β→β}(hJ:∀ M s t,f (J M s t)≤f s+f t) (ms:List MI) (fs:List FI):∀ (m l:List (VI β)),((m.foldl (A1x J ms fs) l).map (jW f)).sum≤(l.map (jW f)).sum+(m.map (jW f)).sum
 | [],_=>by simp
 | v::m,l=>by
  have h1:=B2i hJ ms fs m (A1x J ms fs l v)
  have h2:=C1p hJ ms fs l v
  simp only[List.foldl_cons,List.map_cons,List.sum_cons]
  omega
theorem A9w (ms:List MI):∀ (d:Nat) (M:MI) (a b:BI d),jWB d (jnB ms d M a b)≤jWB d a+jWB d b
 | 0,_,a,_=>nomatch (a:Empty)
 | d+1,M,a,b=>by
  have:=B2i (fun M s t=>A9w ms d M s t) ms M.fields (BO.vals b) (BO.vals a)
  show(List.map (jW (jWB d)) ((BO.vals b).foldl (A1x (jnB ms d) ms M.fields) (BO.vals a))).sum+(BO.unk a++BO.unk b).length≤((List.map (jW (jWB d)) (BO.vals a)).sum+(BO.unk a).length)+((List.map (jW (jWB d)) (BO.vals b)).sum+(BO.unk b).length)
  rw[List.length_append]
  omega
theorem A2x {α:Type}(f : α→Nat) (hf:∀ a,1≤f a):∀ l:List α,l.length≤(l.map f).sum
 | []=>Nat.le_refl _
 | a::l=>by
  have:=A2x f hf l
  have:=hf a
  simp only[List.length_cons,List.map_cons,List.sum_cons]
  omega
end L
end Go.Proofs.YtelmjekjohbmjaaGreatDoor
