import Derived.Test.YtelmjekjohbmjaaGreatDoorY34
namespace Go.Proofs.YtelmjekjohbmjaaGreatDoor
namespace L
open Go.RowKit
set_option linter.unusedVariables false
theorem B7k {α:Type}(f : α→Nat){l:List α}{k:Nat}{a : α}(h:l[k]?=some a):((l.take k).map f).sum+f a≤(l.map f).sum:=by
 obtain⟨hk,rfl⟩:=List.getElem?_eq_some_iff.1 h
 have e:l=l.take k++l[k]::l.drop (k+1):=by rw[←List.drop_eq_getElem_cons hk,List.take_append_drop]
 have e2:(l.map f).sum=((l.take k++l[k]::l.drop (k+1)).map f).sum:=by rw[←e]
 rw[e2,List.map_append,List.sum_append,List.map_cons,List.sum_cons]
 omega
theorem B5t {α β:Type}{f : β→α→β}{l:List α}{k:Nat}{a : α}(b : β) (h:l[k]?=some a):(l.take (k+1)).foldl f b=f ((l.take k).foldl f b) a:=by
 rw[List.take_add_one,h,List.foldl_append]
 rfl
theorem FrB.set2 {c:Nat}{V:World}{v0 v1:Value}{cs:Array Value}{t:TypeId}(hc:V.heap[c]?=some (.cells cs t (0,0))) (ht:t≠5):FrB [c] V ((V.setCell ⟨c,0,none⟩ v0).setCell ⟨c,1,none⟩ v1):=
 (FrB.setT hc ht (Below.refl _ _)).trans (FrB.setT (A0e _ _ _ _ _ _ hc) ht (Below.refl _ _)) (fun i h=>h) (fun i h=>.inl h)
theorem FrB.set4T {c:Nat}{V:World}{v0 v1 v2 v3:Value}{cs:Array Value}{t:TypeId}(hc:V.heap[c]?=some (.cells cs t (0,0))) (ht:t≠5):FrB [c] V ((((V.setCell ⟨c,0,none⟩ v0).setCell ⟨c,1,none⟩ v1).setCell ⟨c,2,none⟩ v2).setCell ⟨c,3,none⟩ v3):=
 (FrB.set2 hc ht).trans ((FrB.setT (A0e _ _ _ _ _ _ (A0e _ _ _ _ _ _ hc)) ht (Below.refl _ _)).trans (FrB.setT (A0e _ _ _ _ _ _ (A0e _ _ _ _ _ _ (A0e _ _ _ _ _ _ hc))) ht (Below.refl _ _)) (fun i h=>h) (fun i h=>.inl h)) (fun i h=>h) (fun i h=>.inl h)
set_option maxHeartbeats 8000000 in
set_option maxRecDepth 100000 in
theorem B4o {g:GI}{W0:World}{am ae:Option Addr}{nm cm ne ce:Nat}(hg:GRd W0 (.slice am nm cm) (.slice ae ne ce) g){d:Nat}(ih:A3r g W0 (.slice am nm cm) (.slice ae ne ce) d):A3r g W0 (.slice am nm cm) (.slice ae ne ce) (d+1):=by
 intro u w j M v0 v1 u0 u1 x y hsu h0 hj hqx hqy gx gy hwt
 have hqx:BRd d u v0 v1 x:=hqx
 have hqy:BRd d u u0 u1 y:=hqy
 obtain⟨a0,n0,c0,a1,n1,c1,rfl,rfl⟩:=hqx.shape
 obtain⟨b0,m0,d0,b1,m1,d1,rfl,rfl⟩:=hqy.shape
 obtain⟨bm,om,rfl,hat⟩:=hg.1.get MAt.plain hj
 obtain⟨vf,vb,k0,k1,k2,hf0,hb0⟩:=hat.at
 obtain⟨af,nf,cf,rfl,_,_⟩:=hf0.shape
 obtain⟨ab,nb,cb,rfl,_,_⟩:=hb0.shape
 have hjl:(j:Int) < (nm:Int):=by
  have h1:=hg.1.len.1
  have h2:=(List.getElem?_eq_some_iff.1 hj).1
  omega
 obtain⟨lx,ex,tx,sx⟩:=kpR.src hqx.2
 obtain⟨ly,ey,ty,sy⟩:=kpR.src hqy.2
 have sx:=sx.sub hsu
 have sy:=sy.sub hsu
 have HU:Hid (lx.map Prod.fst=BO.unk x∧ly.map Prod.fst=BO.unk y):=⟨ex,ey⟩
 have hwt:(((BO.vals x).map (jW (jWB d))).sum+(BO.unk x).length)+(((BO.vals y).map (jW (jWB d))).sum+(BO.unk y).length)≤1000000000:=hwt
 have lx1:lx.length=(BO.unk x).length:=by rw[←ex,List.length_map]
 have ly1:ly.length=(BO.unk y).length:=by rw[←ey,List.length_map]
 have g1:lx.length*48≤140737488355328:=by omega
 have k1':(([]++lx).length+ly.length)*ekR.bytes≤140737488355328:=by show(_+_)*48≤_;rw[List.nil_append];omega
 obtain⟨W1,HW1⟩:∃ W1,Hid (W1=(((w.alloc (.cells #[.slice (some ⟨bm,om,none⟩) nm cm,.slice ae ne ce] 25)).alloc (.cells #[.slice a0 n0 c0,.slice a1 n1 c1] 29)).alloc (.cells #[.slice b0 m0 d0,.slice b1 m1 d1] 29)).alloc (.cells #[.slice none 0 0,.slice none 0 0] 29)):=⟨_,rfl⟩
 obtain⟨xf,xa,xb,xr,z0⟩:=A4w w (.cells #[.slice (some ⟨bm,om,none⟩) nm cm,.slice ae ne ce] 25) (.cells #[.slice a0 n0 c0,.slice a1 n1 c1] 29) (.cells #[.slice b0 m0 d0,.slice b1 m1 d1] 29) (.cells #[.slice none 0 0,.slice none 0 0] 29)
 rw[←HW1.out] at xf xa xb xr z0
 have hb1:Below w.heap.size w W1:=by rw[HW1.out];exact((((Below.refl _ _).alloc (Nat.le_refl _) _).alloc (by simp) _).alloc (by simp;omega) _).alloc (by simp;omega) _
 have HZ1:Hid (W1.heap.size=w.heap.size+4):=z0
 have hz1:w.heap.size+4≤W1.heap.size:=Nat.le_of_eq z0.symm
 have hz1':=Nat.le_of_eq z0
 obtain⟨W2,HW2⟩:∃ W2,Hid (W2=W1.alloc (.cells #[.string (S M.name),.slice af nf cf,.slice ab nb cb] 48)):=⟨_,rfl⟩
 have hb2:Below W1.heap.size W1 W2:=by rw[HW2.out];exact(Below.refl _ _).alloc (Nat.le_refl _) _
 have xm:W2.heap[w.heap.size+4]?=some (.cells #[.string (S M.name),.slice af nf cf,.slice ab nb cb] 48 (0,0)):=by rw[←z0,HW2.out];exact heap_alloc_new _ _
 have hz2:w.heap.size+5≤W2.heap.size:=(Array.getElem?_eq_some_iff.1 xm).1
 have xf:=(hb2.block _ (by omega)).trans xf
 have xa:=(hb2.block _ (by omega)).trans xa
 have xb:=(hb2.block _ (by omega)).trans xb
 have xr:=(hb2.block _ (by omega)).trans xr
 have hw2:Below w.heap.size w W2:=BTr hb1 hb2
 have hcl:∀ V,FrB [w.heap.size+1] W2 V→(V.cell? ⟨w.heap.size,0,none⟩=some (.slice (some ⟨bm,om,none⟩) nm cm)∧V.cell? ⟨w.heap.size,1,none⟩=some (.slice ae ne ce))∧(V.cell? ⟨w.heap.size+2,0,none⟩=some (.slice b0 m0 d0)∧V.cell? ⟨w.heap.size+2,1,none⟩=some (.slice b1 m1 d1))∧(V.cell? ⟨w.heap.size+4,0,none⟩=some (.string (S M.name))∧V.cell? ⟨w.heap.size+4,1,none⟩=some (.slice af nf cf)∧V.cell? ⟨w.heap.size+4,2,none⟩=some (.slice ab nb cb))∧V.heap[w.heap.size+3]?=some (.cells #[.slice none 0 0,.slice none 0 0] 29 (0,0)):=fun V hV=>
  ⟨A0x ((hV.block _ (by omega) (.inl (by simp))).trans xf),A0x ((hV.block _ (by omega) (.inl (by simp))).trans xb),A6o ((hV.block _ (by omega) (.inl (by simp))).trans xm),(hV.block _ (by omega) (.inl (by simp))).trans xr⟩
 have hwb:∀ V,FrB [w.heap.size+1] W2 V→Below w.heap.size w V:=fun V hV=>hw2.trans (hV.below (by omega) (fun k hk=>by rw[List.mem_singleton.1 hk];omega))
 have m0':=A0c (BTr h0 hb1) k0
 have m1':=A0c (BTr h0 hb1) k1
 have m2':=A0c (BTr h0 hb1) k2
 obtain⟨fs,Hfs⟩:∃ fs,Hid (fs=M.fields):=⟨_,rfl⟩
 have HF0:Hid (RdL 6 FAt W0 (.slice af nf cf) fs):=by rw[Hfs.out];exact hf0
 have HX:Hid (RdL 4 (VAt (BAt d)) u (.slice a0 n0 c0) (BO.vals x)):=hqx.1
 have HY:Hid (RdL 4 (VAt (BAt d)) u (.slice b0 m0 d0) (BO.vals y)):=hqy.1
 have HGX:Hid (((BO.vals x).Pairwise fun u v=>u.number < v.number)∧∀ v∈BO.vals x,GdV (GdB g.msgs d) g.msgs fs v):=by rw[Hfs.out];exact gx
 have HGY:Hid (∀ v∈BO.vals y,GdV (GdB g.msgs d) g.msgs fs v):=by rw[Hfs.out];exact gy.2
 have HWT:Hid (((BO.vals x).map (jW (jWB d))).sum+((BO.vals y).map (jW (jWB d))).sum≤1000000000):=by show _≤_;omega
 have Hm0:Hid (m0=(BO.vals y).length):=hqy.1.len.1
 have hm0:m0≤1000000000:=by
  have h1:=A2x (jW (jWB d)) (fun v=>by unfold jW;omega) (BO.vals y)
  have h2:=HWT.out
  have h3:=Hm0.out
  omega
 have HJ:Hid (jnB g.msgs (d+1) M x y=(⟨(BO.vals y).foldl (A1x (jnB g.msgs d) g.msgs fs) (BO.vals x),BO.unk x++BO.unk y⟩:BO (BI d))):=by rw[Hfs.out];rfl
 obtain⟨RR,HRR⟩:∃ RR,Hid (RR=jnB g.msgs (d+1) M x y):=⟨_,rfl⟩
 rw[←HRR.out]
 have HG:Hid (GRd W0 (.slice (some ⟨bm,om,none⟩) nm cm) (.slice ae ne ce) g):=hg
 have HIH:Hid (A3r g W0 (.slice (some ⟨bm,om,none⟩) nm cm) (.slice ae ne ce) d):=ih
 obtain⟨q0,q1⟩:=A0x ((hb2.block _ (by omega)).symm.trans xf)
 clear hqx hqy gx gy hwt hat hf0 hb0 k0 k1 k2 hj ex ey hg ih z0
 go_enter Tryz.func36,Tryz.ntmps36
 go_upto_region 1 with fail
 rw[←HW1.out]
 go_upto_region 2 with fail
 rw[←HW2.out,HZ1.out]
 clear q0 q1 m0' m1' m2'
 obtain⟨⟨q0,q1⟩,⟨q2,q3⟩,⟨q4,q5,q6⟩,xr0⟩:=hcl W2 (FrB.refl _ _)
 go_wp2_with fail
 go_loopg [22] m0 (fun gm i wr=>∃ (k:Nat) (a':Option Addr) (n' c':Nat) (l':List (VI (BI d))),k+gm=m0∧i = .int .i64 k∧wr.heap[w.heap.size+1]?=some (.cells #[.slice a' n' c',.slice a1 n1 c1] 29 (0,0))∧Hid (∀ u',OverF [w.heap.size+1,w.heap.size+3] u w wr u'→RdL 4 (VAt (BAt d)) u' (.slice a' n' c') l')∧Hid (l'=((BO.vals y).take k).foldl (A1x (jnB g.msgs d) g.msgs fs) (BO.vals x))∧FrB [w.heap.size+1] W2 wr)
 case atStart=>exact⟨0,a0,n0,c0,BO.vals x,by omega,rfl,xa,fun u' ho=>HX.out.sub (VAt.grows (BAt.grows d)) ho.sub,rfl,FrB.refl _ _⟩
 case round=>
  obtain⟨k,a',n',c',l',hk,rfl,xc,HL,HLE,hfr⟩:=hrel
  clear q0 q1 q2 q3 q4 q5 q6 xr0
  obtain⟨⟨q0,q1⟩,⟨q2,q3⟩,⟨q4,q5,q6⟩,xr0⟩:=hcl wr hfr
  have hzr:=hfr.size
  have hbw:=hwb wr hfr
  by_cases hlt:k < m0
  ·have hki:(k:Int) < (m0:Int):=by omega
   obtain⟨v,Hv⟩:∃ v,Hid ((BO.vals y)[k]?=some v):=⟨(BO.vals y)[k]'(by rw[←Hm0.out];exact hlt),List.getElem?_eq_getElem _⟩
   obtain⟨bv,ov,rfl,hva⟩:=HY.out.get VAt.plain Hv.out
   obtain⟨s1,s2,s3,y0,y1,y2,y3,r1,r2,r3⟩:=hva.at
   obtain⟨g1',i1,j1,rfl,_,_⟩:=r1.shape
   obtain⟨g2',i2,j2,rfl,_,_⟩:=r2.shape
   obtain⟨g3',i3,j3,rfl,_,_⟩:=r3.shape
   have HQV:Hid (QRd d u (v,(g1',i1,j1),(g2',i2,j2),(g3',i3,j3))):=⟨r1,r2,r3⟩
   have y0:=A0c hbw (hsu _ _ y0)
   have y1:=A0c hbw (hsu _ _ y1)
   have y2:=A0c hbw (hsu _ _ y2)
   have y3:=A0c hbw (hsu _ _ y3)
   have HGV:Hid (GdV (GdB g.msgs d) g.msgs fs v):=HGY.out v (List.mem_of_getElem? Hv.out)
   obtain⟨xv,HXV⟩:∃ xv,Hid (fs.find? (isF v.number)=some xv):=by
    obtain⟨xv,h,_⟩:=HGV.out
    exact⟨xv,h⟩
   have HGL:Hid ((l'.Pairwise fun u v=>u.number < v.number)∧∀ v∈l',GdV (GdB g.msgs d) g.msgs fs v):=by
    rw[HLE.out]
    exact⟨A7b _ _ HGX.out.1,B1i (fun M s t=>B1o g.msgs d M s t) _ _ HGX.out.2 fun a ha=>HGY.out a (List.mem_of_mem_take ha)⟩
   have HWL:Hid ((l'.map (jW (jWB d))).sum+jW (jWB d) v≤1000000000):=by
    show _≤_
    have h1:=B2i (f:=jWB d) (J:=jnB g.msgs d) (fun M s t=>A9w g.msgs d M s t) g.msgs fs ((BO.vals y).take k) (BO.vals x)
    have h2:=B7k (jW (jWB d)) Hv.out
    have h3:=HWT.out
    rw[←HLE.out] at h1
    omega
   have hll:(l'.length+1)*80≤140737488355328:=by
    have h1:=A2x (jW (jWB d)) (fun v=>by unfold jW;omega) l'
    have h2:=HWL.out
    omega
   have HNX:Hid (A1x (jnB g.msgs d) g.msgs fs l' v=((BO.vals y).take (k+1)).foldl (A1x (jnB g.msgs d) g.msgs fs) (BO.vals x)):=by
    show _=_
    rw[B5t _ Hv.out,←HLE.out]
   obtain⟨e,He⟩:∃ e,Hid (wr.heap.size=e):=⟨_,rfl⟩
   have he1:e≤wr.heap.size:=Nat.le_of_eq He.out.symm
   have he2:wr.heap.size≤e:=Nat.le_of_eq He.out
   obtain⟨W5,HW5⟩:∃ W5,Hid (W5=wr.alloc (.cells #[.int .i64 v.number,.slice g1' i1 j1,.slice g2' i2 j2,.slice g3' i3 j3] 34)):=⟨_,rfl⟩
   have hb5:Below wr.heap.size wr W5:=by rw[HW5.out];exact(Below.refl _ _).alloc (Nat.le_refl _) _
   have x5:W5.heap[e]?=some (.cells #[.int .i64 v.number,.slice g1' i1 j1,.slice g2' i2 j2,.slice g3' i3 j3] 34 (0,0)):=by rw[←He.out,HW5.out];exact heap_alloc_new _ _
   have hz5:e < W5.heap.size:=(Array.getElem?_eq_some_iff.1 x5).1
   have hf5:FrB [w.heap.size+1] W2 W5:=hfr.trans (FrB.of_below (F:=[]) hb5) (fun i h=>h) (fun i h=>by simp at h)
   have hbw5:=hwb W5 hf5
   have hx5c:=(hb5.block _ (by omega)).trans xc
   have HL5:Hid (∀ V u',W5.heap.size≤V.heap.size→(∀ k,k < W5.heap.size→k≠e→V.heap[k]?=W5.heap[k]?)→OverF [e,w.heap.size+1,w.heap.size+3] u w V u'→RdL 4 (VAt (BAt d)) u' (.slice a' n' c') l'):=by
    intro V u' hs hV ho
    refine HL.out u' (ho.back (by omega) fun k h1 h2 h3=>⟨?_,?_⟩)
    ·simp only[List.mem_cons,List.not_mem_nil,or_false,not_or] at h3 ⊢
     exact⟨by omega,h3.1,h3.2⟩
    ·rw[hV k (by omega) (by omega)];exact hb5.block k h2
   have hsu5:=A9f (F:=[e,w.heap.size+1,w.heap.size+3]) hsu hbw5
   have hov5:=A7n (F:=[e,w.heap.size+1,w.heap.size+3]) (V:=W5) hsu hbw5.size
   obtain⟨p5,Hp5⟩:∃ p5,Hid (p5=B4i u w [e,w.heap.size+1,w.heap.size+3] W5):=⟨_,rfl⟩
   rw[←Hp5.out] at hsu5 hov5
   have hfd:=B0h (HL5.out W5 p5 (Nat.le_refl _) (fun _ _ _=>rfl) hov5) hsu5 (v1:=.slice a1 n1 c1) ⟨_,_,_,rfl⟩ v.number
   have hSet:∀ (V:World) (v':VI (BI d)) (o1:Option Addr) (t1 z1:Nat) (o2:Option Addr) (t2 z2:Nat) (o3:Option Addr) (t3 z3:Nat),FrB [e] W5 V→fs.find? (isF v'.number)=some xv→GdV (GdB g.msgs d) g.msgs fs v'→A1x (jnB g.msgs d) g.msgs fs l' v=A6d fs xv l' v'→(∀ u',OverF [e,w.heap.size+1,w.heap.size+3] u w V u'→QRd d u' (v',(o1,t1,z1),(o2,t2,z2),(o3,t3,z3)))→
     Calls Tryz.prog 20 #[.agg #[.string (S M.name),.slice af nf cf,.slice ab nb cb],.agg #[.slice a' n' c',.slice a1 n1 c1],.agg #[.int .i64 v'.number,.slice o1 t1 z1,.slice o2 t2 z2,.slice o3 t3 z3]] V fun r w'=>∃ (ao:Option Addr) (n c:Nat),r = .returned (.agg #[.slice ao n c,.slice a1 n1 c1])∧(∀ u' V',w'.heap.size≤V'.heap.size→(∀ k,k < w'.heap.size→k≠w.heap.size+1→V'.heap[k]?=w'.heap[k]?)→OverF [w.heap.size+1,w.heap.size+3] u w V' u'→RdL 4 (VAt (BAt d)) u' (.slice ao n c) (((BO.vals y).take (k+1)).foldl (A1x (jnB g.msgs d) g.msgs fs) (BO.vals x)))∧Below V.heap.size V w':=by
    intro V v' o1 t1 z1 o2 t2 z2 o3 t3 z3 hV hx' hgd' hput hq'
    have hfV:FrB [w.heap.size+1] W2 V:=hf5.trans hV (fun i h=>h) (fun i h=>.inr (by rw[List.mem_singleton.1 h];omega))
    have hbV:=hwb V hfV
    have hzV:=hV.size
    have hov:=A7n (F:=[e,w.heap.size+1,w.heap.size+3]) (V:=V) hsu hbV.size
    have hl:=HL5.out V _ hzV (fun k h1 h2=>hV.block k h1 (.inl (by simpa using h2))) hov
    have hqq:=hq' _ hov
    refine(B2q (A9f hsu hbV) (HF0.out.below FAt.stays (BTr h0 hbV)) hl hx' hqq.1 hqq.2.1 hqq.2.2 hll).mono ?_
    rintro r w' ⟨ao,n,c,rfl,hr,hbw'⟩
    refine⟨ao,n,c,rfl,fun u' V' hs hV' ho=>?_,hbw'⟩
    have:=hr u' ⟨B1t ho hbV.size (by have:=hbw'.size;omega) (fun k h1 h2 h3=>?_),fun k h1 h2=>?_⟩
    ·rw[←HNX.out,hput,←C0s HGL.out.1 hgd' hx']
     exact this
    ·simp only[List.mem_cons,List.not_mem_nil,or_false,not_or] at h3 ⊢
     exact⟨⟨h3.2.1,h3.2.2⟩,(hV' k (by have:=hbw'.size;omega) h3.2.1).trans (hbw'.block k h2)⟩
    ·have h4:=hbV.size
     rw[ho.new k (by omega) (by omega) (by simp only[List.mem_cons,List.not_mem_nil,or_false,not_or];constructor <;> omega)]
     exact hV' k h2 (by omega)
   clear hva r1 r2 r3
   go_upto_region 5 with fail
   rw[←HW5.out,He.out]
   clear q0 q1 q2 q3 q4 q5 q6 xr0 y0 y1 y2 y3
   obtain⟨⟨q0,q1⟩,⟨q2,q3⟩,⟨q4,q5,q6⟩,xr0⟩:=hcl W5 hf5
   obtain⟨y0,y1,y2,y3⟩:=A2w x5
   obtain⟨c0',c1'⟩:=A0x hx5c
   cases hfnd:l'.find? (fun v'=>decide (v'.number=v.number)) with
   | none=>
    rw[hfnd] at hfd
    have HP:Hid (A1x (jnB g.msgs d) g.msgs fs l' v=A6d fs xv l' v):=by
     show _=_
     unfold A1x
     rw[HXV.out]
     have:l'.find? (isV v.number)=none:=hfnd
     rw[this]
    clear hfnd
    go_wp2_with fail
    refine hfd.mono ?_
    rintro r w6 ⟨⟨vz,rfl,rfl⟩,hb6⟩
    obtain⟨W7,HW7⟩:∃ W7,Hid (W7=w6.alloc (.cells #[.int .i64 0,.slice none 0 0,.slice none 0 0,.slice none 0 0] 34)):=⟨_,rfl⟩
    have hb7:Below W5.heap.size W5 W7:=by rw[HW7.out];exact BTr hb6 ((Below.refl _ _).alloc (Nat.le_refl _) _)
    have hV7:FrB [e] W5 W7:=FrB.of_below hb7
    have xe:=(hb7.block _ hz5).trans x5
    have xcV:=(hb7.block _ (by omega)).trans hx5c
    have hset:=hSet W7 v g1' i1 j1 g2' i2 j2 g3' i3 j3 hV7 HXV.out HGV.out HP.out (fun u' ho=>HQV.out.sub ho.sub)
    clear q0 q1 q2 q3 q4 q5 q6 xr0 y0 y1 y2 y3 c0' c1'
    have hf8:FrB [w.heap.size+1] W2 W7:=hf5.trans hV7 (fun i h=>h) (fun i h=>.inr (by rw[List.mem_singleton.1 h];omega))
    obtain⟨⟨q0,q1⟩,⟨q2,q3⟩,⟨q4,q5,q6⟩,xr0⟩:=hcl W7 hf8
    obtain⟨y0,y1,y2,y3⟩:=A2w xe
    obtain⟨c0',c1'⟩:=A0x xcV
    have hV8:=hV7
    go_upto_region 8 with fail
    rw[←HW7.out]
    go_wp2_with fail
    refine hset.mono ?_
    rintro r w12 ⟨a8,n8,c8,rfl,hR8,hb12⟩
    have hz8:W5.heap.size≤W7.heap.size:=hV8.size
    have hz12:=hb12.size
    have xc12:=(hb12.block _ (by omega)).trans xcV
    clear q0 q1 q2 q3 q4 q5 q6 xr0 y0 y1 y2 y3 c0' c1'
    obtain⟨c0',c1'⟩:=A0x xc12
    have fc:=A0b xc12
    go_wp2_with fail
    go_roundg (m0 - (k+1))
    case measure=>omega
    case rel=>
     refine⟨k+1,a8,n8,c8,_,by omega,by go_num,A0e _ _ _ _ _ _ (A0e _ _ _ _ _ _ xc12),fun u' ho=>hR8 u' _ (by simp) (fun k h1 h2=>by rw[Below.heap_setCell _ _ _ k (show k≠w.heap.size+1 from h2),Below.heap_setCell _ _ _ k (show k≠w.heap.size+1 from h2)]) ho,rfl,?_⟩
     exact(hf8.trans (FrB.of_below (F:=[]) hb12) (fun i h=>h) (fun i h=>by simp at h)).trans (FrB.set2 xc12 (by decide)) (fun i h=>h) (fun i h=>.inl h)
   | some old=>
    rw[hfnd] at hfd
    have HO:Hid (l'.find? (isV v.number)=some old):=hfnd
    have HON:Hid (old.number=v.number):=by show _=_;have:=List.find?_some hfnd;simpa using this
    have HOM:Hid (old∈l'):=List.mem_of_find?_eq_some hfnd
    clear hfnd
    go_wp2_with fail
    refine hfd.mono ?_
    rintro r w6 ⟨⟨o1,t1,z1,o2,t2,z2,o3,t3,z3,rfl,f1,f2,f3⟩,hb6⟩
    have HQO:Hid (QRd d p5 (old,(o1,t1,z1),(o2,t2,z2),(o3,t3,z3))):=⟨f1,f2,f3⟩
    obtain⟨o,Ho⟩:∃ o,Hid (w6.heap.size=o):=⟨_,rfl⟩
    have ho1:o≤w6.heap.size:=Nat.le_of_eq Ho.out.symm
    have ho2:w6.heap.size≤o:=Nat.le_of_eq Ho.out
    obtain⟨W7,HW7⟩:∃ W7,Hid (W7=w6.alloc (.cells #[.int .i64 old.number,.slice o1 t1 z1,.slice o2 t2 z2,.slice o3 t3 z3] 34)):=⟨_,rfl⟩
    have hb67:Below w6.heap.size w6 W7:=by rw[HW7.out];exact(Below.refl _ _).alloc (Nat.le_refl _) _
    have hb7:Below W5.heap.size W5 W7:=BTr hb6 hb67
    have x7:W7.heap[o]?=some (.cells #[.int .i64 old.number,.slice o1 t1 z1,.slice o2 t2 z2,.slice o3 t3 z3] 34 (0,0)):=by rw[←Ho.out,HW7.out];exact heap_alloc_new _ _
    have hz7:o < W7.heap.size:=(Array.getElem?_eq_some_iff.1 x7).1
    have hz6:=hb6.size
    have xe7:=(hb7.block _ hz5).trans x5
    have xc7:=(hb7.block _ (by omega)).trans hx5c
    have hf7:FrB [w.heap.size+1] W2 W7:=hf5.trans (FrB.of_below (F:=[]) hb7) (fun i h=>h) (fun i h=>by simp at h)
    clear f1 f2 f3 hfd q0 q1 q2 q3 q4 q5 q6 xr0 y0 y1 y2 y3 c0' c1'
    go_upto_region 6 with fail
    rw[←HW7.out,Ho.out]
    go_upto_region 7 with fail
    have hD:Below W7.heap.size W7 W7.drew:=(Below.refl _ _).drew
    have hs7:FrB [e] W7 W7.drew:=FrB.of_below hD
    have hcle:∀ V,FrB [e] W7 V→(V.cell? ⟨w.heap.size,0,none⟩=some (.slice (some ⟨bm,om,none⟩) nm cm)∧V.cell? ⟨w.heap.size,1,none⟩=some (.slice ae ne ce))∧(V.cell? ⟨w.heap.size+4,0,none⟩=some (.string (S M.name))∧V.cell? ⟨w.heap.size+4,1,none⟩=some (.slice af nf cf)∧V.cell? ⟨w.heap.size+4,2,none⟩=some (.slice ab nb cb))∧(V.cell? ⟨o,0,none⟩=some (.int .i64 old.number)∧V.cell? ⟨o,1,none⟩=some (.slice o1 t1 z1)∧V.cell? ⟨o,2,none⟩=some (.slice o2 t2 z2)∧V.cell? ⟨o,3,none⟩=some (.slice o3 t3 z3)):=fun V hV=>by
     obtain⟨h1,_,h2,_⟩:=hcl V (hf7.trans hV (fun i h=>h) (fun i h=>.inr (by rw[List.mem_singleton.1 h];omega)))
     exact⟨h1,h2,A2w ((hV.block _ hz7 (.inl (by simp;omega))).trans x7)⟩
    obtain⟨jf,hj1,hj2,hj3⟩:=A3e HXV.out
    have hjn:xv.number=v.number:=A6p HXV.out
    obtain⟨bf,of',rfl,hfa⟩:=HF0.out.get FAt.plain hj1
    have HFA:Hid (FAt W0 ⟨bf,of'+jf*6,none⟩ xv):=hfa
    have h07:Below W0.heap.size W0 W7.drew:=BTr (BTr h0 (hwb W7 hf7)) hD
    have hfn:=A3v (nm:=.string (S M.name)) (vb:=.slice ab nb cb) (HF0.out.below FAt.stays h07) ⟨_,_,_,rfl⟩ ⟨_,rfl⟩ v.number hj1 hjn hj3
    have HMW:Hid (jW (jWB d) old+jW (jWB d) v≤1000000000):=by
     show _≤_
     have h1:=B1x (jW (jWB d)) HOM.out
     have h2:=HWL.out
     omega
    have hbt:∀ V,Below W7.heap.size W7 V→Calls Tryz.prog 67 #[.agg #[.slice (some ⟨bm,om,none⟩) nm cm,.slice ae ne ce],.pointer (some ⟨bf,of'+jf*6,none⟩),.agg #[.int .i64 old.number,.slice o1 t1 z1,.slice o2 t2 z2,.slice o3 t3 z3],.agg #[.int .i64 v.number,.slice g1' i1 j1,.slice g2' i2 j2,.slice g3' i3 j3]] V fun r w'=>∃ (e1:Option Addr) (h1 l1:Nat) (e2:Option Addr) (h2 l2:Nat) (e3:Option Addr) (h3 l3:Nat),r = .returned (.agg #[.int .i64 (A4f (jnB g.msgs d) g.msgs xv old v).number,.slice e1 h1 l1,.slice e2 h2 l2,.slice e3 h3 l3])∧(∀ u' V',w'.heap.size≤V'.heap.size→(∀ k,k < w'.heap.size→k≠e→V'.heap[k]?=w'.heap[k]?)→OverF [e,w.heap.size+1,w.heap.size+3] u w V' u'→QRd d u' (A4f (jnB g.msgs d) g.msgs xv old v,(e1,h1,l1),(e2,h2,l2),(e3,h3,l3)))∧Below V.heap.size V w':=fun V hV=>by
     have hbV:Below w.heap.size w V:=BTr (hwb W7 hf7) hV
     have h5V:Below W5.heap.size W5 V:=BTr hb7 hV
     have hov:=A7n (F:=[e,w.heap.size+1,w.heap.size+3]) (V:=V) hsu hbV.size
     have hpp:Sub p5 (B4i u w [e,w.heap.size+1,w.heap.size+3] V):=by
      rw[Hp5.out]
      exact B1t hov hbw5.size h5V.size (fun k h1 h2 h3=>⟨h3,h5V.block k h2⟩)
     refine(B6w HG.out HIH.out (BTr h0 hbV) (A9f hsu hbV) HFA.out old v HON.out HXV.out (HGL.out.2 old HOM.out) HGV.out HMW.out (HQO.out.sub hpp) (HQV.out.sub hov.sub)).mono ?_
     rintro r w' ⟨e1,h1,l1,e2,h2,l2,e3,h3,l3,rfl,hr,hbw'⟩
     refine⟨e1,h1,l1,e2,h2,l2,e3,h3,l3,rfl,fun u' V' hs hV' ho=>?_,hbw'⟩
     refine hr u' ⟨B1t ho hbV.size (by have:=hbw'.size;omega) (fun k h1 h2 h3=>⟨h3,?_⟩),fun k h1 h2=>?_⟩
     ·simp only[List.mem_cons,List.not_mem_nil,or_false,not_or] at h3
      exact(hV' k (by have:=hbw'.size;omega) h3.1).trans (hbw'.block k h2)
     ·have h4:=hV.size
      have h5:=hbV.size
      have h6:=h5V.size
      rw[ho.new k (by omega) (by omega) (by simp only[List.mem_cons,List.not_mem_nil,or_false,not_or];refine⟨?_,?_,?_⟩ <;> omega)]
      exact hV' k h2 (by omega)
    have HP:Hid (A1x (jnB g.msgs d) g.msgs fs l' v=A6d fs xv l' (A4f (jnB g.msgs d) g.msgs xv old v)):=by
     show _=_
     unfold A1x
     rw[HXV.out,HO.out]
    have HMN:Hid ((A4f (jnB g.msgs d) g.msgs xv old v).number=v.number):=A5z HON.out
    have HMG:Hid (GdV (GdB g.msgs d) g.msgs fs (A4f (jnB g.msgs d) g.msgs xv old v)):=B9z (fun M s t=>B1o g.msgs d M s t) HON.out HXV.out (HGL.out.2 old HOM.out) HGV.out
    generalize A4f (jnB g.msgs d) g.msgs xv old v=mt at hbt HP HMN HMG
    obtain⟨⟨s0,s1⟩,⟨s2,s3,s4⟩,⟨s5,s6,s7,s8⟩⟩:=hcle _ hs7
    have xed:=(hD.block _ (by omega)).trans xe7
    obtain⟨y0,y1,y2,y3⟩:=A2w xed
    clear hj1 hj2 hj3 hjn hfa
    go_cut [41] from 34 to 40 (fun _ wc=>∃ (e1:Option Addr) (p1 l1:Nat) (e2:Option Addr) (p2 l2:Nat) (e3:Option Addr) (p3 l3:Nat),wc.heap[e]?=some (.cells #[.int .i64 mt.number,.slice e1 p1 l1,.slice e2 p2 l2,.slice e3 p3 l3] 34 (0,0))∧FrB [e] W7 wc∧Hid (∀ u',OverF [e,w.heap.size+1,w.heap.size+3] u w wc u'→QRd d u' (mt,(e1,p1,l1),(e2,p2,l2),(e3,p3,l3))))
    case first=>
     refine wp_region_held_drew (S:=fun V=>FrB [e] W7 V) (by kernel_rfl) hs7 (fun hHeld=>?_)
     refine tK (i:=0) (v:=?vs1) rfl (fun _ _ _ h=>h) ⟨by rfl,?hys1⟩ (by assumption) ?_
     case hys1=>(intro W hSw;obtain⟨⟨oo1,oo2⟩,⟨oo3,oo4,oo5⟩,⟨oo6,oo7,oo8,oo9⟩⟩:=hcle W hSw;go_simp;first|done|with_reducible rfl)
     try simp only[pT,Act.put]
     refine tK (i:=1) (v:=?vs2) rfl (fun _ _ _ h=>h) ⟨by rfl,?hys2⟩ (by assumption) ?_
     case hys2=>(intro W hSw;obtain⟨⟨oo1,oo2⟩,⟨oo3,oo4,oo5⟩,⟨oo6,oo7,oo8,oo9⟩⟩:=hcle W hSw;go_simp;first|done|with_reducible rfl)
     try simp only[pT,Act.put]
     refine tK (i:=2) (v:=?vs3) rfl (fun _ _ _ h=>h) ⟨by rfl,?hys3⟩ (by assumption) ?_
     case hys3=>(intro W hSw;obtain⟨⟨oo1,oo2⟩,⟨oo3,oo4,oo5⟩,⟨oo6,oo7,oo8,oo9⟩⟩:=hcle W hSw;go_simp;first|done|with_reducible rfl)
     try simp only[pT,Act.put]
     refine tK (i:=5) (v:=?vs4) rfl (fun _ _ _ h=>h) ⟨by rfl,?hys4⟩ (by assumption) ?_
     case hys4=>(intro W hSw;obtain⟨⟨oo1,oo2⟩,⟨oo3,oo4,oo5⟩,⟨oo6,oo7,oo8,oo9⟩⟩:=hcle W hSw;go_simp;first|done|with_reducible rfl)
     try simp only[pT,Act.put]
     refine wpAnyH_ready (rs:=[3,6]) (by kernel_rfl) (by simp) ?_
     refine AllReadyH.cons rfl (fun K hK=>?_) (AllReadyH.cons rfl (fun K hK=>?_) AllReadyH.nil)
     ·skip
      go_simp
      refine hK.out _ _ ?_ (fun hHeld=>?_)
      ·(try dsimp only);with_reducible first|exact hs7|exact hs8|exact hs9|exact hs10
      clear hK K
      try simp only[pT,Act.put]
      refine wpAnyH_ready (rs:=[4,6]) (by kernel_rfl) (by simp) ?_
      refine AllReadyH.cons rfl (fun K hK=>?_) (AllReadyH.cons rfl (fun K hK=>?_) AllReadyH.nil)
      ·skip
       go_simp
       refine hfn.mono ?_
       rintro r w8 ⟨⟨b',o',e',rfl⟩,hb8⟩
       cases e'
       have hB8:Below W7.heap.size W7 w8:=BTr hD hb8
       have hs8:FrB [e] W7 w8:=FrB.of_below hB8
       have xe8:=(hB8.block _ (by omega)).trans xe7
       obtain⟨yy0,yy1,yy2,yy3⟩:=A2w xe8
       have hbt8:=hbt w8 hB8
       refine hK.out _ _ ?_ (fun hHeld=>?_)
       ·(try dsimp only);with_reducible first|exact hs7|exact hs8|exact hs9|exact hs10
       clear hK K
       try simp only[pT,Act.put]
       refine wpAnyH_ready (rs:=[6]) (by kernel_rfl) (by simp) ?_
       refine AllReadyH.cons rfl (fun K hK=>?_) AllReadyH.nil
       go_simp
       refine hK.out _ _ ?_ (fun hHeld=>?_)
       ·(try dsimp only);with_reducible first|exact hs7|exact hs8|exact hs9|exact hs10
       clear hK K
       try simp only[pT,Act.put]
       refine wpAnyH_ready (rs:=[7]) (by kernel_rfl) (by simp) ?_
       refine AllReadyH.cons rfl (fun K hK=>?_) AllReadyH.nil
       go_simp
       refine hbt8.mono ?_
       rintro r w9 ⟨e1,p1,l1,e2,p2,l2,e3,p3,l3,rfl,hR9,hb9⟩
       have hB9:Below W7.heap.size W7 w9:=BTr hB8 hb9
       have hs9:FrB [e] W7 w9:=FrB.of_below hB9
       have xe9:=(hB9.block _ (by omega)).trans xe7
       obtain⟨u0,u1,u2,u3⟩:=A2w xe9
       have fe9:=A0b xe9
       have hs10:FrB [e] W7 ((((w9.setCell ⟨e,0,none⟩ (.int .i64 mt.number)).setCell ⟨e,1,none⟩ (.slice e1 p1 l1)).setCell ⟨e,2,none⟩ (.slice e2 p2 l2)).setCell ⟨e,3,none⟩ (.slice e3 p3 l3)):=hs9.trans (FrB.set4T xe9 (by decide)) (fun i h=>h) (fun i h=>.inl h)
       refine hK.out _ _ ?_ (fun hHeld=>?_)
       ·(try dsimp only);with_reducible first|exact hs7|exact hs8|exact hs9|exact hs10
       clear hK K
       try simp only[pT,Act.put]
       refine wpAnyH_ready (rs:=[8]) (by kernel_rfl) (by simp) ?_
       refine AllReadyH.cons rfl (fun K hK=>?_) AllReadyH.nil
       go_simp
       refine hK.out _ _ ?_ (fun hHeld=>?_)
       ·(try dsimp only);with_reducible first|exact hs7|exact hs8|exact hs9|exact hs10
       clear hK K
       try simp only[pT,Act.put]
       refine wpAnyH_done (by kernel_rfl) ?_ _
       go_wp2_with fail
       go_meet
       exact⟨e1,p1,l1,e2,p2,l2,e3,p3,l3,A0e _ _ _ _ _ _ (A0e _ _ _ _ _ _ (A0e _ _ _ _ _ _ (A0e _ _ _ _ _ _ xe9))),hs10,fun u' ho=>hR9 u' _ (by simp) (fun k h1 h2=>by rw[Below.heap_setCell _ _ _ k (show k≠e from h2),Below.heap_setCell _ _ _ k (show k≠e from h2),Below.heap_setCell _ _ _ k (show k≠e from h2),Below.heap_setCell _ _ _ k (show k≠e from h2)]) ho⟩
      ·skip
       go_simp
       refine hK.out _ _ ?_ (fun hHeld=>?_)
       ·(try dsimp only);with_reducible first|exact hs7|exact hs8|exact hs9|exact hs10
       clear hK K
       try simp only[pT,Act.put]
       refine wpAnyH_ready (rs:=[4]) (by kernel_rfl) (by simp) ?_
       refine AllReadyH.cons rfl (fun K hK=>?_) AllReadyH.nil
       go_simp
       refine hfn.mono ?_
       rintro r w8 ⟨⟨b',o',e',rfl⟩,hb8⟩
       cases e'
       have hB8:Below W7.heap.size W7 w8:=BTr hD hb8
       have hs8:FrB [e] W7 w8:=FrB.of_below hB8
       have xe8:=(hB8.block _ (by omega)).trans xe7
       obtain⟨yy0,yy1,yy2,yy3⟩:=A2w xe8
       have hbt8:=hbt w8 hB8
       refine hK.out _ _ ?_ (fun hHeld=>?_)
       ·(try dsimp only);with_reducible first|exact hs7|exact hs8|exact hs9|exact hs10
       clear hK K
       try simp only[pT,Act.put]
       refine wpAnyH_ready (rs:=[7]) (by kernel_rfl) (by simp) ?_
       refine AllReadyH.cons rfl (fun K hK=>?_) AllReadyH.nil
       go_simp
       refine hbt8.mono ?_
       rintro r w9 ⟨e1,p1,l1,e2,p2,l2,e3,p3,l3,rfl,hR9,hb9⟩
       have hB9:Below W7.heap.size W7 w9:=BTr hB8 hb9
       have hs9:FrB [e] W7 w9:=FrB.of_below hB9
       have xe9:=(hB9.block _ (by omega)).trans xe7
       obtain⟨u0,u1,u2,u3⟩:=A2w xe9
       have fe9:=A0b xe9
       have hs10:FrB [e] W7 ((((w9.setCell ⟨e,0,none⟩ (.int .i64 mt.number)).setCell ⟨e,1,none⟩ (.slice e1 p1 l1)).setCell ⟨e,2,none⟩ (.slice e2 p2 l2)).setCell ⟨e,3,none⟩ (.slice e3 p3 l3)):=hs9.trans (FrB.set4T xe9 (by decide)) (fun i h=>h) (fun i h=>.inl h)
       refine hK.out _ _ ?_ (fun hHeld=>?_)
       ·(try dsimp only);with_reducible first|exact hs7|exact hs8|exact hs9|exact hs10
       clear hK K
       try simp only[pT,Act.put]
       refine wpAnyH_ready (rs:=[8]) (by kernel_rfl) (by simp) ?_
       refine AllReadyH.cons rfl (fun K hK=>?_) AllReadyH.nil
       go_simp
       refine hK.out _ _ ?_ (fun hHeld=>?_)
       ·(try dsimp only);with_reducible first|exact hs7|exact hs8|exact hs9|exact hs10
       clear hK K
       try simp only[pT,Act.put]
       refine wpAnyH_done (by kernel_rfl) ?_ _
       go_wp2_with fail
       go_meet
       exact⟨e1,p1,l1,e2,p2,l2,e3,p3,l3,A0e _ _ _ _ _ _ (A0e _ _ _ _ _ _ (A0e _ _ _ _ _ _ (A0e _ _ _ _ _ _ xe9))),hs10,fun u' ho=>hR9 u' _ (by simp) (fun k h1 h2=>by rw[Below.heap_setCell _ _ _ k (show k≠e from h2),Below.heap_setCell _ _ _ k (show k≠e from h2),Below.heap_setCell _ _ _ k (show k≠e from h2),Below.heap_setCell _ _ _ k (show k≠e from h2)]) ho⟩
     ·skip
      go_simp
      refine hK.out _ _ ?_ (fun hHeld=>?_)
      ·(try dsimp only);with_reducible first|exact hs7|exact hs8|exact hs9|exact hs10
      clear hK K
      try simp only[pT,Act.put]
      refine wpAnyH_ready (rs:=[3]) (by kernel_rfl) (by simp) ?_
      refine AllReadyH.cons rfl (fun K hK=>?_) AllReadyH.nil
      go_simp
      refine hK.out _ _ ?_ (fun hHeld=>?_)
      ·(try dsimp only);with_reducible first|exact hs7|exact hs8|exact hs9|exact hs10
      clear hK K
      try simp only[pT,Act.put]
      refine wpAnyH_ready (rs:=[4]) (by kernel_rfl) (by simp) ?_
      refine AllReadyH.cons rfl (fun K hK=>?_) AllReadyH.nil
      go_simp
      refine hfn.mono ?_
      rintro r w8 ⟨⟨b',o',e',rfl⟩,hb8⟩
      cases e'
      have hB8:Below W7.heap.size W7 w8:=BTr hD hb8
      have hs8:FrB [e] W7 w8:=FrB.of_below hB8
      have xe8:=(hB8.block _ (by omega)).trans xe7
      obtain⟨yy0,yy1,yy2,yy3⟩:=A2w xe8
      have hbt8:=hbt w8 hB8
      refine hK.out _ _ ?_ (fun hHeld=>?_)
      ·(try dsimp only);with_reducible first|exact hs7|exact hs8|exact hs9|exact hs10
      clear hK K
      try simp only[pT,Act.put]
      refine wpAnyH_ready (rs:=[7]) (by kernel_rfl) (by simp) ?_
      refine AllReadyH.cons rfl (fun K hK=>?_) AllReadyH.nil
      go_simp
      refine hbt8.mono ?_
      rintro r w9 ⟨e1,p1,l1,e2,p2,l2,e3,p3,l3,rfl,hR9,hb9⟩
      have hB9:Below W7.heap.size W7 w9:=BTr hB8 hb9
      have hs9:FrB [e] W7 w9:=FrB.of_below hB9
      have xe9:=(hB9.block _ (by omega)).trans xe7
      obtain⟨u0,u1,u2,u3⟩:=A2w xe9
      have fe9:=A0b xe9
      have hs10:FrB [e] W7 ((((w9.setCell ⟨e,0,none⟩ (.int .i64 mt.number)).setCell ⟨e,1,none⟩ (.slice e1 p1 l1)).setCell ⟨e,2,none⟩ (.slice e2 p2 l2)).setCell ⟨e,3,none⟩ (.slice e3 p3 l3)):=hs9.trans (FrB.set4T xe9 (by decide)) (fun i h=>h) (fun i h=>.inl h)
      refine hK.out _ _ ?_ (fun hHeld=>?_)
      ·(try dsimp only);with_reducible first|exact hs7|exact hs8|exact hs9|exact hs10
      clear hK K
      try simp only[pT,Act.put]
      refine wpAnyH_ready (rs:=[8]) (by kernel_rfl) (by simp) ?_
      refine AllReadyH.cons rfl (fun K hK=>?_) AllReadyH.nil
      go_simp
      refine hK.out _ _ ?_ (fun hHeld=>?_)
      ·(try dsimp only);with_reducible first|exact hs7|exact hs8|exact hs9|exact hs10
      clear hK K
      try simp only[pT,Act.put]
      refine wpAnyH_done (by kernel_rfl) ?_ _
      go_wp2_with fail
      go_meet
      exact⟨e1,p1,l1,e2,p2,l2,e3,p3,l3,A0e _ _ _ _ _ _ (A0e _ _ _ _ _ _ (A0e _ _ _ _ _ _ (A0e _ _ _ _ _ _ xe9))),hs10,fun u' ho=>hR9 u' _ (by simp) (fun k h1 h2=>by rw[Below.heap_setCell _ _ _ k (show k≠e from h2),Below.heap_setCell _ _ _ k (show k≠e from h2),Below.heap_setCell _ _ _ k (show k≠e from h2),Below.heap_setCell _ _ _ k (show k≠e from h2)]) ho⟩
    case rest=>
    obtain⟨e1,p1,l1,e2,p2,l2,e3,p3,l3,xe,hV7e,HQ8⟩:=hcut
    obtain⟨V8,HV8⟩:∃ V8,V8=wc:=⟨_,rfl⟩
    subst HV8
    have hV8:FrB [e] W5 V8:=(FrB.of_below (F:=[e]) hb7).trans hV7e (fun i h=>h) (fun i h=>.inl h)
    have xcV:=(hV7e.block _ (by omega) (.inl (by simp;omega))).trans xc7
    have hset:=hSet V8 mt e1 p1 l1 e2 p2 l2 e3 p3 l3 hV8 (by rw[HMN.out];exact HXV.out) HMG.out HP.out HQ8.out
    clear y0 y1 y2 y3 s0 s1 s2 s3 s4 s5 s6 s7 s8 hbt hfn hSet xe7 xc7 xed hcle
    have hf8:FrB [w.heap.size+1] W2 V8:=hf5.trans hV8 (fun i h=>h) (fun i h=>.inr (by rw[List.mem_singleton.1 h];omega))
    obtain⟨⟨q0,q1⟩,⟨q2,q3⟩,⟨q4,q5,q6⟩,xr0⟩:=hcl V8 hf8
    obtain⟨y0,y1,y2,y3⟩:=A2w xe
    obtain⟨c0',c1'⟩:=A0x xcV
    go_wp2_with fail
    refine hset.mono ?_
    rintro r w12 ⟨a8,n8,c8,rfl,hR8,hb12⟩
    have hz8:W5.heap.size≤V8.heap.size:=hV8.size
    have hz12:=hb12.size
    have xc12:=(hb12.block _ (by omega)).trans xcV
    clear q0 q1 q2 q3 q4 q5 q6 xr0 y0 y1 y2 y3 c0' c1'
    obtain⟨c0',c1'⟩:=A0x xc12
    have fc:=A0b xc12
    go_wp2_with fail
    go_roundg (m0 - (k+1))
    case measure=>omega
    case rel=>
     refine⟨k+1,a8,n8,c8,_,by omega,by go_num,A0e _ _ _ _ _ _ (A0e _ _ _ _ _ _ xc12),fun u' ho=>hR8 u' _ (by simp) (fun k h1 h2=>by rw[Below.heap_setCell _ _ _ k (show k≠w.heap.size+1 from h2),Below.heap_setCell _ _ _ k (show k≠w.heap.size+1 from h2)]) ho,rfl,?_⟩
     exact(hf8.trans (FrB.of_below (F:=[]) hb12) (fun i h=>h) (fun i h=>by simp at h)).trans (FrB.set2 xc12 (by decide)) (fun i h=>h) (fun i h=>.inl h)
  ·have HLF:Hid (l'=(BO.vals y).foldl (A1x (jnB g.msgs d) g.msgs fs) (BO.vals x)):=by
    show _=_
    rw[HLE.out,List.take_of_length_le (by rw[←Hm0.out];omega)]
   have xbr:=(hfr.block _ (by omega) (.inl (by simp))).trans xb
   go_upto_region 10 with fail
   go_cut [54] from 47 to 53 (fun _ wc=>∃ (i':Option Addr) (j' z':Nat),wc.heap[w.heap.size+1]?=some (.cells #[.slice a' n' c',.slice i' j' z'] 29 (0,0))∧Row ekR wc wr.heap.size (.slice i' j' z') (lx++ly)∧FrB [w.heap.size+1] wr wc)
   case first=>
    obtain⟨X1,HX1⟩:∃ X1,Hid (X1=(wr.alloc (.cells #[] 73)).drew):=⟨_,rfl⟩
    have hDt:Below wr.heap.size wr wr.drew:=(Below.refl _ _).drew
    have hX1:Below wr.heap.size wr X1:=by rw[HX1.out];exact((Below.refl _ _).alloc (Nat.le_refl _) _).drew
    have xX1:X1.heap[wr.heap.size]?=some (.cells #[] 73 (0,0)):=by rw[HX1.out];exact heap_alloc_new wr _
    have hrX:=Row.empT (ekR) (base:=wr.heap.size) (Nat.le_refl _) xX1
    have hclt:∀ U,Below wr.heap.size wr U→U.cell? ⟨w.heap.size+1,1,none⟩=some (.slice a1 n1 c1)∧U.frozen? ⟨w.heap.size+1,1,none⟩=false∧U.cell? ⟨w.heap.size+2,1,none⟩=some (.slice b1 m1 d1):=fun U hU=>⟨A0a ((hU.block _ (by omega)).trans xc) 1 _ rfl,A0b ((hU.block _ (by omega)).trans xc) 1,A0a ((hU.block _ (by omega)).trans xbr) 1 _ rfl⟩
    have hsAt:=(sx.below hbw).below hX1
    obtain⟨u1,u2,u3⟩:=hclt _ hDt
    obtain⟨u4,u5,u6⟩:=hclt _ hX1
    refine wp_region_held_drew (S:=fun _=>True) (by kernel_rfl) trivial (fun hHeld=>?_)
    refine tK (i:=1) (v:=?vt1) rfl (fun _ _ _ h=>h) ⟨by rfl,?hyt1⟩ (by assumption) ?_
    case hyt1=>(intro W hSw;(try dsimp only at hSw);go_simp;first|done|with_reducible rfl)
    try simp only[pT,Act.put]
    refine tK (i:=4) (v:=?vt2) rfl (fun _ _ _ h=>h) ⟨by rfl,?hyt2⟩ (by assumption) ?_
    case hyt2=>(intro W hSw;(try dsimp only at hSw);go_simp;first|done|with_reducible rfl)
    try simp only[pT,Act.put]
    refine wpAnyH_ready (rs:=[0,2,5]) (by kernel_rfl) (by simp) ?_
    refine AllReadyH.cons rfl (fun K hK=>?_) (AllReadyH.cons rfl (fun K hK=>?_) (AllReadyH.cons rfl (fun K hK=>?_) AllReadyH.nil))
    ·skip
     go_simp
     rw[←HX1.out]
     refine hK.out _ _ ?_ (fun hHeld=>?_)
     ·(try dsimp only);try exact trivial
     clear hK K
     try simp only[pT,Act.put]
     refine wpAnyH_ready (rs:=[2,5]) (by kernel_rfl) (by simp) ?_
     refine AllReadyH.cons rfl (fun K hK=>?_) (AllReadyH.cons rfl (fun K hK=>?_) AllReadyH.nil)
     ·skip
      go_simp
      refine hK.out _ _ ?_ (fun hHeld=>?_)
      ·(try dsimp only);try exact trivial
      clear hK K
      try simp only[pT,Act.put]
      refine wpAnyH_ready (rs:=[3,5]) (by kernel_rfl) (by simp) ?_
      refine AllReadyH.cons rfl (fun K hK=>?_) (AllReadyH.cons rfl (fun K hK=>?_) AllReadyH.nil)
      ·skip
       skip
       refine A0d (by rfl) (ekR) _ _ (by rfl) wr.heap.size (.slice (some ⟨wr.heap.size,0,none⟩) 0 0) [] lx (by rfl) hrX a1 n1 c1 (by rfl) hsAt.1 hsAt.2.1 hsAt.2.2 (show 1≤48 by omega) (by show(0+_)*48≤_;rw[Nat.zero_add];exact g1) hX1.size ?_
       intro v5 w5 hr5 hg5
       obtain⟨a5,n5,c5,rfl,H5⟩:=hr5.shape'
       have hB5:Below wr.heap.size wr w5:=hX1.grown hg5 hX1.size (fun k hk=>(hrX.own k hk).1)
       have hsB:=(sy.below hbw).below hB5
       obtain⟨u7,u8,u9⟩:=hclt _ hB5
       refine hK.out _ _ ?_ (fun hHeld=>?_)
       ·(try dsimp only);try exact trivial
       clear hK K
       try simp only[pT,Act.put]
       refine wpAnyH_ready (rs:=[5]) (by kernel_rfl) (by simp) ?_
       refine AllReadyH.cons rfl (fun K hK=>?_) AllReadyH.nil
       go_simp
       refine hK.out _ _ ?_ (fun hHeld=>?_)
       ·(try dsimp only);try exact trivial
       clear hK K
       try simp only[pT,Act.put]
       refine wpAnyH_ready (rs:=[6]) (by kernel_rfl) (by simp) ?_
       refine AllReadyH.cons rfl (fun K hK=>?_) AllReadyH.nil
       skip
       refine A0d (by rfl) (ekR) _ _ (by rfl) wr.heap.size (.slice a5 n5 c5) ([]++lx) ly (by rfl) hr5 b1 m1 d1 (by rfl) hsB.1 hsB.2.1 hsB.2.2 (show 1≤48 by omega) k1' hB5.size ?_
       intro v7 w7 hr7 hg7
       obtain⟨a7,n7,c7,rfl,H7⟩:=hr7.shape'
       have hB7:Below wr.heap.size wr w7:=hB5.grown hg7 hB5.size (fun k hk=>(hr5.own k hk).1)
       have hA7:=(hB7.block _ (by omega)).trans xc
       obtain⟨u10,u11,u12⟩:=hclt _ hB7
       refine hK.out _ _ ?_ (fun hHeld=>?_)
       ·(try dsimp only);try exact trivial
       clear hK K
       try simp only[pT,Act.put]
       refine tK (i:=7) (v:=?vt3) rfl (fun _ _ _ h=>h) ⟨by rfl,?hyt3⟩ (by assumption) ?_
       case hyt3=>(intro W hSw;(try dsimp only at hSw);go_simp;first|done|with_reducible rfl)
       try simp only[pT,Act.put]
       refine wpAnyH_ready (rs:=[8]) (by kernel_rfl) (by simp) ?_
       refine AllReadyH.cons rfl (fun K hK=>?_) AllReadyH.nil
       go_simp
       refine hK.out _ _ ?_ (fun hHeld=>?_)
       ·(try dsimp only);try exact trivial
       clear hK K
       try simp only[pT,Act.put]
       refine wpAnyH_done (by kernel_rfl) ?_ _
       go_wp2_with fail
       go_meet
       exact⟨a7,n7,c7,A0e _ _ _ _ _ _ hA7,hr7.set4 (by omega),FrB.setT xc (by decide) hB7⟩
      ·skip
       go_simp
       refine hK.out _ _ ?_ (fun hHeld=>?_)
       ·(try dsimp only);try exact trivial
       clear hK K
       try simp only[pT,Act.put]
       refine wpAnyH_ready (rs:=[3]) (by kernel_rfl) (by simp) ?_
       refine AllReadyH.cons rfl (fun K hK=>?_) AllReadyH.nil
       skip
       refine A0d (by rfl) (ekR) _ _ (by rfl) wr.heap.size (.slice (some ⟨wr.heap.size,0,none⟩) 0 0) [] lx (by rfl) hrX a1 n1 c1 (by rfl) hsAt.1 hsAt.2.1 hsAt.2.2 (show 1≤48 by omega) (by show(0+_)*48≤_;rw[Nat.zero_add];exact g1) hX1.size ?_
       intro v5 w5 hr5 hg5
       obtain⟨a5,n5,c5,rfl,H5⟩:=hr5.shape'
       have hB5:Below wr.heap.size wr w5:=hX1.grown hg5 hX1.size (fun k hk=>(hrX.own k hk).1)
       have hsB:=(sy.below hbw).below hB5
       obtain⟨u7,u8,u9⟩:=hclt _ hB5
       refine hK.out _ _ ?_ (fun hHeld=>?_)
       ·(try dsimp only);try exact trivial
       clear hK K
       try simp only[pT,Act.put]
       refine wpAnyH_ready (rs:=[6]) (by kernel_rfl) (by simp) ?_
       refine AllReadyH.cons rfl (fun K hK=>?_) AllReadyH.nil
       skip
       refine A0d (by rfl) (ekR) _ _ (by rfl) wr.heap.size (.slice a5 n5 c5) ([]++lx) ly (by rfl) hr5 b1 m1 d1 (by rfl) hsB.1 hsB.2.1 hsB.2.2 (show 1≤48 by omega) k1' hB5.size ?_
       intro v7 w7 hr7 hg7
       obtain⟨a7,n7,c7,rfl,H7⟩:=hr7.shape'
       have hB7:Below wr.heap.size wr w7:=hB5.grown hg7 hB5.size (fun k hk=>(hr5.own k hk).1)
       have hA7:=(hB7.block _ (by omega)).trans xc
       obtain⟨u10,u11,u12⟩:=hclt _ hB7
       refine hK.out _ _ ?_ (fun hHeld=>?_)
       ·(try dsimp only);try exact trivial
       clear hK K
       try simp only[pT,Act.put]
       refine tK (i:=7) (v:=?vt4) rfl (fun _ _ _ h=>h) ⟨by rfl,?hyt4⟩ (by assumption) ?_
       case hyt4=>(intro W hSw;(try dsimp only at hSw);go_simp;first|done|with_reducible rfl)
       try simp only[pT,Act.put]
       refine wpAnyH_ready (rs:=[8]) (by kernel_rfl) (by simp) ?_
       refine AllReadyH.cons rfl (fun K hK=>?_) AllReadyH.nil
       go_simp
       refine hK.out _ _ ?_ (fun hHeld=>?_)
       ·(try dsimp only);try exact trivial
       clear hK K
       try simp only[pT,Act.put]
       refine wpAnyH_done (by kernel_rfl) ?_ _
       go_wp2_with fail
       go_meet
       exact⟨a7,n7,c7,A0e _ _ _ _ _ _ hA7,hr7.set4 (by omega),FrB.setT xc (by decide) hB7⟩
     ·skip
      go_simp
      refine hK.out _ _ ?_ (fun hHeld=>?_)
      ·(try dsimp only);try exact trivial
      clear hK K
      try simp only[pT,Act.put]
      refine wpAnyH_ready (rs:=[2]) (by kernel_rfl) (by simp) ?_
      refine AllReadyH.cons rfl (fun K hK=>?_) AllReadyH.nil
      go_simp
      refine hK.out _ _ ?_ (fun hHeld=>?_)
      ·(try dsimp only);try exact trivial
      clear hK K
      try simp only[pT,Act.put]
      refine wpAnyH_ready (rs:=[3]) (by kernel_rfl) (by simp) ?_
      refine AllReadyH.cons rfl (fun K hK=>?_) AllReadyH.nil
      skip
      refine A0d (by rfl) (ekR) _ _ (by rfl) wr.heap.size (.slice (some ⟨wr.heap.size,0,none⟩) 0 0) [] lx (by rfl) hrX a1 n1 c1 (by rfl) hsAt.1 hsAt.2.1 hsAt.2.2 (show 1≤48 by omega) (by show(0+_)*48≤_;rw[Nat.zero_add];exact g1) hX1.size ?_
      intro v5 w5 hr5 hg5
      obtain⟨a5,n5,c5,rfl,H5⟩:=hr5.shape'
      have hB5:Below wr.heap.size wr w5:=hX1.grown hg5 hX1.size (fun k hk=>(hrX.own k hk).1)
      have hsB:=(sy.below hbw).below hB5
      obtain⟨u7,u8,u9⟩:=hclt _ hB5
      refine hK.out _ _ ?_ (fun hHeld=>?_)
      ·(try dsimp only);try exact trivial
      clear hK K
      try simp only[pT,Act.put]
      refine wpAnyH_ready (rs:=[6]) (by kernel_rfl) (by simp) ?_
      refine AllReadyH.cons rfl (fun K hK=>?_) AllReadyH.nil
      skip
      refine A0d (by rfl) (ekR) _ _ (by rfl) wr.heap.size (.slice a5 n5 c5) ([]++lx) ly (by rfl) hr5 b1 m1 d1 (by rfl) hsB.1 hsB.2.1 hsB.2.2 (show 1≤48 by omega) k1' hB5.size ?_
      intro v7 w7 hr7 hg7
      obtain⟨a7,n7,c7,rfl,H7⟩:=hr7.shape'
      have hB7:Below wr.heap.size wr w7:=hB5.grown hg7 hB5.size (fun k hk=>(hr5.own k hk).1)
      have hA7:=(hB7.block _ (by omega)).trans xc
      obtain⟨u10,u11,u12⟩:=hclt _ hB7
      refine hK.out _ _ ?_ (fun hHeld=>?_)
      ·(try dsimp only);try exact trivial
      clear hK K
      try simp only[pT,Act.put]
      refine tK (i:=7) (v:=?vt5) rfl (fun _ _ _ h=>h) ⟨by rfl,?hyt5⟩ (by assumption) ?_
      case hyt5=>(intro W hSw;(try dsimp only at hSw);go_simp;first|done|with_reducible rfl)
      try simp only[pT,Act.put]
      refine wpAnyH_ready (rs:=[8]) (by kernel_rfl) (by simp) ?_
      refine AllReadyH.cons rfl (fun K hK=>?_) AllReadyH.nil
      go_simp
      refine hK.out _ _ ?_ (fun hHeld=>?_)
      ·(try dsimp only);try exact trivial
      clear hK K
      try simp only[pT,Act.put]
      refine wpAnyH_done (by kernel_rfl) ?_ _
      go_wp2_with fail
      go_meet
      exact⟨a7,n7,c7,A0e _ _ _ _ _ _ hA7,hr7.set4 (by omega),FrB.setT xc (by decide) hB7⟩
    ·skip
     go_simp
     refine hK.out _ _ ?_ (fun hHeld=>?_)
     ·(try dsimp only);try exact trivial
     clear hK K
     try simp only[pT,Act.put]
     refine wpAnyH_ready (rs:=[0,5]) (by kernel_rfl) (by simp) ?_
     refine AllReadyH.cons rfl (fun K hK=>?_) (AllReadyH.cons rfl (fun K hK=>?_) AllReadyH.nil)
     ·skip
      go_simp
      rw[←HX1.out]
      refine hK.out _ _ ?_ (fun hHeld=>?_)
      ·(try dsimp only);try exact trivial
      clear hK K
      try simp only[pT,Act.put]
      refine wpAnyH_ready (rs:=[3,5]) (by kernel_rfl) (by simp) ?_
      refine AllReadyH.cons rfl (fun K hK=>?_) (AllReadyH.cons rfl (fun K hK=>?_) AllReadyH.nil)
      ·skip
       skip
       refine A0d (by rfl) (ekR) _ _ (by rfl) wr.heap.size (.slice (some ⟨wr.heap.size,0,none⟩) 0 0) [] lx (by rfl) hrX a1 n1 c1 (by rfl) hsAt.1 hsAt.2.1 hsAt.2.2 (show 1≤48 by omega) (by show(0+_)*48≤_;rw[Nat.zero_add];exact g1) hX1.size ?_
       intro v5 w5 hr5 hg5
       obtain⟨a5,n5,c5,rfl,H5⟩:=hr5.shape'
       have hB5:Below wr.heap.size wr w5:=hX1.grown hg5 hX1.size (fun k hk=>(hrX.own k hk).1)
       have hsB:=(sy.below hbw).below hB5
       obtain⟨u7,u8,u9⟩:=hclt _ hB5
       refine hK.out _ _ ?_ (fun hHeld=>?_)
       ·(try dsimp only);try exact trivial
       clear hK K
       try simp only[pT,Act.put]
       refine wpAnyH_ready (rs:=[5]) (by kernel_rfl) (by simp) ?_
       refine AllReadyH.cons rfl (fun K hK=>?_) AllReadyH.nil
       go_simp
       refine hK.out _ _ ?_ (fun hHeld=>?_)
       ·(try dsimp only);try exact trivial
       clear hK K
       try simp only[pT,Act.put]
       refine wpAnyH_ready (rs:=[6]) (by kernel_rfl) (by simp) ?_
       refine AllReadyH.cons rfl (fun K hK=>?_) AllReadyH.nil
       skip
       refine A0d (by rfl) (ekR) _ _ (by rfl) wr.heap.size (.slice a5 n5 c5) ([]++lx) ly (by rfl) hr5 b1 m1 d1 (by rfl) hsB.1 hsB.2.1 hsB.2.2 (show 1≤48 by omega) k1' hB5.size ?_
       intro v7 w7 hr7 hg7
       obtain⟨a7,n7,c7,rfl,H7⟩:=hr7.shape'
       have hB7:Below wr.heap.size wr w7:=hB5.grown hg7 hB5.size (fun k hk=>(hr5.own k hk).1)
       have hA7:=(hB7.block _ (by omega)).trans xc
       obtain⟨u10,u11,u12⟩:=hclt _ hB7
       refine hK.out _ _ ?_ (fun hHeld=>?_)
       ·(try dsimp only);try exact trivial
       clear hK K
       try simp only[pT,Act.put]
       refine tK (i:=7) (v:=?vt6) rfl (fun _ _ _ h=>h) ⟨by rfl,?hyt6⟩ (by assumption) ?_
       case hyt6=>(intro W hSw;(try dsimp only at hSw);go_simp;first|done|with_reducible rfl)
       try simp only[pT,Act.put]
       refine wpAnyH_ready (rs:=[8]) (by kernel_rfl) (by simp) ?_
       refine AllReadyH.cons rfl (fun K hK=>?_) AllReadyH.nil
       go_simp
       refine hK.out _ _ ?_ (fun hHeld=>?_)
       ·(try dsimp only);try exact trivial
       clear hK K
       try simp only[pT,Act.put]
       refine wpAnyH_done (by kernel_rfl) ?_ _
       go_wp2_with fail
       go_meet
       exact⟨a7,n7,c7,A0e _ _ _ _ _ _ hA7,hr7.set4 (by omega),FrB.setT xc (by decide) hB7⟩
      ·skip
       go_simp
       refine hK.out _ _ ?_ (fun hHeld=>?_)
       ·(try dsimp only);try exact trivial
       clear hK K
       try simp only[pT,Act.put]
       refine wpAnyH_ready (rs:=[3]) (by kernel_rfl) (by simp) ?_
       refine AllReadyH.cons rfl (fun K hK=>?_) AllReadyH.nil
       skip
       refine A0d (by rfl) (ekR) _ _ (by rfl) wr.heap.size (.slice (some ⟨wr.heap.size,0,none⟩) 0 0) [] lx (by rfl) hrX a1 n1 c1 (by rfl) hsAt.1 hsAt.2.1 hsAt.2.2 (show 1≤48 by omega) (by show(0+_)*48≤_;rw[Nat.zero_add];exact g1) hX1.size ?_
       intro v5 w5 hr5 hg5
       obtain⟨a5,n5,c5,rfl,H5⟩:=hr5.shape'
       have hB5:Below wr.heap.size wr w5:=hX1.grown hg5 hX1.size (fun k hk=>(hrX.own k hk).1)
       have hsB:=(sy.below hbw).below hB5
       obtain⟨u7,u8,u9⟩:=hclt _ hB5
       refine hK.out _ _ ?_ (fun hHeld=>?_)
       ·(try dsimp only);try exact trivial
       clear hK K
       try simp only[pT,Act.put]
       refine wpAnyH_ready (rs:=[6]) (by kernel_rfl) (by simp) ?_
       refine AllReadyH.cons rfl (fun K hK=>?_) AllReadyH.nil
       skip
       refine A0d (by rfl) (ekR) _ _ (by rfl) wr.heap.size (.slice a5 n5 c5) ([]++lx) ly (by rfl) hr5 b1 m1 d1 (by rfl) hsB.1 hsB.2.1 hsB.2.2 (show 1≤48 by omega) k1' hB5.size ?_
       intro v7 w7 hr7 hg7
       obtain⟨a7,n7,c7,rfl,H7⟩:=hr7.shape'
       have hB7:Below wr.heap.size wr w7:=hB5.grown hg7 hB5.size (fun k hk=>(hr5.own k hk).1)
       have hA7:=(hB7.block _ (by omega)).trans xc
       obtain⟨u10,u11,u12⟩:=hclt _ hB7
       refine hK.out _ _ ?_ (fun hHeld=>?_)
       ·(try dsimp only);try exact trivial
       clear hK K
       try simp only[pT,Act.put]
       refine tK (i:=7) (v:=?vt7) rfl (fun _ _ _ h=>h) ⟨by rfl,?hyt7⟩ (by assumption) ?_
       case hyt7=>(intro W hSw;(try dsimp only at hSw);go_simp;first|done|with_reducible rfl)
       try simp only[pT,Act.put]
       refine wpAnyH_ready (rs:=[8]) (by kernel_rfl) (by simp) ?_
       refine AllReadyH.cons rfl (fun K hK=>?_) AllReadyH.nil
       go_simp
       refine hK.out _ _ ?_ (fun hHeld=>?_)
       ·(try dsimp only);try exact trivial
       clear hK K
       try simp only[pT,Act.put]
       refine wpAnyH_done (by kernel_rfl) ?_ _
       go_wp2_with fail
       go_meet
       exact⟨a7,n7,c7,A0e _ _ _ _ _ _ hA7,hr7.set4 (by omega),FrB.setT xc (by decide) hB7⟩
     ·skip
      go_simp
      refine hK.out _ _ ?_ (fun hHeld=>?_)
      ·(try dsimp only);try exact trivial
      clear hK K
      try simp only[pT,Act.put]
      refine wpAnyH_ready (rs:=[0]) (by kernel_rfl) (by simp) ?_
      refine AllReadyH.cons rfl (fun K hK=>?_) AllReadyH.nil
      go_simp
      rw[←HX1.out]
      refine hK.out _ _ ?_ (fun hHeld=>?_)
      ·(try dsimp only);try exact trivial
      clear hK K
      try simp only[pT,Act.put]
      refine wpAnyH_ready (rs:=[3]) (by kernel_rfl) (by simp) ?_
      refine AllReadyH.cons rfl (fun K hK=>?_) AllReadyH.nil
      skip
      refine A0d (by rfl) (ekR) _ _ (by rfl) wr.heap.size (.slice (some ⟨wr.heap.size,0,none⟩) 0 0) [] lx (by rfl) hrX a1 n1 c1 (by rfl) hsAt.1 hsAt.2.1 hsAt.2.2 (show 1≤48 by omega) (by show(0+_)*48≤_;rw[Nat.zero_add];exact g1) hX1.size ?_
      intro v5 w5 hr5 hg5
      obtain⟨a5,n5,c5,rfl,H5⟩:=hr5.shape'
      have hB5:Below wr.heap.size wr w5:=hX1.grown hg5 hX1.size (fun k hk=>(hrX.own k hk).1)
      have hsB:=(sy.below hbw).below hB5
      obtain⟨u7,u8,u9⟩:=hclt _ hB5
      refine hK.out _ _ ?_ (fun hHeld=>?_)
      ·(try dsimp only);try exact trivial
      clear hK K
      try simp only[pT,Act.put]
      refine wpAnyH_ready (rs:=[6]) (by kernel_rfl) (by simp) ?_
      refine AllReadyH.cons rfl (fun K hK=>?_) AllReadyH.nil
      skip
      refine A0d (by rfl) (ekR) _ _ (by rfl) wr.heap.size (.slice a5 n5 c5) ([]++lx) ly (by rfl) hr5 b1 m1 d1 (by rfl) hsB.1 hsB.2.1 hsB.2.2 (show 1≤48 by omega) k1' hB5.size ?_
      intro v7 w7 hr7 hg7
      obtain⟨a7,n7,c7,rfl,H7⟩:=hr7.shape'
      have hB7:Below wr.heap.size wr w7:=hB5.grown hg7 hB5.size (fun k hk=>(hr5.own k hk).1)
      have hA7:=(hB7.block _ (by omega)).trans xc
      obtain⟨u10,u11,u12⟩:=hclt _ hB7
      refine hK.out _ _ ?_ (fun hHeld=>?_)
      ·(try dsimp only);try exact trivial
      clear hK K
      try simp only[pT,Act.put]
      refine tK (i:=7) (v:=?vt8) rfl (fun _ _ _ h=>h) ⟨by rfl,?hyt8⟩ (by assumption) ?_
      case hyt8=>(intro W hSw;(try dsimp only at hSw);go_simp;first|done|with_reducible rfl)
      try simp only[pT,Act.put]
      refine wpAnyH_ready (rs:=[8]) (by kernel_rfl) (by simp) ?_
      refine AllReadyH.cons rfl (fun K hK=>?_) AllReadyH.nil
      go_simp
      refine hK.out _ _ ?_ (fun hHeld=>?_)
      ·(try dsimp only);try exact trivial
      clear hK K
      try simp only[pT,Act.put]
      refine wpAnyH_done (by kernel_rfl) ?_ _
      go_wp2_with fail
      go_meet
      exact⟨a7,n7,c7,A0e _ _ _ _ _ _ hA7,hr7.set4 (by omega),FrB.setT xc (by decide) hB7⟩
    ·skip
     go_simp
     refine hK.out _ _ ?_ (fun hHeld=>?_)
     ·(try dsimp only);try exact trivial
     clear hK K
     try simp only[pT,Act.put]
     refine wpAnyH_ready (rs:=[0,2]) (by kernel_rfl) (by simp) ?_
     refine AllReadyH.cons rfl (fun K hK=>?_) (AllReadyH.cons rfl (fun K hK=>?_) AllReadyH.nil)
     ·skip
      go_simp
      rw[←HX1.out]
      refine hK.out _ _ ?_ (fun hHeld=>?_)
      ·(try dsimp only);try exact trivial
      clear hK K
      try simp only[pT,Act.put]
      refine wpAnyH_ready (rs:=[2]) (by kernel_rfl) (by simp) ?_
      refine AllReadyH.cons rfl (fun K hK=>?_) AllReadyH.nil
      go_simp
      refine hK.out _ _ ?_ (fun hHeld=>?_)
      ·(try dsimp only);try exact trivial
      clear hK K
      try simp only[pT,Act.put]
      refine wpAnyH_ready (rs:=[3]) (by kernel_rfl) (by simp) ?_
      refine AllReadyH.cons rfl (fun K hK=>?_) AllReadyH.nil
      skip
      refine A0d (by rfl) (ekR) _ _ (by rfl) wr.heap.size (.slice (some ⟨wr.heap.size,0,none⟩) 0 0) [] lx (by rfl) hrX a1 n1 c1 (by rfl) hsAt.1 hsAt.2.1 hsAt.2.2 (show 1≤48 by omega) (by show(0+_)*48≤_;rw[Nat.zero_add];exact g1) hX1.size ?_
      intro v5 w5 hr5 hg5
      obtain⟨a5,n5,c5,rfl,H5⟩:=hr5.shape'
      have hB5:Below wr.heap.size wr w5:=hX1.grown hg5 hX1.size (fun k hk=>(hrX.own k hk).1)
      have hsB:=(sy.below hbw).below hB5
      obtain⟨u7,u8,u9⟩:=hclt _ hB5
      refine hK.out _ _ ?_ (fun hHeld=>?_)
      ·(try dsimp only);try exact trivial
      clear hK K
      try simp only[pT,Act.put]
      refine wpAnyH_ready (rs:=[6]) (by kernel_rfl) (by simp) ?_
      refine AllReadyH.cons rfl (fun K hK=>?_) AllReadyH.nil
      skip
      refine A0d (by rfl) (ekR) _ _ (by rfl) wr.heap.size (.slice a5 n5 c5) ([]++lx) ly (by rfl) hr5 b1 m1 d1 (by rfl) hsB.1 hsB.2.1 hsB.2.2 (show 1≤48 by omega) k1' hB5.size ?_
      intro v7 w7 hr7 hg7
      obtain⟨a7,n7,c7,rfl,H7⟩:=hr7.shape'
      have hB7:Below wr.heap.size wr w7:=hB5.grown hg7 hB5.size (fun k hk=>(hr5.own k hk).1)
      have hA7:=(hB7.block _ (by omega)).trans xc
      obtain⟨u10,u11,u12⟩:=hclt _ hB7
      refine hK.out _ _ ?_ (fun hHeld=>?_)
      ·(try dsimp only);try exact trivial
      clear hK K
      try simp only[pT,Act.put]
      refine tK (i:=7) (v:=?vt9) rfl (fun _ _ _ h=>h) ⟨by rfl,?hyt9⟩ (by assumption) ?_
      case hyt9=>(intro W hSw;(try dsimp only at hSw);go_simp;first|done|with_reducible rfl)
      try simp only[pT,Act.put]
      refine wpAnyH_ready (rs:=[8]) (by kernel_rfl) (by simp) ?_
      refine AllReadyH.cons rfl (fun K hK=>?_) AllReadyH.nil
      go_simp
      refine hK.out _ _ ?_ (fun hHeld=>?_)
      ·(try dsimp only);try exact trivial
      clear hK K
      try simp only[pT,Act.put]
      refine wpAnyH_done (by kernel_rfl) ?_ _
      go_wp2_with fail
      go_meet
      exact⟨a7,n7,c7,A0e _ _ _ _ _ _ hA7,hr7.set4 (by omega),FrB.setT xc (by decide) hB7⟩
     ·skip
      go_simp
      refine hK.out _ _ ?_ (fun hHeld=>?_)
      ·(try dsimp only);try exact trivial
      clear hK K
      try simp only[pT,Act.put]
      refine wpAnyH_ready (rs:=[0]) (by kernel_rfl) (by simp) ?_
      refine AllReadyH.cons rfl (fun K hK=>?_) AllReadyH.nil
      go_simp
      rw[←HX1.out]
      refine hK.out _ _ ?_ (fun hHeld=>?_)
      ·(try dsimp only);try exact trivial
      clear hK K
      try simp only[pT,Act.put]
      refine wpAnyH_ready (rs:=[3]) (by kernel_rfl) (by simp) ?_
      refine AllReadyH.cons rfl (fun K hK=>?_) AllReadyH.nil
      skip
      refine A0d (by rfl) (ekR) _ _ (by rfl) wr.heap.size (.slice (some ⟨wr.heap.size,0,none⟩) 0 0) [] lx (by rfl) hrX a1 n1 c1 (by rfl) hsAt.1 hsAt.2.1 hsAt.2.2 (show 1≤48 by omega) (by show(0+_)*48≤_;rw[Nat.zero_add];exact g1) hX1.size ?_
      intro v5 w5 hr5 hg5
      obtain⟨a5,n5,c5,rfl,H5⟩:=hr5.shape'
      have hB5:Below wr.heap.size wr w5:=hX1.grown hg5 hX1.size (fun k hk=>(hrX.own k hk).1)
      have hsB:=(sy.below hbw).below hB5
      obtain⟨u7,u8,u9⟩:=hclt _ hB5
      refine hK.out _ _ ?_ (fun hHeld=>?_)
      ·(try dsimp only);try exact trivial
      clear hK K
      try simp only[pT,Act.put]
      refine wpAnyH_ready (rs:=[6]) (by kernel_rfl) (by simp) ?_
      refine AllReadyH.cons rfl (fun K hK=>?_) AllReadyH.nil
      skip
      refine A0d (by rfl) (ekR) _ _ (by rfl) wr.heap.size (.slice a5 n5 c5) ([]++lx) ly (by rfl) hr5 b1 m1 d1 (by rfl) hsB.1 hsB.2.1 hsB.2.2 (show 1≤48 by omega) k1' hB5.size ?_
      intro v7 w7 hr7 hg7
      obtain⟨a7,n7,c7,rfl,H7⟩:=hr7.shape'
      have hB7:Below wr.heap.size wr w7:=hB5.grown hg7 hB5.size (fun k hk=>(hr5.own k hk).1)
      have hA7:=(hB7.block _ (by omega)).trans xc
      obtain⟨u10,u11,u12⟩:=hclt _ hB7
      refine hK.out _ _ ?_ (fun hHeld=>?_)
      ·(try dsimp only);try exact trivial
      clear hK K
      try simp only[pT,Act.put]
      refine tK (i:=7) (v:=?vt10) rfl (fun _ _ _ h=>h) ⟨by rfl,?hyt10⟩ (by assumption) ?_
      case hyt10=>(intro W hSw;(try dsimp only at hSw);go_simp;first|done|with_reducible rfl)
      try simp only[pT,Act.put]
      refine wpAnyH_ready (rs:=[8]) (by kernel_rfl) (by simp) ?_
      refine AllReadyH.cons rfl (fun K hK=>?_) AllReadyH.nil
      go_simp
      refine hK.out _ _ ?_ (fun hHeld=>?_)
      ·(try dsimp only);try exact trivial
      clear hK K
      try simp only[pT,Act.put]
      refine wpAnyH_done (by kernel_rfl) ?_ _
      go_wp2_with fail
      go_meet
      exact⟨a7,n7,c7,A0e _ _ _ _ _ _ hA7,hr7.set4 (by omega),FrB.setT xc (by decide) hB7⟩
   case rest=>
   obtain⟨i',j',z',xcf,hrF,hfF⟩:=hcut
   have hfE:FrB [w.heap.size+1] W2 wc:=hfr.trans hfF (fun i h=>h) (fun i h=>.inl h)
   clear q0 q1 q2 q3 q4 q5 q6 xr0
   obtain⟨⟨q0,q1⟩,⟨q2,q3⟩,⟨q4,q5,q6⟩,xr0⟩:=hcl wc hfE
   obtain⟨c0',c1'⟩:=A0x xcf
   obtain⟨r0',r1'⟩:=A0x xr0
   have fr0:=A0b xr0
   have hzc:=hfF.size
   have hbwc:=hwb wc hfE
   have ne1:¬ w.heap.size+1=w.heap.size+3:=by omega
   go_wp2_with fail
   refine bodyPost_ret (v:=.agg #[.slice a' n' c',.slice i' j' z']) (by simp[results,Tryz.results36,go_sem, *]) rfl ?_
   refine⟨a',n',c',i',j',z',rfl,fun u' ho=>?_,A0f (A0f hbwc (by omega)) (by omega)⟩
   rw[HRR.out,HJ.out]
   refine⟨?_,?_⟩
   ·have:=HL.out u' ((OverF.of (F:=[]) ho).back (by simp;omega) (fun k h1 h2 h3=>⟨by simp,?_⟩))
    ·rw[HLF.out] at this
     exact this
    ·simp only[List.mem_cons,List.not_mem_nil,or_false,not_or] at h3
     rw[Below.heap_setCell _ _ _ k (show k≠w.heap.size+3 from h3.2),Below.heap_setCell _ _ _ k (show k≠w.heap.size+3 from h3.2)]
     exact hfF.block k h2 (.inl (by simpa using h3.1))
   ·have:=kpR.rd (Row.over ((hrF.set4 (show w.heap.size+3 < wr.heap.size by omega)).set4 (show w.heap.size+3 < wr.heap.size by omega)) ho (by omega)) (fun z hz=>(List.mem_append.1 hz).elim (tx z) (ty z)) ho.sub
    rw[List.map_append,HU.out.1,HU.out.2] at this
    exact this
theorem B0m {g:GI}{W0:World}{am ae:Option Addr}{nm cm ne ce:Nat}(hg:GRd W0 (.slice am nm cm) (.slice ae ne ce) g):∀ d,A3r g W0 (.slice am nm cm) (.slice ae ne ce) d
 | 0=>fun _ _ _ _ _ _ _ _ _ _ _ _ _ h=>h.elim
 | d+1=>B4o hg (B0m hg d)
end L
end Go.Proofs.YtelmjekjohbmjaaGreatDoor
