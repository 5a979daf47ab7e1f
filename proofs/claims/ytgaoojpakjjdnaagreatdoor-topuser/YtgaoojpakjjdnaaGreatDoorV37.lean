import Derived.Test.YtgaoojpakjjdnaaGreatDoorV36
import Derived.Deep.RegionHeld3
import Derived.Deep.DeepCutAuto
import Derived.Deep.CutRange
set_option maxHeartbeats 32000000
set_option maxRecDepth 100000
namespace Go.Proofs.YtgaoojpakjjdnaaGreatDoor
namespace L
open Go.RowKit
theorem C1h {w:World}{g:Nat}{a0 a1 a2 a3:Value}{t:TypeId}(h:w.heap[g]?=some (.cells #[a0,a1,a2,a3] t (0,0))) :
  w.cell? ⟨g,0,none⟩=some a0∧w.cell? ⟨g,1,none⟩=some a1∧w.cell? ⟨g,2,none⟩=some a2∧w.cell? ⟨g,3,none⟩=some a3:=
 ⟨A0a h 0 _ rfl,A0a h 1 _ rfl,A0a h 2 _ rfl,A0a h 3 _ rfl⟩
theorem D7i {W V V':World}(h:Below W.heap.size W V) (k:Below V.heap.size V V'):Below W.heap.size W V':=h.trans (k.mono h.size)
def C3x (d:Nat):Prop:=∀ (s:BI d) (w:World) (b1 o1 b2 o2:Nat),BAt d w ⟨b1,o1,none⟩ s→BAt d w ⟨b2,o2,none⟩ s→
 ∃ (x0 x1 y0 y1:Option Addr) (n0 n1 m0 m1 c0 c1 e0 e1:Nat),w.cell? ⟨b1,o1,none⟩=some (.slice x0 n0 c0)∧w.cell? ⟨b1,o1+1,none⟩=some (.slice x1 n1 c1)∧w.cell? ⟨b2,o2,none⟩=some (.slice y0 m0 e0)∧w.cell? ⟨b2,o2+1,none⟩=some (.slice y1 m1 e1)∧
  ∀ V,Below w.heap.size w V→Calls Tryz.prog 15 #[.agg #[.slice x0 n0 c0,.slice x1 n1 c1],.agg #[.slice y0 m0 e0,.slice y1 m1 e1]] V fun e w'=>e = .returned (.bool true)∧Below V.heap.size V w'
theorem B7a {d:Nat}(cu:C3x d){w:World}{va ua vb ub:Value}{b:BO (BI d)}(h1:BRd d w va ua b) (h2:BRd d w vb ub b) :
  Calls Tryz.prog 15 #[.agg #[va,ua],.agg #[vb,ub]] w fun e w'=>e = .returned (.bool true)∧Below w.heap.size w w':=by
 obtain⟨aa,n,ca,rfl,bt,ik⟩:=h1.1.shape
 obtain⟨ab,n',cb,rfl,fd,_⟩:=h2.1.shape
 obtain⟨ea,ne,ga,rfl,ew,gg⟩:=h1.2.shape
 obtain⟨eb,gp,gb,rfl,fc,_⟩:=h2.2.shape
 obtain rfl:n=n':=by rw[bt.out,fd.out]
 obtain rfl:ne=gp:=by rw[ew.out,fc.out]
 obtain⟨W0,aj⟩:∃ W0,Hid (W0=(w.alloc (.cells #[.slice aa n ca,.slice ea ne ga] 29)).alloc (.cells #[.slice ab n cb,.slice eb ne gb] 29)):=⟨_,rfl⟩
 have bq:Below w.heap.size w W0:=by rw[aj.out];exact((Below.refl _ _).alloc (Nat.le_refl _) _).alloc (by simp) _
 have hx1:W0.heap[w.heap.size]?=some (.cells #[.slice aa n ca,.slice ea ne ga] 29 (0,0)):=by rw[aj.out];exact A0m _ _ _
 have hx2:W0.heap[w.heap.size+1]?=some (.cells #[.slice ab n cb,.slice eb ne gb] 29 (0,0)):=by rw[aj.out];exact A0i _ _ _
 have hz0:w.heap.size+2≤W0.heap.size:=by rw[aj.out];simp
 have eu:=C6u (h1.2.below RAt.stays bq) (h2.2.below RAt.stays bq)
 go_enter Tryz.func15,Tryz.ntmps15
 go_wp2_with fail
 rw[←aj.out]
 refine eu.mono ?_
 rintro e w1 ⟨rfl,hb1⟩
 clear eu
 have y1:=(hb1.block w.heap.size (by omega)).trans hx1
 have y2:=(hb1.block (w.heap.size+1) (by omega)).trans hx2
 obtain⟨dt,dv⟩:=A0t y1
 obtain⟨dw,dx⟩:=A0t y2
 go_wp2_with fail
 clear dt dv dw dx y1 y2
 go_loopg [29] n (fun m i wr=>∃ k:Nat,k+m=n∧i = .int .i64 k∧Below (w.heap.size+2) W0 wr)
 case atStart=>exact⟨0,by omega,rfl,hb1.mono (by omega)⟩
 case round=>
  clear hb1
  obtain⟨k,hk,rfl,hb⟩:=hrel
  obtain⟨wo,fk⟩:∃ wo,wo=wr:=⟨_,rfl⟩
  subst fk
  have br:Below w.heap.size w wo:=bq.trans (hb.mono (by omega))
  have eo:=h1.below br
  have hf2:=h2.below br
  have y1:=(hb.block w.heap.size (by omega)).trans hx1
  have y2:=(hb.block (w.heap.size+1) (by omega)).trans hx2
  obtain⟨dt,dv⟩:=A0t y1
  obtain⟨dw,dx⟩:=A0t y2
  have gh:w.heap.size+2≤wo.heap.size:=by have:=hb.size;omega
  by_cases hlt:k < n
  ·obtain⟨vv,Hp⟩:∃ p,Hid (b.vals[k]?=some p):=⟨b.vals[k]'(by rw[←bt.out];exact hlt),List.getElem?_eq_getElem (by rw[←bt.out];exact hlt)⟩
   obtain⟨g1,o1,rfl,bg⟩:=eo.1.get VAt.plain Hp.out
   obtain⟨g2,o2,rfl,bh⟩:=hf2.1.get VAt.plain Hp.out
   obtain⟨p1,p2,p3,e0,e1,e2,e3,cw,df,dg⟩:=bg.at
   obtain⟨q1,q2,q3,t0,t1,t2,t3,dh,di,dl⟩:=bh.at
   obtain⟨dy,m1,c11,rfl,bu,ig⟩:=cw.shape
   obtain⟨dz,m2,c12,rfl,bv,ii⟩:=df.shape
   obtain⟨d9,m3,c13,rfl,bw,ij⟩:=dg.shape
   obtain⟨a21,gi,ee,rfl,fo,_⟩:=dh.shape
   obtain⟨a22,gj,eh,rfl,fq,_⟩:=di.shape
   obtain⟨a23,gl,c23,rfl,ft,_⟩:=dl.shape
   obtain rfl:m1=gi:=by rw[bu.out,fo.out]
   obtain rfl:m2=gj:=by rw[bv.out,fq.out]
   obtain rfl:m3=gl:=by rw[bw.out,ft.out]
   have ie:(k:Int) < (n:Int):=by omega
   have z0:w.heap.size < wo.heap.size:=by omega
   have z1:w.heap.size+1 < wo.heap.size:=by omega
   have z2:g2 < wo.heap.size:=World.block_lt_of_cell? wo _ t0
   clear bg bh eo hf2 y1 y2
   obtain⟨W1,ak⟩:∃ W1,Hid (W1=(wo.alloc (.cells #[.int .i64 vv.number,.slice dy m1 c11,.slice dz m2 c12,.slice d9 m3 c13] 62)).alloc (.cells #[.int .i64 vv.number,.slice a21 m1 ee,.slice a22 m2 eh,.slice a23 m3 c23] 62)):=⟨_,rfl⟩
   have bc:Below wo.heap.size wo W1:=by rw[ak.out];exact((Below.refl _ _).alloc (Nat.le_refl _) _).alloc (by simp) _
   have v1:W1.heap[wo.heap.size]?=some (.cells #[.int .i64 vv.number,.slice dy m1 c11,.slice dz m2 c12,.slice d9 m3 c13] 62 (0,0)):=by rw[ak.out];exact A0m _ _ _
   have v2:W1.heap[wo.heap.size+1]?=some (.cells #[.int .i64 vv.number,.slice a21 m1 ee,.slice a22 m2 eh,.slice a23 m3 c23] 62 (0,0)):=by rw[ak.out];exact A0i _ _ _
   have hz1:wo.heap.size+2≤W1.heap.size:=by rw[ak.out];simp
   go_wp2_with fail
   rw[←ak.out]
   clear dt dv dw dx e0 e1 e2 e3 t0 t1 t2 t3
   go_loopg [74] m1 (fun m i wi=>∃ j:Nat,j+m=m1∧i = .int .i64 j∧Below (wo.heap.size+2) W1 wi)
   case atStart=>exact⟨0,by omega,rfl,Below.refl _ _⟩
   case round=>
    obtain⟨j,hj,rfl,a8⟩:=hrel
    have cg:Below wo.heap.size wo wr:=bc.trans (a8.mono (by omega))
    obtain⟨_,bk,bl,ag⟩:=C1h ((a8.block wo.heap.size (by omega)).trans v1)
    obtain⟨_,bn,bp,ah⟩:=C1h ((a8.block (wo.heap.size+1) (by omega)).trans v2)
    by_cases hjl:j < m1
    ·obtain⟨f,Hf⟩:∃ f,Hid (vv.bits[j]?=some f):=⟨vv.bits[j]'(by rw[←bu.out];exact hjl),List.getElem?_eq_getElem (by rw[←bu.out];exact hjl)⟩
     obtain⟨fz,gw,rfl,u1⟩:=(cw.below UAt.stays cg).get UAt.plain Hf.out
     obtain⟨f6,gy,rfl,u2⟩:=(dh.below UAt.stays cg).get UAt.plain Hf.out
     have s0:wr.cell? ⟨fz,gw+j,none⟩=some (.int .u64 (f:Int)):=by simpa [UAt] using u1
     have p0:wr.cell? ⟨f6,gy+j,none⟩=some (.int .u64 (f:Int)):=by simpa [UAt] using u2
     have et:(j:Int) < (m1:Int):=by omega
     clear u1 u2
     go_wp2_with fail
     go_quiet (fail)
     go_wp2_with fail
     go_roundg (m1 - (j+1))
     case measure=>omega
     case rel=>exact⟨j+1,by omega,by go_num,a8.trans (A7e _ _)⟩
    ·go_wp2_with fail
     obtain⟨wi,fe⟩:∃ wi,wi=wr:=⟨_,rfl⟩
     subst fe
     clear bk bl ag bn bp ah cg
     go_loopg [92] m2 (fun m i wj=>∃ j:Nat,j+m=m2∧i = .int .i64 j∧Below (wo.heap.size+2) W1 wj)
     case atStart=>exact⟨0,by omega,rfl,a8⟩
     case round=>
      clear a8
      obtain⟨j2,g8,rfl,ba⟩:=hrel
      have cj:Below wo.heap.size wo wr:=bc.trans (ba.mono (by omega))
      obtain⟨_,bk,bl,ag⟩:=C1h ((ba.block wo.heap.size (by omega)).trans v1)
      obtain⟨_,bn,bp,ah⟩:=C1h ((ba.block (wo.heap.size+1) (by omega)).trans v2)
      by_cases hjl2:j2 < m2
      ·obtain⟨y,Hy⟩:∃ y,Hid (vv.bytes[j2]?=some y):=⟨vv.bytes[j2]'(by rw[←bv.out];exact hjl2),List.getElem?_eq_getElem (by rw[←bv.out];exact hjl2)⟩
       obtain⟨gz,im,rfl,u1⟩:=(df.below ZAt.stays cj).get ZAt.plain Hy.out
       obtain⟨g7,io,rfl,u2⟩:=(di.below ZAt.stays cj).get ZAt.plain Hy.out
       obtain⟨f1,u1,dm⟩:=u1.at
       obtain⟨f2,u2,dn⟩:=u2.at
       obtain⟨fu,gq,fx,rfl,_,_⟩:=dm.shape
       obtain⟨fw,gu,fy,rfl,_,_⟩:=dn.shape
       rw[Nat.mul_one] at u1 u2
       have s1:∀ n,(convert 32 9 (.slice fu gq fx)).run Tryz.prog (wr.drewN n) = .ok (.string ⟨y.toArray⟩) (wr.drewN n):=fun n=>A7u (A5m dm n)
       have s2:∀ n,(convert 32 9 (.slice fw gu fy)).run Tryz.prog (wr.drewN n) = .ok (.string ⟨y.toArray⟩) (wr.drewN n):=fun n=>A7u (A5m dn n)
       have et:(j2:Int) < (m2:Int):=by omega
       clear dm dn
       go_wp2_with fail
       go_quiet (fail)
       go_wp2_with fail
       go_roundg (m2 - (j2+1))
       case measure=>omega
       case rel=>exact⟨j2+1,by omega,by go_num,ba.trans (A7e _ _)⟩
      ·go_wp2_with fail
       obtain⟨wj,fh⟩:∃ wj,wj=wr:=⟨_,rfl⟩
       subst fh
       clear bk bl ag bn bp ah cj
       go_loopg [112] m3 (fun m i wj=>∃ j:Nat,j+m=m3∧i = .int .i64 j∧Below (wo.heap.size+2) W1 wj)
       case atStart=>exact⟨0,by omega,rfl,ba⟩
       case round=>
        clear ba
        obtain⟨j3,g9,rfl,hbl⟩:=hrel
        obtain⟨wl,fj⟩:∃ wl,wl=wr:=⟨_,rfl⟩
        subst fj
        have hBl:Below wo.heap.size wo wl:=bc.trans (hbl.mono (by omega))
        obtain⟨_,bk,bl,ag⟩:=C1h ((hbl.block wo.heap.size (by omega)).trans v1)
        obtain⟨_,bn,bp,ah⟩:=C1h ((hbl.block (wo.heap.size+1) (by omega)).trans v2)
        by_cases hjl3:j3 < m3
        ·obtain⟨s,Hs⟩:∃ s,Hid (vv.subs[j3]?=some s):=⟨vv.subs[j3]'(by rw[←bw.out];exact hjl3),List.getElem?_eq_getElem (by rw[←bw.out];exact hjl3)⟩
         obtain⟨au,os1,rfl,u1⟩:=(dg.below (BAt.stays d) hBl).get (BAt.plain d) Hs.out
         obtain⟨aw,os2,rfl,u2⟩:=(dl.below (BAt.stays d) hBl).get (BAt.plain d) Hs.out
         obtain⟨i0,i1,l0,l1,n0,n1,q0,q1,c0,c1,f0,f1,s0,s1,p0,p1,ac⟩:=cu s wl _ _ _ _ u1 u2
         have et:(j3:Int) < (m3:Int):=by omega
         have ej:∀ V,Below wl.heap.size wl V→Below wl.heap.size wl V∧V.cell? ⟨wo.heap.size,3,none⟩=some (.slice (some ⟨au,os1,none⟩) m3 c13)∧V.cell? ⟨wo.heap.size+1,3,none⟩=some (.slice (some ⟨aw,os2,none⟩) m3 c23)∧V.cell? ⟨au,os1+j3*2,none⟩=some (.slice i0 n0 c0)∧V.cell? ⟨au,os1+j3*2+1,none⟩=some (.slice i1 n1 c1)∧V.cell? ⟨aw,os2+j3*2,none⟩=some (.slice l0 q0 f0)∧V.cell? ⟨aw,os2+j3*2+1,none⟩=some (.slice l1 q1 f1):=fun V hV=>⟨hV,A0c hV ag,A0c hV ah,A0c hV s0,A0c hV s1,A0c hV p0,A0c hV p1⟩
         clear u1 u2 bk bl bn bp
         go_wp2_with fail
         go_cut [112,126] from 112 to 127 (fun dp dr wc=>dp = .int .i64 j3∧dr = .bool false∧Below wl.heap.size wl wc)
         case first=>
          clear h1 h2 aj bq hx1 hx2 ak bc v1 v2 cw df dg dh di dl hBl br hb hbl ag ah s0 s1 p0 p1
          go_region_held3 (fun V=>Below wl.heap.size wl V∧V.cell? ⟨wo.heap.size,3,none⟩=some (.slice (some ⟨au,os1,none⟩) m3 c13)∧V.cell? ⟨wo.heap.size+1,3,none⟩=some (.slice (some ⟨aw,os2,none⟩) m3 c23)∧V.cell? ⟨au,os1+j3*2,none⟩=some (.slice i0 n0 c0)∧V.cell? ⟨au,os1+j3*2+1,none⟩=some (.slice i1 n1 c1)∧V.cell? ⟨aw,os2+j3*2,none⟩=some (.slice l0 q0 f0)∧V.cell? ⟨aw,os2+j3*2+1,none⟩=some (.slice l1 q1 f1)) ((refine ej _ ?_;first|exact(Below.refl _ _).drew|exact ei)) ((go_at_call 15;go_split_ands;refine(ac _ (by assumption)).mono ?_;rintro e wn ⟨rfl,gc⟩;have ei:=D7i (by assumption) gc))
          all_goals go_wp2_with fail
          all_goals go_meet
          all_goals exact⟨rfl,rfl,ei⟩
         case rest=>
          obtain⟨rfl,rfl,f9⟩:=hcut
          have il:=hbl.size
          clear ej ac s0 s1 p0 p1 ag ah
          go_wp2_with fail
          go_roundg (m3 - (j3+1))
          case measure=>omega
          case rel=>exact⟨j3+1,by omega,by go_num,hbl.trans (f9.mono (by omega))⟩
        ·go_wp2_with fail
         go_roundg (n - (k+1))
         case measure=>omega
         case rel=>exact⟨k+1,by omega,by go_num,hb.trans ((bc.mono gh).trans (hbl.mono (by omega)))⟩
  ·go_wp2
   go_ret
   exact⟨rfl,br⟩
theorem C7k:∀ d,C3x d
 | 0=>fun s=>s.elim
 | d+1=>fun s w b1 o1 b2 o2 h1 h2=>by
  obtain⟨v0,v1,e0,e1,r1⟩:=BAt.at h1
  obtain⟨u0,u1,t0,t1,r2⟩:=BAt.at h2
  obtain⟨x0,n0,c0,rfl,_,_⟩:=r1.1.shape
  obtain⟨x1,n1,c1,rfl,_,_⟩:=r1.2.shape
  obtain⟨y0,m0,f0,rfl,_,_⟩:=r2.1.shape
  obtain⟨y1,m1,f1,rfl,_,_⟩:=r2.2.shape
  exact⟨x0,x1,y0,y1,n0,n1,m0,m1,c0,c1,f0,f1,e0,e1,t0,t1,fun V hV=>B7a (C7k d) (r1.below hV) (r2.below hV)⟩
theorem C4i {d:Nat}{w:World}{va ua vb ub:Value}{b:BO (BI d)}(h1:BRd d w va ua b) (h2:BRd d w vb ub b) :
  Calls Tryz.prog 15 #[.agg #[va,ua],.agg #[vb,ub]] w fun e w'=>e = .returned (.bool true)∧Below w.heap.size w w':=B7a (C7k d) h1 h2
end L
end Go.Proofs.YtgaoojpakjjdnaaGreatDoor
