import Derived.Test.YtgaoojpakjjdnaaGreatDoorV38
set_option maxHeartbeats 32000000
set_option maxRecDepth 100000
namespace Go.Proofs.YtgaoojpakjjdnaaGreatDoor
namespace L
open Go.RowKit
theorem C3o {w:World}{g:Nat}{a0 a1 a2 a3:Value}{t:TypeId}(h:w.heap[g]?=some (.cells #[a0,a1,a2,a3] t (0,0))) :
  w.cell? ⟨g,0,none⟩=some a0∧w.cell? ⟨g,1,none⟩=some a1∧w.cell? ⟨g,2,none⟩=some a2∧w.cell? ⟨g,3,none⟩=some a3:=
 ⟨A0a h 0 _ rfl,A0a h 1 _ rfl,A0a h 2 _ rfl,A0a h 3 _ rfl⟩
theorem D9s {W V V':World}(h:Below W.heap.size W V)(k:Below V.heap.size V V'):Below W.heap.size W V':=h.trans (k.mono h.size)
def C6k (d:Nat):Prop:=∀ (s:BI d) (w:World) (b1 o1 b2 o2:Nat),BAt d w ⟨b1,o1,none⟩ s→BAt d w ⟨b2,o2,none⟩ s→
 ∃ (x0 x1 y0 y1:Option Addr) (n0 n1 m0 m1 c0 c1 e0 e1:Nat),w.cell? ⟨b1,o1,none⟩=some (.slice x0 n0 c0)∧w.cell? ⟨b1,o1+1,none⟩=some (.slice x1 n1 c1)∧w.cell? ⟨b2,o2,none⟩=some (.slice y0 m0 e0)∧w.cell? ⟨b2,o2+1,none⟩=some (.slice y1 m1 e1)∧
  ∀ V,Below w.heap.size w V→Calls Tryz.prog 15 #[.agg #[.slice x0 n0 c0,.slice x1 n1 c1],.agg #[.slice y0 m0 e0,.slice y1 m1 e1]] V fun e w'=>e = .returned (.bool true)∧Below V.heap.size V w'
theorem B9a {d:Nat}(df:C6k d){w:World}{va ua vb ub:Value}{b:BO (BI d)}(h1:BRd d w va ua b)(h2:BRd d w vb ub b) :
  Calls Tryz.prog 15 #[.agg #[va,ua],.agg #[vb,ub]] w fun e w'=>e = .returned (.bool true)∧Below w.heap.size w w':=by
 obtain⟨aa,n,ca,rfl,bv,im⟩:=h1.1.shape
 obtain⟨ab,n',cb,rfl,fh,_⟩:=h2.1.shape
 obtain⟨ea,ne,ga,rfl,fd,gi⟩:=h1.2.shape
 obtain⟨eb,gu,gb,rfl,fe,_⟩:=h2.2.shape
 obtain rfl:n=n':=by rw[bv.out,fh.out]
 obtain rfl:ne=gu:=by rw[fd.out,fe.out]
 obtain⟨W0,aj⟩:∃ W0,Hid (W0=(w.alloc (.cells #[.slice aa n ca,.slice ea ne ga] 29)).alloc (.cells #[.slice ab n cb,.slice eb ne gb] 29)):=⟨_,rfl⟩
 have bt:Below w.heap.size w W0:=by rw[aj.out];exact((Below.refl _ _).alloc (Nat.le_refl _) _).alloc (by simp) _
 have hx1:W0.heap[w.heap.size]?=some (.cells #[.slice aa n ca,.slice ea ne ga] 29 (0,0)):=by rw[aj.out];exact A0o _ _ _
 have hx2:W0.heap[w.heap.size+1]?=some (.cells #[.slice ab n cb,.slice eb ne gb] 29 (0,0)):=by rw[aj.out];exact A0j _ _ _
 have hz0:w.heap.size+2≤W0.heap.size:=by rw[aj.out];simp
 have fc:=C9k (h1.2.below RAt.stays bt) (h2.2.below RAt.stays bt)
 go_enter Tryz.func15,Tryz.ntmps15
 go_wp2_with fail
 rw[←aj.out]
 refine fc.mono ?_
 rintro e w1 ⟨rfl,hb1⟩
 clear fc
 have y1:=(hb1.block w.heap.size (by omega)).trans hx1
 have y2:=(hb1.block (w.heap.size+1) (by omega)).trans hx2
 obtain⟨dw,dx⟩:=A0y y1
 obtain⟨dy,dz⟩:=A0y y2
 go_wp2_with fail
 clear dw dx dy dz y1 y2
 go_loopg [29] n (fun m i wr=>∃ k:Nat,k+m=n∧i = .int .i64 k∧Below (w.heap.size+2) W0 wr)
 case atStart=>exact⟨0,by omega,rfl,hb1.mono (by omega)⟩
 case round=>
  clear hb1
  obtain⟨k,hk,rfl,hb⟩:=hrel
  obtain⟨wo,fq⟩:∃ wo,wo=wr:=⟨_,rfl⟩
  subst fq
  have bu:Below w.heap.size w wo:=bt.trans (hb.mono (by omega))
  have eu:=h1.below bu
  have hf2:=h2.below bu
  have y1:=(hb.block w.heap.size (by omega)).trans hx1
  have y2:=(hb.block (w.heap.size+1) (by omega)).trans hx2
  obtain⟨dw,dx⟩:=A0y y1
  obtain⟨dy,dz⟩:=A0y y2
  have gj:w.heap.size+2≤wo.heap.size:=by have:=hb.size;omega
  by_cases hlt:k<n
  ·obtain⟨vv,Hp⟩:∃ p,Hid (b.vals[k]?=some p):=⟨b.vals[k]'(by rw[←bv.out];exact hlt),List.getElem?_eq_getElem (by rw[←bv.out];exact hlt)⟩
   obtain⟨g1,o1,rfl,bh⟩:=eu.1.get VAt.plain Hp.out
   obtain⟨g2,o2,rfl,bk⟩:=hf2.1.get VAt.plain Hp.out
   obtain⟨p1,p2,p3,e0,e1,e2,e3,dg,dh,di⟩:=bh.at
   obtain⟨q1,q2,q3,t0,t1,t2,t3,dl,dm,dn⟩:=bk.at
   obtain⟨d9,m1,c11,rfl,bw,ij⟩:=dg.shape
   obtain⟨ee,m2,c12,rfl,cg,ik⟩:=dh.shape
   obtain⟨eh,m3,c13,rfl,cj,il⟩:=di.shape
   obtain⟨a21,gl,ei,rfl,ft,_⟩:=dl.shape
   obtain⟨a22,gp,ej,rfl,fu,_⟩:=dm.shape
   obtain⟨a23,gq,c23,rfl,fw,_⟩:=dn.shape
   obtain rfl:m1=gl:=by rw[bw.out,ft.out]
   obtain rfl:m2=gp:=by rw[cg.out,fu.out]
   obtain rfl:m3=gq:=by rw[cj.out,fw.out]
   have ii:(k:Int)<(n:Int):=by omega
   have z0:w.heap.size<wo.heap.size:=by omega
   have z1:w.heap.size+1<wo.heap.size:=by omega
   have z2:g2<wo.heap.size:=World.block_lt_of_cell? wo _ t0
   clear bh bk eu hf2 y1 y2
   obtain⟨W1,ak⟩:∃ W1,Hid (W1=(wo.alloc (.cells #[.int .i64 vv.number,.slice d9 m1 c11,.slice ee m2 c12,.slice eh m3 c13] 62)).alloc (.cells #[.int .i64 vv.number,.slice a21 m1 ei,.slice a22 m2 ej,.slice a23 m3 c23] 62)):=⟨_,rfl⟩
   have bg:Below wo.heap.size wo W1:=by rw[ak.out];exact((Below.refl _ _).alloc (Nat.le_refl _) _).alloc (by simp) _
   have v1:W1.heap[wo.heap.size]?=some (.cells #[.int .i64 vv.number,.slice d9 m1 c11,.slice ee m2 c12,.slice eh m3 c13] 62 (0,0)):=by rw[ak.out];exact A0o _ _ _
   have v2:W1.heap[wo.heap.size+1]?=some (.cells #[.int .i64 vv.number,.slice a21 m1 ei,.slice a22 m2 ej,.slice a23 m3 c23] 62 (0,0)):=by rw[ak.out];exact A0j _ _ _
   have hz1:wo.heap.size+2≤W1.heap.size:=by rw[ak.out];simp
   go_wp2_with fail
   rw[←ak.out]
   clear dw dx dy dz e0 e1 e2 e3 t0 t1 t2 t3
   go_loopg [74] m1 (fun m i wi=>∃ j:Nat,j+m=m1∧i = .int .i64 j∧Below (wo.heap.size+2) W1 wi)
   case atStart=>exact⟨0,by omega,rfl,Below.refl _ _⟩
   case round=>
    obtain⟨j,hj,rfl,ba⟩:=hrel
    have cu:Below wo.heap.size wo wr:=bg.trans (ba.mono (by omega))
    obtain⟨_,bn,bp,ag⟩:=C3o ((ba.block wo.heap.size (by omega)).trans v1)
    obtain⟨_,bq,br,ah⟩:=C3o ((ba.block (wo.heap.size+1) (by omega)).trans v2)
    by_cases hjl:j<m1
    ·obtain⟨f,Hf⟩:∃ f,Hid (vv.bits[j]?=some f):=⟨vv.bits[j]'(by rw[←bw.out];exact hjl),List.getElem?_eq_getElem (by rw[←bw.out];exact hjl)⟩
     obtain⟨f9,gz,rfl,u1⟩:=(dg.below UAt.stays cu).get UAt.plain Hf.out
     obtain⟨gc,g7,rfl,u2⟩:=(dl.below UAt.stays cu).get UAt.plain Hf.out
     have s0:wr.cell? ⟨f9,gz+j,none⟩=some (.int .u64 (f:Int)):=by simpa [UAt] using u1
     have p0:wr.cell? ⟨gc,g7+j,none⟩=some (.int .u64 (f:Int)):=by simpa [UAt] using u2
     have ew:(j:Int)<(m1:Int):=by omega
     clear u1 u2
     go_wp2_with fail
     go_quiet (fail)
     go_wp2_with fail
     go_roundg (m1-(j+1))
     case measure=>omega
     case rel=>exact⟨j+1,by omega,by go_num,ba.trans (A8g _ _)⟩
    ·go_wp2_with fail
     obtain⟨wi,fj⟩:∃ wi,wi=wr:=⟨_,rfl⟩
     subst fj
     clear bn bp ag bq br ah cu
     go_loopg [92] m2 (fun m i wj=>∃ j:Nat,j+m=m2∧i = .int .i64 j∧Below (wo.heap.size+2) W1 wj)
     case atStart=>exact⟨0,by omega,rfl,ba⟩
     case round=>
      clear ba
      obtain⟨j2,ie,rfl,bc⟩:=hrel
      have cw:Below wo.heap.size wo wr:=bg.trans (bc.mono (by omega))
      obtain⟨_,bn,bp,ag⟩:=C3o ((bc.block wo.heap.size (by omega)).trans v1)
      obtain⟨_,bq,br,ah⟩:=C3o ((bc.block (wo.heap.size+1) (by omega)).trans v2)
      by_cases hjl2:j2<m2
      ·obtain⟨y,Hy⟩:∃ y,Hid (vv.bytes[j2]?=some y):=⟨vv.bytes[j2]'(by rw[←cg.out];exact hjl2),List.getElem?_eq_getElem (by rw[←cg.out];exact hjl2)⟩
       obtain⟨g8,ip,rfl,u1⟩:=(dh.below ZAt.stays cw).get ZAt.plain Hy.out
       obtain⟨g9,iq,rfl,u2⟩:=(dm.below ZAt.stays cw).get ZAt.plain Hy.out
       obtain⟨f1,u1,dp⟩:=u1.at
       obtain⟨f2,u2,dr⟩:=u2.at
       obtain⟨fx,gw,fz,rfl,_,_⟩:=dp.shape
       obtain⟨fy,gy,f6,rfl,_,_⟩:=dr.shape
       rw[Nat.mul_one] at u1 u2
       have s1:∀ n,(convert 32 9 (.slice fx gw fz)).run Tryz.prog (wr.drewN n) = .ok (.string ⟨y.toArray⟩) (wr.drewN n):=fun n=>A8v (A6g dp n)
       have s2:∀ n,(convert 32 9 (.slice fy gy f6)).run Tryz.prog (wr.drewN n) = .ok (.string ⟨y.toArray⟩) (wr.drewN n):=fun n=>A8v (A6g dr n)
       have ew:(j2:Int)<(m2:Int):=by omega
       clear dp dr
       go_wp2_with fail
       go_quiet (fail)
       go_wp2_with fail
       go_roundg (m2-(j2+1))
       case measure=>omega
       case rel=>exact⟨j2+1,by omega,by go_num,bc.trans (A8g _ _)⟩
      ·go_wp2_with fail
       obtain⟨wj,fk⟩:∃ wj,wj=wr:=⟨_,rfl⟩
       subst fk
       clear bn bp ag bq br ah cw
       go_loopg [112] m3 (fun m i wj=>∃ j:Nat,j+m=m3∧i = .int .i64 j∧Below (wo.heap.size+2) W1 wj)
       case atStart=>exact⟨0,by omega,rfl,bc⟩
       case round=>
        clear bc
        obtain⟨j3,ig,rfl,hbl⟩:=hrel
        obtain⟨wl,fo⟩:∃ wl,wl=wr:=⟨_,rfl⟩
        subst fo
        have hBl:Below wo.heap.size wo wl:=bg.trans (hbl.mono (by omega))
        obtain⟨_,bn,bp,ag⟩:=C3o ((hbl.block wo.heap.size (by omega)).trans v1)
        obtain⟨_,bq,br,ah⟩:=C3o ((hbl.block (wo.heap.size+1) (by omega)).trans v2)
        by_cases hjl3:j3<m3
        ·obtain⟨s,Hs⟩:∃ s,Hid (vv.subs[j3]?=some s):=⟨vv.subs[j3]'(by rw[←cj.out];exact hjl3),List.getElem?_eq_getElem (by rw[←cj.out];exact hjl3)⟩
         obtain⟨au,os1,rfl,u1⟩:=(di.below (BAt.stays d) hBl).get (BAt.plain d) Hs.out
         obtain⟨aw,os2,rfl,u2⟩:=(dn.below (BAt.stays d) hBl).get (BAt.plain d) Hs.out
         obtain⟨i0,i1,l0,l1,n0,n1,q0,q1,c0,c1,f0,f1,s0,s1,p0,p1,ac⟩:=df s wl _ _ _ _ u1 u2
         have ew:(j3:Int)<(m3:Int):=by omega
         have et:∀ V,Below wl.heap.size wl V→Below wl.heap.size wl V∧V.cell? ⟨wo.heap.size,3,none⟩=some (.slice (some ⟨au,os1,none⟩) m3 c13)∧V.cell? ⟨wo.heap.size+1,3,none⟩=some (.slice (some ⟨aw,os2,none⟩) m3 c23)∧V.cell? ⟨au,os1+j3*2,none⟩=some (.slice i0 n0 c0)∧V.cell? ⟨au,os1+j3*2+1,none⟩=some (.slice i1 n1 c1)∧V.cell? ⟨aw,os2+j3*2,none⟩=some (.slice l0 q0 f0)∧V.cell? ⟨aw,os2+j3*2+1,none⟩=some (.slice l1 q1 f1):=fun V hV=>⟨hV,A0c hV ag,A0c hV ah,A0c hV s0,A0c hV s1,A0c hV p0,A0c hV p1⟩
         clear u1 u2 bn bp bq br
         go_wp2_with fail
         go_cut [112,126] from 112 to 127 (fun dt dv wc=>dt = .int .i64 j3∧dv = .bool false∧Below wl.heap.size wl wc)
         case first=>
          clear h1 h2 aj bt hx1 hx2 ak bg v1 v2 dg dh di dl dm dn hBl bu hb hbl ag ah s0 s1 p0 p1
          go_region_held3 (fun V=>Below wl.heap.size wl V∧V.cell? ⟨wo.heap.size,3,none⟩=some (.slice (some ⟨au,os1,none⟩) m3 c13)∧V.cell? ⟨wo.heap.size+1,3,none⟩=some (.slice (some ⟨aw,os2,none⟩) m3 c23)∧V.cell? ⟨au,os1+j3*2,none⟩=some (.slice i0 n0 c0)∧V.cell? ⟨au,os1+j3*2+1,none⟩=some (.slice i1 n1 c1)∧V.cell? ⟨aw,os2+j3*2,none⟩=some (.slice l0 q0 f0)∧V.cell? ⟨aw,os2+j3*2+1,none⟩=some (.slice l1 q1 f1)) ((refine et _ ?_;first|exact(Below.refl _ _).drew|exact eo)) ((go_at_call 15;go_split_ands;refine(ac _ (by assumption)).mono ?_;rintro e wn ⟨rfl,gh⟩;have eo:=D9s (by assumption) gh))
          all_goals go_wp2_with fail
          all_goals go_meet
          all_goals exact⟨rfl,rfl,eo⟩
         case rest=>
          obtain⟨rfl,rfl,gg⟩:=hcut
          have io:=hbl.size
          clear et ac s0 s1 p0 p1 ag ah
          go_wp2_with fail
          go_roundg (m3-(j3+1))
          case measure=>omega
          case rel=>exact⟨j3+1,by omega,by go_num,hbl.trans (gg.mono (by omega))⟩
        ·go_wp2_with fail
         go_roundg (n-(k+1))
         case measure=>omega
         case rel=>exact⟨k+1,by omega,by go_num,hb.trans ((bg.mono gj).trans (hbl.mono (by omega)))⟩
  ·go_wp2
   go_ret
   exact⟨rfl,bu⟩
theorem C9w:∀ d,C6k d
 | 0=>fun s=>s.elim
 | d+1=>fun s w b1 o1 b2 o2 h1 h2=>by
  obtain⟨v0,v1,e0,e1,r1⟩:=BAt.at h1
  obtain⟨u0,u1,t0,t1,r2⟩:=BAt.at h2
  obtain⟨x0,n0,c0,rfl,_,_⟩:=r1.1.shape
  obtain⟨x1,n1,c1,rfl,_,_⟩:=r1.2.shape
  obtain⟨y0,m0,f0,rfl,_,_⟩:=r2.1.shape
  obtain⟨y1,m1,f1,rfl,_,_⟩:=r2.2.shape
  exact⟨x0,x1,y0,y1,n0,n1,m0,m1,c0,c1,f0,f1,e0,e1,t0,t1,fun V hV=>B9a (C9w d) (r1.below hV) (r2.below hV)⟩
theorem C6w {d:Nat}{w:World}{va ua vb ub:Value}{b:BO (BI d)}(h1:BRd d w va ua b)(h2:BRd d w vb ub b) :
  Calls Tryz.prog 15 #[.agg #[va,ua],.agg #[vb,ub]] w fun e w'=>e = .returned (.bool true)∧Below w.heap.size w w':=B9a (C9w d) h1 h2
end L
end Go.Proofs.YtgaoojpakjjdnaaGreatDoor
