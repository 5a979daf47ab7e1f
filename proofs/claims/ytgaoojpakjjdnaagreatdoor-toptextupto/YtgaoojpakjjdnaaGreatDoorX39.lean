import Derived.Test.YtgaoojpakjjdnaaGreatDoorX38
import Derived.Test.YtgaoojpakjjdnaaGreatDoorRows
import Derived.Laws.StructEq
set_option maxHeartbeats 32000000
set_option maxRecDepth 100000
set_option linter.unusedVariables false
namespace Go.Proofs.YtgaoojpakjjdnaaGreatDoor
namespace L
open Go.RowKit
theorem A8r (B:Nat)(w:World){n:Nat}:Below B w (w.drewN n):=⟨rfl,rfl,rfl,Nat.le_refl _,fun _ _=>rfl⟩
theorem A6n {w:World}{v:Value}{l:List UInt8}(h:RdL 1 YAt w v l)(n:Nat):RdL 1 YAt (w.drewN n) v l:=h
theorem D1b {va vb:Value}{rs:List RI}{w:World}(ha:RdL 4 RAt w va rs)(hb:RdL 4 RAt w vb rs) :
  Calls Tryz.prog 29 #[va,vb] w fun e w'=>e = .returned (.bool true)∧Below w.heap.size w w':=by
 obtain⟨ao,n,ca,rfl,Ha,bh⟩:=ha.shape
 obtain⟨bo,n',cb,rfl,Hb,_⟩:=hb.shape
 obtain rfl:n=n':=by rw[Ha.out,Hb.out]
 go_enter Tryz.func29,Tryz.ntmps29
 go_wp2_with fail
 go_loopg [13] n (fun m i wr=>∃ (k d:Nat),k+m=n∧i = .int .i64 (k:Int)∧wr=w.drewN d)
 case atStart=>exact⟨0,0,by omega,rfl,rfl⟩
 case round=>
  obtain⟨k,d,hk,rfl,rfl⟩:=hrel
  by_cases hlt:k<n
  ·obtain⟨r,Hr⟩:∃ r,Hid (rs[k]?=some r):=⟨rs[k]'(by rw[←Ha.out];exact hlt),List.getElem?_eq_getElem (by rw[←Ha.out];exact hlt)⟩
   obtain⟨b,off,rfl,hat⟩:=ha.get RAt.plain Hr.out
   obtain⟨b',off',rfl,hat'⟩:=hb.get RAt.plain Hr.out
   obtain⟨v1,c0,c1,c2,c3,aj⟩:=hat.at
   obtain⟨v2,d0,d1,d2,d3,ac⟩:=hat'.at
   obtain⟨aw,ak,ag,rfl,_,_⟩:=aj.shape
   obtain⟨a8,au,ah,rfl,_,_⟩:=ac.shape
   have s1:∀ n,(convert 32 9 (.slice aw ak ag)).run Tryz.prog (w.drewN n) = .ok (.string ⟨r.bytes.toArray⟩) (w.drewN n):=fun n=>A9g (A6n aj n)
   have s2:∀ n,(convert 32 9 (.slice a8 au ah)).run Tryz.prog (w.drewN n) = .ok (.string ⟨r.bytes.toArray⟩) (w.drewN n):=fun n=>A9g (A6n ac n)
   have bg:(k:Int)<(n:Int):=by omega
   clear aj ac ha hb hat hat'
   go_wp2_with fail
   go_quiet (fail)
   go_wp2_with fail
   go_roundg (n-(k+1))
   case measure=>omega
   case rel=>exact⟨k+1,_,by omega,by go_num,rfl⟩
  ·go_wp2
   go_ret
   exact⟨rfl,A8r _ _⟩
theorem C4q {w:World}{g:Nat}{a0 a1 a2 a3:Value}{t:TypeId}(h:w.heap[g]?=some (.cells #[a0,a1,a2,a3] t (0,0))) :
  w.cell? ⟨g,0,none⟩=some a0∧w.cell? ⟨g,1,none⟩=some a1∧w.cell? ⟨g,2,none⟩=some a2∧w.cell? ⟨g,3,none⟩=some a3:=
 ⟨A0a h 0 _ rfl,A0a h 1 _ rfl,A0a h 2 _ rfl,A0a h 3 _ rfl⟩
theorem E2x {W V V':World}(h:Below W.heap.size W V)(k:Below V.heap.size V V'):Below W.heap.size W V':=h.trans (k.mono h.size)
def C7o (d:Nat):Prop:=∀ (s:BI d) (w:World) (b1 o1 b2 o2:Nat),BAt d w ⟨b1,o1,none⟩ s→BAt d w ⟨b2,o2,none⟩ s→
 ∃ (x0 x1 y0 y1:Option Addr) (n0 n1 m0 m1 c0 c1 e0 e1:Nat),w.cell? ⟨b1,o1,none⟩=some (.slice x0 n0 c0)∧w.cell? ⟨b1,o1+1,none⟩=some (.slice x1 n1 c1)∧w.cell? ⟨b2,o2,none⟩=some (.slice y0 m0 e0)∧w.cell? ⟨b2,o2+1,none⟩=some (.slice y1 m1 e1)∧
  ∀ V,Below w.heap.size w V→Calls Tryz.prog 15 #[.agg #[.slice x0 n0 c0,.slice x1 n1 c1],.agg #[.slice y0 m0 e0,.slice y1 m1 e1]] V fun e w'=>e = .returned (.bool true)∧Below V.heap.size V w'
theorem B9q {d:Nat}(dh:C7o d){w:World}{va ua vb ub:Value}{b:BO (BI d)}(h1:BRd d w va ua b)(h2:BRd d w vb ub b) :
  Calls Tryz.prog 15 #[.agg #[va,ua],.agg #[vb,ub]] w fun e w'=>e = .returned (.bool true)∧Below w.heap.size w w':=by
 obtain⟨aa,n,ca,rfl,cg,iq⟩:=h1.1.shape
 obtain⟨ab,n',cb,rfl,fk,_⟩:=h2.1.shape
 obtain⟨ea,ne,ga,rfl,fh,gl⟩:=h1.2.shape
 obtain⟨eb,gy,gb,rfl,fj,_⟩:=h2.2.shape
 obtain rfl:n=n':=by rw[cg.out,fk.out]
 obtain rfl:ne=gy:=by rw[fh.out,fj.out]
 obtain⟨W0,aj⟩:∃ W0,Hid (W0=(w.alloc (.cells #[.slice aa n ca,.slice ea ne ga] 29)).alloc (.cells #[.slice ab n cb,.slice eb ne gb] 29)):=⟨_,rfl⟩
 have bv:Below w.heap.size w W0:=by rw[aj.out];exact((Below.refl _ _).alloc (Nat.le_refl _) _).alloc (by simp) _
 have hx1:W0.heap[w.heap.size]?=some (.cells #[.slice aa n ca,.slice ea ne ga] 29 (0,0)):=by rw[aj.out];exact A0l _ _ _
 have hx2:W0.heap[w.heap.size+1]?=some (.cells #[.slice ab n cb,.slice eb ne gb] 29 (0,0)):=by rw[aj.out];exact A0i _ _ _
 have hz0:w.heap.size+2≤W0.heap.size:=by rw[aj.out];simp
 have fe:=D1b (h1.2.below RAt.stays bv) (h2.2.below RAt.stays bv)
 go_enter Tryz.func15,Tryz.ntmps15
 go_wp2_with fail
 rw[←aj.out]
 refine fe.mono ?_
 rintro e w1 ⟨rfl,hb1⟩
 clear fe
 have y1:=(hb1.block w.heap.size (by omega)).trans hx1
 have y2:=(hb1.block (w.heap.size+1) (by omega)).trans hx2
 obtain⟨dy,dz⟩:=A0r y1
 obtain⟨d9,ee⟩:=A0r y2
 go_wp2_with fail
 clear dy dz d9 ee y1 y2
 go_loopg [29] n (fun m i wr=>∃ k:Nat,k+m=n∧i = .int .i64 k∧Below (w.heap.size+2) W0 wr)
 case atStart=>exact⟨0,by omega,rfl,hb1.mono (by omega)⟩
 case round=>
  clear hb1
  obtain⟨k,hk,rfl,hb⟩:=hrel
  obtain⟨wo,fu⟩:∃ wo,wo=wr:=⟨_,rfl⟩
  subst fu
  have bw:Below w.heap.size w wo:=bv.trans (hb.mono (by omega))
  have fc:=h1.below bw
  have hf2:=h2.below bw
  have y1:=(hb.block w.heap.size (by omega)).trans hx1
  have y2:=(hb.block (w.heap.size+1) (by omega)).trans hx2
  obtain⟨dy,dz⟩:=A0r y1
  obtain⟨d9,ee⟩:=A0r y2
  have gp:w.heap.size+2≤wo.heap.size:=by have:=hb.size;omega
  by_cases hlt:k<n
  ·obtain⟨vv,Hp⟩:∃ p,Hid (b.vals[k]?=some p):=⟨b.vals[k]'(by rw[←cg.out];exact hlt),List.getElem?_eq_getElem (by rw[←cg.out];exact hlt)⟩
   obtain⟨g1,o1,rfl,bk⟩:=fc.1.get VAt.plain Hp.out
   obtain⟨g2,o2,rfl,bp⟩:=hf2.1.get VAt.plain Hp.out
   obtain⟨p1,p2,p3,e0,e1,e2,e3,di,dl,dm⟩:=bk.at
   obtain⟨q1,q2,q3,t0,t1,t2,t3,dn,dp,dr⟩:=bp.at
   obtain⟨eh,m1,c11,rfl,cj,im⟩:=di.shape
   obtain⟨ei,m2,c12,rfl,cu,io⟩:=dl.shape
   obtain⟨ej,m3,c13,rfl,cw,ip⟩:=dm.shape
   obtain⟨a21,gq,eo,rfl,fw,_⟩:=dn.shape
   obtain⟨a22,gu,et,rfl,fx,_⟩:=dp.shape
   obtain⟨a23,gw,c23,rfl,fy,_⟩:=dr.shape
   obtain rfl:m1=gq:=by rw[cj.out,fw.out]
   obtain rfl:m2=gu:=by rw[cu.out,fx.out]
   obtain rfl:m3=gw:=by rw[cw.out,fy.out]
   have il:(k:Int)<(n:Int):=by omega
   have z0:w.heap.size<wo.heap.size:=by omega
   have z1:w.heap.size+1<wo.heap.size:=by omega
   have z2:g2<wo.heap.size:=World.block_lt_of_cell? wo _ t0
   clear bk bp fc hf2 y1 y2
   obtain⟨W1,ak⟩:∃ W1,Hid (W1=(wo.alloc (.cells #[.int .i64 vv.number,.slice eh m1 c11,.slice ei m2 c12,.slice ej m3 c13] 62)).alloc (.cells #[.int .i64 vv.number,.slice a21 m1 eo,.slice a22 m2 et,.slice a23 m3 c23] 62)):=⟨_,rfl⟩
   have bh:Below wo.heap.size wo W1:=by rw[ak.out];exact((Below.refl _ _).alloc (Nat.le_refl _) _).alloc (by simp) _
   have v1:W1.heap[wo.heap.size]?=some (.cells #[.int .i64 vv.number,.slice eh m1 c11,.slice ei m2 c12,.slice ej m3 c13] 62 (0,0)):=by rw[ak.out];exact A0l _ _ _
   have v2:W1.heap[wo.heap.size+1]?=some (.cells #[.int .i64 vv.number,.slice a21 m1 eo,.slice a22 m2 et,.slice a23 m3 c23] 62 (0,0)):=by rw[ak.out];exact A0i _ _ _
   have hz1:wo.heap.size+2≤W1.heap.size:=by rw[ak.out];simp
   go_wp2_with fail
   rw[←ak.out]
   clear dy dz d9 ee e0 e1 e2 e3 t0 t1 t2 t3
   go_loopg [74] m1 (fun m i wi=>∃ j:Nat,j+m=m1∧i = .int .i64 j∧Below (wo.heap.size+2) W1 wi)
   case atStart=>exact⟨0,by omega,rfl,Below.refl _ _⟩
   case round=>
    obtain⟨j,hj,rfl,a8⟩:=hrel
    have df:Below wo.heap.size wo wr:=bh.trans (a8.mono (by omega))
    obtain⟨_,bq,br,ag⟩:=C4q ((a8.block wo.heap.size (by omega)).trans v1)
    obtain⟨_,bt,bu,ah⟩:=C4q ((a8.block (wo.heap.size+1) (by omega)).trans v2)
    by_cases hjl:j<m1
    ·obtain⟨f,Hf⟩:∃ f,Hid (vv.bits[j]?=some f):=⟨vv.bits[j]'(by rw[←cj.out];exact hjl),List.getElem?_eq_getElem (by rw[←cj.out];exact hjl)⟩
     obtain⟨gg,g9,rfl,u1⟩:=(di.below UAt.stays df).get UAt.plain Hf.out
     obtain⟨gh,ie,rfl,u2⟩:=(dn.below UAt.stays df).get UAt.plain Hf.out
     have s0:wr.cell? ⟨gg,g9+j,none⟩=some (.int .u64 (f:Int)):=by simpa [UAt] using u1
     have p0:wr.cell? ⟨gh,ie+j,none⟩=some (.int .u64 (f:Int)):=by simpa [UAt] using u2
     have fd:(j:Int)<(m1:Int):=by omega
     clear u1 u2
     go_wp2_with fail
     go_quiet (fail)
     go_wp2_with fail
     go_roundg (m1-(j+1))
     case measure=>omega
     case rel=>exact⟨j+1,by omega,by go_num,a8.trans (A8r _ _)⟩
    ·go_wp2_with fail
     obtain⟨wi,fo⟩:∃ wi,wi=wr:=⟨_,rfl⟩
     subst fo
     clear bq br ag bt bu ah df
     go_loopg [92] m2 (fun m i wj=>∃ j:Nat,j+m=m2∧i = .int .i64 j∧Below (wo.heap.size+2) W1 wj)
     case atStart=>exact⟨0,by omega,rfl,a8⟩
     case round=>
      clear a8
      obtain⟨j2,ij,rfl,bg⟩:=hrel
      have dg:Below wo.heap.size wo wr:=bh.trans (bg.mono (by omega))
      obtain⟨_,bq,br,ag⟩:=C4q ((bg.block wo.heap.size (by omega)).trans v1)
      obtain⟨_,bt,bu,ah⟩:=C4q ((bg.block (wo.heap.size+1) (by omega)).trans v2)
      by_cases hjl2:j2<m2
      ·obtain⟨y,Hy⟩:∃ y,Hid (vv.bytes[j2]?=some y):=⟨vv.bytes[j2]'(by rw[←cu.out];exact hjl2),List.getElem?_eq_getElem (by rw[←cu.out];exact hjl2)⟩
       obtain⟨ig,iu,rfl,u1⟩:=(dl.below ZAt.stays dg).get ZAt.plain Hy.out
       obtain⟨ii,iw,rfl,u2⟩:=(dp.below ZAt.stays dg).get ZAt.plain Hy.out
       obtain⟨f1,u1,dt⟩:=u1.at
       obtain⟨f2,u2,dv⟩:=u2.at
       obtain⟨fz,gz,f9,rfl,_,_⟩:=dt.shape
       obtain⟨f6,g8,gc,rfl,_,_⟩:=dv.shape
       rw[Nat.mul_one] at u1 u2
       have s1:∀ n,(convert 32 9 (.slice fz gz f9)).run Tryz.prog (wr.drewN n) = .ok (.string ⟨y.toArray⟩) (wr.drewN n):=fun n=>A9g (A6n dt n)
       have s2:∀ n,(convert 32 9 (.slice f6 g8 gc)).run Tryz.prog (wr.drewN n) = .ok (.string ⟨y.toArray⟩) (wr.drewN n):=fun n=>A9g (A6n dv n)
       have fd:(j2:Int)<(m2:Int):=by omega
       clear dt dv
       go_wp2_with fail
       go_quiet (fail)
       go_wp2_with fail
       go_roundg (m2-(j2+1))
       case measure=>omega
       case rel=>exact⟨j2+1,by omega,by go_num,bg.trans (A8r _ _)⟩
      ·go_wp2_with fail
       obtain⟨wj,fq⟩:∃ wj,wj=wr:=⟨_,rfl⟩
       subst fq
       clear bq br ag bt bu ah dg
       go_loopg [112] m3 (fun m i wj=>∃ j:Nat,j+m=m3∧i = .int .i64 j∧Below (wo.heap.size+2) W1 wj)
       case atStart=>exact⟨0,by omega,rfl,bg⟩
       case round=>
        clear bg
        obtain⟨j3,ik,rfl,hbl⟩:=hrel
        obtain⟨wl,ft⟩:∃ wl,wl=wr:=⟨_,rfl⟩
        subst ft
        have hBl:Below wo.heap.size wo wl:=bh.trans (hbl.mono (by omega))
        obtain⟨_,bq,br,ag⟩:=C4q ((hbl.block wo.heap.size (by omega)).trans v1)
        obtain⟨_,bt,bu,ah⟩:=C4q ((hbl.block (wo.heap.size+1) (by omega)).trans v2)
        by_cases hjl3:j3<m3
        ·obtain⟨s,Hs⟩:∃ s,Hid (vv.subs[j3]?=some s):=⟨vv.subs[j3]'(by rw[←cw.out];exact hjl3),List.getElem?_eq_getElem (by rw[←cw.out];exact hjl3)⟩
         obtain⟨au,os1,rfl,u1⟩:=(dm.below (BAt.stays d) hBl).get (BAt.plain d) Hs.out
         obtain⟨aw,os2,rfl,u2⟩:=(dr.below (BAt.stays d) hBl).get (BAt.plain d) Hs.out
         obtain⟨i0,i1,l0,l1,n0,n1,q0,q1,c0,c1,f0,f1,s0,s1,p0,p1,ac⟩:=dh s wl _ _ _ _ u1 u2
         have fd:(j3:Int)<(m3:Int):=by omega
         have ew:∀ V,Below wl.heap.size wl V→Below wl.heap.size wl V∧V.cell? ⟨wo.heap.size,3,none⟩=some (.slice (some ⟨au,os1,none⟩) m3 c13)∧V.cell? ⟨wo.heap.size+1,3,none⟩=some (.slice (some ⟨aw,os2,none⟩) m3 c23)∧V.cell? ⟨au,os1+j3*2,none⟩=some (.slice i0 n0 c0)∧V.cell? ⟨au,os1+j3*2+1,none⟩=some (.slice i1 n1 c1)∧V.cell? ⟨aw,os2+j3*2,none⟩=some (.slice l0 q0 f0)∧V.cell? ⟨aw,os2+j3*2+1,none⟩=some (.slice l1 q1 f1):=fun V hV=>⟨hV,A0c hV ag,A0c hV ah,A0c hV s0,A0c hV s1,A0c hV p0,A0c hV p1⟩
         clear u1 u2 bq br bt bu
         go_wp2_with fail
         go_cut [112,126] from 112 to 127 (fun dw dx wc=>dw = .int .i64 j3∧dx = .bool false∧Below wl.heap.size wl wc)
         case first=>
          clear h1 h2 aj bv hx1 hx2 ak bh v1 v2 di dl dm dn dp dr hBl bw hb hbl ag ah s0 s1 p0 p1
          go_region_held3 (fun V=>Below wl.heap.size wl V∧V.cell? ⟨wo.heap.size,3,none⟩=some (.slice (some ⟨au,os1,none⟩) m3 c13)∧V.cell? ⟨wo.heap.size+1,3,none⟩=some (.slice (some ⟨aw,os2,none⟩) m3 c23)∧V.cell? ⟨au,os1+j3*2,none⟩=some (.slice i0 n0 c0)∧V.cell? ⟨au,os1+j3*2+1,none⟩=some (.slice i1 n1 c1)∧V.cell? ⟨aw,os2+j3*2,none⟩=some (.slice l0 q0 f0)∧V.cell? ⟨aw,os2+j3*2+1,none⟩=some (.slice l1 q1 f1)) ((refine ew _ ?_;first|exact(Below.refl _ _).drew|exact eu)) ((go_at_call 15;go_split_ands;refine(ac _ (by assumption)).mono ?_;rintro e wn ⟨rfl,gj⟩;have eu:=E2x (by assumption) gj))
          all_goals go_wp2_with fail
          all_goals go_meet
          all_goals exact⟨rfl,rfl,eu⟩
         case rest=>
          obtain⟨rfl,rfl,gi⟩:=hcut
          have ir:=hbl.size
          clear ew ac s0 s1 p0 p1 ag ah
          go_wp2_with fail
          go_roundg (m3-(j3+1))
          case measure=>omega
          case rel=>exact⟨j3+1,by omega,by go_num,hbl.trans (gi.mono (by omega))⟩
        ·go_wp2_with fail
         go_roundg (n-(k+1))
         case measure=>omega
         case rel=>exact⟨k+1,by omega,by go_num,hb.trans ((bh.mono gp).trans (hbl.mono (by omega)))⟩
  ·go_wp2
   go_ret
   exact⟨rfl,bw⟩
theorem D1s:∀ d,C7o d
 | 0=>fun s=>s.elim
 | d+1=>fun s w b1 o1 b2 o2 h1 h2=>by
  obtain⟨v0,v1,e0,e1,r1⟩:=BAt.at h1
  obtain⟨u0,u1,t0,t1,r2⟩:=BAt.at h2
  obtain⟨x0,n0,c0,rfl,_,_⟩:=r1.1.shape
  obtain⟨x1,n1,c1,rfl,_,_⟩:=r1.2.shape
  obtain⟨y0,m0,f0,rfl,_,_⟩:=r2.1.shape
  obtain⟨y1,m1,f1,rfl,_,_⟩:=r2.2.shape
  exact⟨x0,x1,y0,y1,n0,n1,m0,m1,c0,c1,f0,f1,e0,e1,t0,t1,fun V hV=>B9q (D1s d) (r1.below hV) (r2.below hV)⟩
theorem C8b {d:Nat}{w:World}{va ua vb ub:Value}{b:BO (BI d)}(h1:BRd d w va ua b)(h2:BRd d w vb ub b) :
  Calls Tryz.prog 15 #[.agg #[va,ua],.agg #[vb,ub]] w fun e w'=>e = .returned (.bool true)∧Below w.heap.size w w':=B9q (D1s d) h1 h2
open Go.ChangeShapes Go.WideShapes Go.ChangeAt Go.RowKit
section
variable {H:Type}{enc:TypeId×Value→H}{w:World}{base:Nat}{spare:Nat→Bool}{held:Bool}
theorem B5t (d:DataW H):1≤Rows.uptoBulk d:=by
 cases d with
 | lit l=>cases l <;> simp[Rows.uptoBulk]
 | nil=>simp[Rows.uptoBulk]
 | ptr d=>simp[Rows.uptoBulk]
 | slice elems spare=>simp[Rows.uptoBulk]
 | agg parts=>simp[Rows.uptoBulk]
 | iface t d=>simp[Rows.uptoBulk]
 | map entries=>simp[Rows.uptoBulk]
 | held h=>simp[Rows.uptoBulk]
theorem C2o (l r:List (DataW H)):Rows.uptoBulkAll (l++r)=Rows.uptoBulkAll l+Rows.uptoBulkAll r:=by
 induction l with
 | nil=>simp[Rows.uptoBulkAll]
 | cons x l ih=>simp only[List.cons_append,Rows.uptoBulkAll,ih];omega
theorem bulk_mem {d:DataW H}{l:List (DataW H)}(h:d∈l):Rows.uptoBulk d≤Rows.uptoBulkAll l:=by
 induction l with
 | nil=>cases h
 | cons x r ih=>
  simp only[Rows.uptoBulkAll]
  cases List.mem_cons.1 h with
  | inl e=>subst e;omega
  | inr e=>have:=ih e;omega
theorem C9q {α:Type}{R:Nat→α→Prop}{f : α→Nat}{D:Nat→DataW H}:∀ len:Nat,(∀ i,i<len→∃ y,R i y∧f y≤60*Rows.uptoBulk (D i))→∃ l:List α,l.length=len∧(∀ k y,l[k]?=some y→R k y)∧(l.map f).sum≤60*Rows.uptoBulkAll ((List.range len).map D)∧len≤Rows.uptoBulkAll ((List.range len).map D)
 | 0,_=>⟨[],rfl,fun k y h=>by simp at h,by simp[Rows.uptoBulkAll],by simp⟩
 | len+1,h=>by
  obtain⟨l,h1,h2,h3,h4⟩:=C9q len fun i hi=>h i (by omega)
  obtain⟨y,hy,hf⟩:=h len (by omega)
  have hb:=B5t (D len)
  refine⟨l++[y],by simp[h1],fun k z hz=>?_,?_,?_⟩
  ·by_cases hk:k<l.length
   ·rw[List.getElem?_append_left hk] at hz;exact h2 k z hz
   ·have ac:k=l.length:=by
     have:=(List.getElem?_eq_some_iff.1 hz).1
     rw[List.length_append,List.length_singleton] at this
     omega
    subst ac
    rw[List.getElem?_append_right (Nat.le_refl _),Nat.sub_self] at hz
    have:y=z:=by simpa using hz
    subst this
    rw[h1]
    exact hy
  ·rw[List.range_succ,List.map_append,List.map_append,C2o,List.sum_append]
   simp only[List.map_cons,List.map_nil,List.sum_cons,List.sum_nil,Rows.uptoBulkAll]
   omega
  ·rw[List.range_succ,List.map_append,C2o]
   simp only[List.map_cons,List.map_nil,Rows.uptoBulkAll]
   omega
theorem A4z {α:Type}{P:World→Addr→α→Prop}{Q : α→Prop}{f : α→Nat}{sz:Nat}{t e:TypeId}(ht:Tryz.prog.underlying t=some (.slice e))(hc:Tryz.prog.cellsOf e=sz)
  {fuel:Nat}{cs:List Value}{d:DataW H}{pl:List MemPlace}(h:DataW.trod enc Tryz.prog w base spare held fuel t cs=some (d,pl)) (hB:Rows.uptoBulk d≤1048576)
  (ag:∀ (fuel:Nat) (a:Addr) (cs:List Value) (d':DataW H) (pl:List MemPlace),SizeOf.sizeOf d'<SizeOf.sizeOf d→w.cells? base a sz=some cs→DataW.trod enc Tryz.prog w base spare held fuel e cs=some (d',pl)→Rows.uptoBulk d'≤1048576→∃ y,P w a y∧Q y∧f y≤60*Rows.uptoBulk d') :
  ∃ v l,cs = [v]∧RdL sz P w v l∧(∀ y∈l,Q y)∧(l.map f).sum+60≤60*Rows.uptoBulk d∧l.length+1≤Rows.uptoBulk d:=by
 rcases Go.Deep.open_slice ht h with⟨hcs,hx⟩|⟨a,len,cap,m,n,D,Pl,hcs,_,hl,hm,hmm,hx,hels⟩
 ·have hb:=B5t d
  exact⟨_,[],hcs,RdL.nil _ _ _,fun y hy=>by simp at hy,by simp;omega,by simpa using hb⟩
 ·rw[hc] at hels
  have hd:=(Prod.mk.inj hx).1
  have ak:len≤m:=by rw[hmm];split <;> omega
  have aj:Rows.uptoBulkAll ((List.range len).map D)+1≤Rows.uptoBulk d:=by rw[hd];simp only[Rows.uptoBulk];omega
  obtain⟨l,h1,h2,h3,h4⟩:=C9q (R:=fun i y=>P w (a.add (i*sz)) y∧Q y) (f:=f) (D:=D) len fun i hi=>by
   obtain⟨cs',g1,g2⟩:=hels i (by omega)
   have ac:D i∈(List.range len).map D:=List.mem_map.2 ⟨i,List.mem_range.2 hi,rfl⟩
   obtain⟨y,q1,q2,q3⟩:=ag n _ cs' (D i) (Pl i) (by
    have:=List.sizeOf_lt_of_mem ac
    rw[hd,DataW.slice.sizeOf_spec]
    omega) g1 g2 (by have:=bulk_mem ac;omega)
   exact⟨y,⟨q1,q2⟩,q3⟩
  refine⟨_,l,hcs,⟨some a,len,cap,rfl,h1,hl,hm,fun h=>(by cases h),fun x ah k y hy=>?_⟩,fun y hy=>?_,by omega,by omega⟩
  ·cases ah
   exact(h2 k y hy).1
  ·obtain⟨k,hk⟩:=List.getElem?_of_mem hy
   exact(h2 k y hk).2
theorem B9f {fuel:Nat}{c:Value}{x:DataW H×List MemPlace}(h:DataW.trod enc Tryz.prog w base spare held fuel 63 [c]=some x):∃ n:Nat,c = .int .u64 (n:Int)∧n≤18446744073709551615:=by
 obtain⟨n,h1,_,h2⟩:=DataW.trod_int Tryz.underlying63 h
 simp at h1
 have:=bounds_u64 h2
 exact⟨n.toNat,by rw[h1,Int.toNat_of_nonneg (by omega)],by omega⟩
theorem D0d (fuel:Nat)(a:Addr)(cs:List Value)(d:DataW H)(pl:List MemPlace)(hc:w.cells? base a 1=some cs)(h:DataW.trod enc Tryz.prog w base spare held fuel 63 cs=some (d,pl)):∃ y,UAt w a y∧y≤18446744073709551615∧0≤60*Rows.uptoBulk d:=by
 obtain⟨_,hlen,hcell⟩:=World.cells?_some hc
 match cs,hlen with
 | [v0],_=>
  obtain⟨n1,rfl,z1⟩:=B9f h
  refine⟨n1,?_,z1,Nat.zero_le _⟩
  have:=hcell 0 (by omega)
  simpa [Addr.add,UAt] using this
theorem C6g (fuel:Nat)(a:Addr)(cs:List Value)(d:DataW H)(pl:List MemPlace)(hc:w.cells? base a 1=some cs)(h:DataW.trod enc Tryz.prog w base spare held fuel 5 cs=some (d,pl)):∃ y,YAt w a y∧True∧0≤60*Rows.uptoBulk d:=by
 obtain⟨_,hlen,hcell⟩:=World.cells?_some hc
 match cs,hlen with
 | [v0],_=>
  obtain⟨n,h1,_,h2⟩:=DataW.trod_int Tryz.underlying5 h
  simp at h1
  subst h1
  have hb:=bounds_u8 h2
  refine⟨UInt8.ofNat n.toNat,?_,trivial,Nat.zero_le _⟩
  have:=hcell 0 (by omega)
  have e:(((UInt8.ofNat n.toNat).toNat:Nat):Int)=n:=by
   rw[UInt8.toNat_ofNat',Nat.mod_eq_of_lt (by omega),Int.toNat_of_nonneg (by omega)]
  show w.cell? a=some (.int .u8 (((UInt8.ofNat n.toNat).toNat:Nat):Int))
  rw[e]
  simpa [Addr.add] using this
theorem B9d {fuel:Nat}{cs:List Value}{d:DataW H}{pl:List MemPlace}(h:DataW.trod enc Tryz.prog w base spare held fuel 32 cs=some (d,pl))(hB:Rows.uptoBulk d≤1048576):∃ v l,cs = [v]∧RdL 1 YAt w v l∧l.length+1≤Rows.uptoBulk d:=by
 obtain⟨v,l,e,r,_,_,b⟩:=A4z (P:=YAt) (Q:=fun _=>True) (f:=fun _=>0) (sz:=1) Tryz.underlying32 (by kernel_rfl) h hB fun fuel a cs d' pl _ hc h' _=>C6g fuel a cs d' pl hc h'
 exact⟨v,l,e,r,b⟩
theorem C6h (fuel:Nat)(a:Addr)(cs:List Value)(d:DataW H)(pl:List MemPlace)(hc:w.cells? base a 1=some cs)(h:DataW.trod enc Tryz.prog w base spare held fuel 32 cs=some (d,pl))(hB:Rows.uptoBulk d≤1048576):∃ y,ZAt w a y∧y.length≤1048576∧20+y.length≤60*Rows.uptoBulk d:=by
 obtain⟨_,hlen,hcell⟩:=World.cells?_some hc
 obtain⟨v,l,e,r,b⟩:=B9d h hB
 subst e
 refine⟨l,⟨v,?_,r⟩,by omega,by omega⟩
 have:=hcell 0 (by omega)
 simpa [Addr.add] using this
theorem D0p {xs:List (DataW H×List MemPlace)}{i:Nat}(hi:i<xs.length):Rows.uptoBulk (xs[i]'hi).1+1≤Rows.uptoBulk (DataW.agg (xs.map (·.1))):=by
 have hm:(xs[i]'hi).1∈xs.map (·.1):=List.mem_map.2 ⟨_,List.getElem_mem hi,rfl⟩
 have:=bulk_mem hm
 simp only[Rows.uptoBulk]
 omega
theorem C3l {xs:List (DataW H×List MemPlace)}{i:Nat}(hi:i<xs.length):SizeOf.sizeOf (xs[i]'hi).1<SizeOf.sizeOf (DataW.agg (xs.map (·.1))):=by
 have:(xs[i]'hi).1∈xs.map (·.1):=List.mem_map.2 ⟨_,List.getElem_mem hi,rfl⟩
 have:=List.sizeOf_lt_of_mem this
 rw[DataW.agg.sizeOf_spec]
 omega
theorem E1q {xs:List (DataW H×List MemPlace)}(h:xs.length=4):Rows.uptoBulk (DataW.agg (xs.map (·.1)))=Rows.uptoBulk (xs[0]'(by omega)).1+Rows.uptoBulk (xs[1]'(by omega)).1+Rows.uptoBulk (xs[2]'(by omega)).1+Rows.uptoBulk (xs[3]'(by omega)).1+1:=by
 match xs,h with
 | [a,b,c,d],_=>simp[Rows.uptoBulk,Rows.uptoBulkAll];omega
theorem E1p {xs:List (DataW H×List MemPlace)}(h:xs.length=2):Rows.uptoBulk (DataW.agg (xs.map (·.1)))=Rows.uptoBulk (xs[0]'(by omega)).1+Rows.uptoBulk (xs[1]'(by omega)).1+1:=by
 match xs,h with
 | [a,b],_=>simp[Rows.uptoBulk,Rows.uptoBulkAll]
theorem D0h (fuel:Nat)(a:Addr)(cs:List Value)(d:DataW H)(pl:List MemPlace)(hc:w.cells? base a 4=some cs)(h:DataW.trod enc Tryz.prog w base spare held fuel 106 cs=some (d,pl))(hB:Rows.uptoBulk d≤1048576):∃ y,RAt w a y∧(y.bits≤18446744073709551615∧y.bytes.length≤1048576)∧20+y.bytes.length≤60*Rows.uptoBulk d:=by
 obtain⟨_,hlen,hcell⟩:=World.cells?_some hc
 obtain⟨xs,n,_,hx,_,ac,hf⟩:=DataW.trod_struct Tryz.underlying106 h
 have hd:=(Prod.mk.inj hx).1
 match cs,hlen with
 | [v0,v1,v2,v3],_=>
  have ag:xs.length=4:=ac
  have f0:DataW.trod enc Tryz.prog w base spare held n 3 [v0]=xs[0]?:=hf 0 _ rfl
  have f1:DataW.trod enc Tryz.prog w base spare held n 3 [v1]=xs[1]?:=hf 1 _ rfl
  have f2:DataW.trod enc Tryz.prog w base spare held n 63 [v2]=xs[2]?:=hf 2 _ rfl
  have f3:DataW.trod enc Tryz.prog w base spare held n 32 [v3]=xs[3]?:=hf 3 _ rfl
  rw[List.getElem?_eq_getElem (by omega)] at f0 f1 f2 f3
  have g3:=D0p (xs:=xs) (i:=3) (by omega)
  rw[←hd] at g3
  obtain⟨n0,rfl,z0⟩:=A6u f0
  obtain⟨n1,rfl,z1⟩:=A6u f1
  obtain⟨n2,rfl,z2⟩:=B9f f2
  obtain⟨u3,l3,e3,r3,b3⟩:=B9d (d:=(xs[3]'(by omega)).1) (pl:=(xs[3]'(by omega)).2) f3 (by omega)
  simp at e3
  subst e3
  refine⟨⟨n0,n1,n2,l3⟩,⟨v3,?_,hcell 1 (by omega),hcell 2 (by omega),hcell 3 (by omega),r3⟩,⟨z2,by show l3.length≤_;omega⟩,by show 20+l3.length≤_;omega⟩
  have:=hcell 0 (by omega)
  simpa [Addr.add] using this
theorem D0i {β:Type}{P:World→Addr→β→Prop}{Q : β→Prop}{f : β→Nat}(fuel:Nat)(a:Addr)(cs:List Value)(d:DataW H)(pl:List MemPlace)(hc:w.cells? base a 4=some cs)(h:DataW.trod enc Tryz.prog w base spare held fuel 62 cs=some (d,pl))(hB:Rows.uptoBulk d≤1048576)
  (ac:∀ (fuel:Nat) (a:Addr) (cs:List Value) (d':DataW H) (pl:List MemPlace),SizeOf.sizeOf d'<SizeOf.sizeOf d→w.cells? base a 2=some cs→DataW.trod enc Tryz.prog w base spare held fuel 29 cs=some (d',pl)→Rows.uptoBulk d'≤1048576→∃ y,P w a y∧Q y∧20+f y≤60*Rows.uptoBulk d'):∃ y,VAt P w a y∧VSm Q y∧vW f y≤60*Rows.uptoBulk d:=by
 obtain⟨_,hlen,hcell⟩:=World.cells?_some hc
 obtain⟨xs,n,_,hx,_,ag,hf⟩:=DataW.trod_struct Tryz.underlying62 h
 have hd:=(Prod.mk.inj hx).1
 match cs,hlen with
 | [v0,v1,v2,v3],_=>
  have ah:xs.length=4:=ag
  have f0:DataW.trod enc Tryz.prog w base spare held n 3 [v0]=xs[0]?:=hf 0 _ rfl
  have f1:DataW.trod enc Tryz.prog w base spare held n 59 [v1]=xs[1]?:=hf 1 _ rfl
  have f2:DataW.trod enc Tryz.prog w base spare held n 58 [v2]=xs[2]?:=hf 2 _ rfl
  have f3:DataW.trod enc Tryz.prog w base spare held n 60 [v3]=xs[3]?:=hf 3 _ rfl
  rw[List.getElem?_eq_getElem (by omega)] at f0 f1 f2 f3
  have hb4:=E1q ah
  rw[←hd] at hb4
  have g0:=B5t (xs[0]'(by omega)).1
  have g3:=C3l (xs:=xs) (i:=3) (by omega)
  rw[←hd] at g3
  obtain⟨n0,rfl,z0⟩:=A6u f0
  obtain⟨u1,l1,e1,r1,k1,_,b1⟩:=A4z (P:=UAt) (Q:=fun n=>n≤18446744073709551615) (f:=fun _=>0) (sz:=1) Tryz.underlying59 (by kernel_rfl) (d:=(xs[1]'(by omega)).1) (pl:=(xs[1]'(by omega)).2) f1 (by omega) fun fuel a cs d' pl _ hc h' _=>D0d fuel a cs d' pl hc h'
  obtain⟨u2,l2,e2,r2,k2,w2,b2⟩:=A4z (P:=ZAt) (Q:=fun l=>l.length≤1048576) (f:=fun z=>20+z.length) (sz:=1) Tryz.underlying58 (by kernel_rfl) (d:=(xs[2]'(by omega)).1) (pl:=(xs[2]'(by omega)).2) f2 (by omega) fun fuel a cs d' pl _ hc h' hs=>C6h fuel a cs d' pl hc h' hs
  obtain⟨u3,l3,e3,r3,k3,w3,b3⟩:=A4z (P:=P) (Q:=Q) (f:=fun s=>20+f s) (sz:=2) Tryz.underlying60 (by kernel_rfl) (d:=(xs[3]'(by omega)).1) (pl:=(xs[3]'(by omega)).2) f3 (by omega) fun fuel a cs d' pl hlt hc h' hs=>ac fuel a cs d' pl (Nat.lt_trans hlt g3) hc h' hs
  simp at e1 e2 e3
  subst e1 e2 e3
  refine⟨⟨n0,l1,l2,l3⟩,⟨v1,v2,v3,?_,hcell 1 (by omega),hcell 2 (by omega),hcell 3 (by omega),r1,r2,r3⟩,⟨by show l1.length≤_;omega,k1,by show l2.length≤_;omega,k2,by show l3.length≤_;omega,k3⟩,?_⟩
  ·have:=hcell 0 (by omega)
   simpa [Addr.add] using this
  ·show 30+30*l1.length+(l2.map fun z=>20+z.length).sum+(l3.map fun s=>20+f s).sum≤_
   omega
theorem B3d {N:Nat}(aj:∀ (fuel:Nat) (a:Addr) (cs:List Value) (d':DataW H) (pl:List MemPlace),SizeOf.sizeOf d'<N→w.cells? base a 2=some cs→DataW.trod enc Tryz.prog w base spare held fuel 29 cs=some (d',pl)→Rows.uptoBulk d'≤1048576→∃ y,BAt N w a y∧BSm N y∧20+bW N y≤60*Rows.uptoBulk d')
  {fuel:Nat}{cs:List Value}{d:DataW H}{pl:List MemPlace}(hN:SizeOf.sizeOf d≤N) (h:DataW.trod enc Tryz.prog w base spare held fuel 29 cs=some (d,pl)) (hl:cs.length=2) (hB:Rows.uptoBulk d≤1048576):∃ v0 v1 y,cs = [v0,v1]∧BRd N w v0 v1 y∧OSm (BSm N) y∧20+oW (bW N) y≤60*Rows.uptoBulk d:=by
 obtain⟨xs,n,_,hx,_,ak,hf⟩:=DataW.trod_struct Tryz.underlying29 h
 have hd:=(Prod.mk.inj hx).1
 match cs,hl with
 | [v0,v1],_=>
  have au:xs.length=2:=ak
  have f0:DataW.trod enc Tryz.prog w base spare held n 26 [v0]=xs[0]?:=hf 0 _ rfl
  have f1:DataW.trod enc Tryz.prog w base spare held n 27 [v1]=xs[1]?:=hf 1 _ rfl
  rw[List.getElem?_eq_getElem (by omega)] at f0 f1
  have hb2:=E1p au
  have g0:=C3l (xs:=xs) (i:=0) (by omega)
  rw[←hd] at hb2 g0
  obtain⟨u0,l0,e0,r0,k0,w0,b0⟩:=A4z (P:=VAt (BAt N)) (Q:=VSm (BSm N)) (f:=vW (bW N)) (sz:=4) Tryz.underlying26 (by kernel_rfl) (d:=(xs[0]'(by omega)).1) (pl:=(xs[0]'(by omega)).2) f0 (by omega) fun fuel a cs d' pl hlt hc h' hs=>D0i fuel a cs d' pl hc h' hs fun fuel a cs ag pl ac hc ah hs2=>aj fuel a cs ag pl (Nat.lt_of_lt_of_le (Nat.lt_trans ac (Nat.lt_trans hlt g0)) hN) hc ah hs2
  obtain⟨u1,l1,e1,r1,k1,w1,b1⟩:=A4z (P:=RAt) (Q:=fun r=>r.bits≤18446744073709551615∧r.bytes.length≤1048576) (f:=fun r=>20+r.bytes.length) (sz:=4) Tryz.underlying27 (by kernel_rfl) (d:=(xs[1]'(by omega)).1) (pl:=(xs[1]'(by omega)).2) f1 (by omega) fun fuel a cs d' pl _ hc h' hs=>D0h fuel a cs d' pl hc h' hs
  simp at e0 e1
  subst e0 e1
  refine⟨v0,v1,⟨l0,l1⟩,rfl,⟨r0,r1⟩,⟨k0,by show l1.length≤_;omega,k1⟩,?_⟩
  show 20+((l0.map (vW (bW N))).sum+(l1.map fun r=>20+r.bytes.length).sum)≤_
  omega
theorem B9e:∀ (N fuel:Nat) (a:Addr) (cs:List Value) (d':DataW H) (pl:List MemPlace),SizeOf.sizeOf d'<N→w.cells? base a 2=some cs→DataW.trod enc Tryz.prog w base spare held fuel 29 cs=some (d',pl)→Rows.uptoBulk d'≤1048576→∃ y,BAt N w a y∧BSm N y∧20+bW N y≤60*Rows.uptoBulk d'
 | 0,_,_,_,_,_,h,_,_,_=>by omega
 | N+1,fuel,a,cs,d',pl,hN,hc,h,hs=>by
  obtain⟨_,hlen,hcell⟩:=World.cells?_some hc
  obtain⟨v0,v1,y,rfl,hr,hk,hw⟩:=B3d (B9e N) (by omega) h hlen hs
  refine⟨y,⟨v0,v1,?_,hcell 1 (by omega),hr⟩,hk,hw⟩
  have:=hcell 0 (by omega)
  simpa [Addr.add] using this
theorem open_bodyU {v:Value}{fuel:Nat}{d:DataW H}{pl:List MemPlace}(N:Nat)(hN:SizeOf.sizeOf d≤N)(h:DataW.trod enc Tryz.prog w base spare held fuel 29 v.cells.toList=some (d,pl))(hB:Rows.uptoBulk d≤1048576):∃ v0 v1 y,v = .agg #[v0,v1]∧BRd N w v0 v1 y∧OSm (BSm N) y∧oW (bW N) y≤1000000000:=by
 have hlen:v.cells.toList.length=2:=by
  obtain⟨xs,n,_,_,hlen,_,_⟩:=DataW.trod_struct Tryz.underlying29 h
  exact hlen
 obtain⟨v0,v1,y,hcs,hr,hk,hw⟩:=B3d (B9e N) hN h hlen hB
 clear h hlen
 refine⟨v0,v1,y,?_,hr,hk,by omega⟩
 cases v <;> simp[Value.cells] at hcs
 rename_i cs
 have:cs=#[v0,v1]:=by cases cs;simp_all
 rw[this]
end
end L
end Go.Proofs.YtgaoojpakjjdnaaGreatDoor
