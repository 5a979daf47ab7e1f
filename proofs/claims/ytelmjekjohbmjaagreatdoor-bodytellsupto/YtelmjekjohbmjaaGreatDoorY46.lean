import Derived.Test.YtelmjekjohbmjaaGreatDoorY18
import Derived.Test.YtelmjekjohbmjaaGreatDoorY36
import Derived.Laws.StructEq
import Derived.Deep.CutRange
import Derived.Deep.QuietTactic
import Derived.BigQuiet
import Derived.Deep.RegionHeld3
import Derived.Deep.DeepCutAuto
import Derived.Test.YtelmjekjohbmjaaGreatDoorY44
import Derived.Test.YtelmjekjohbmjaaGreatDoorY20
import Derived.Test.YtelmjekjohbmjaaGreatDoorY09
import Derived.Test.YtelmjekjohbmjaaGreatDoorY32
import Derived.Test.YtelmjekjohbmjaaGreatDoorY45
namespace Go.Proofs.YtelmjekjohbmjaaGreatDoor
namespace L
open Go.RowKit
theorem A4y (B:Nat) (w:World){n:Nat}:Below B w (w.drewN n):=⟨rfl,rfl,rfl,Nat.le_refl _,fun _ _=>rfl⟩
theorem A3y {w:World}{v:Value}{l:List UInt8}(h:RdL 1 YAt w v l) (n:Nat):RdL 1 YAt (w.drewN n) v l:=h
set_option maxHeartbeats 2000000 in
set_option maxRecDepth 100000 in
theorem B6y {va vb:Value}{rs:List RI}{w:World}(ha:RdL 4 RAt w va rs) (hb:RdL 4 RAt w vb rs) :
  Calls Tryz.prog 28 #[va,vb] w fun e w'=>e = .returned (.bool true)∧Below w.heap.size w w':=by
 obtain⟨ao,n,ca,rfl,Ha,hlm⟩:=ha.shape
 obtain⟨bo,n',cb,rfl,Hb,_⟩:=hb.shape
 obtain rfl:n=n':=by rw[Ha.out,Hb.out]
 go_enter Tryz.func28,Tryz.ntmps28
 go_wp2_with fail
 go_loopg [13] n (fun m i wr=>∃ (k d:Nat),k+m=n∧i = .int .i64 (k:Int)∧wr=w.drewN d)
 case atStart=>exact⟨0,0,by omega,rfl,rfl⟩
 case round=>
  obtain⟨k,d,hk,rfl,rfl⟩:=hrel
  by_cases hlt:k < n
  ·obtain⟨r,Hr⟩:∃ r,Hid (rs[k]?=some r):=⟨rs[k]'(by rw[←Ha.out];exact hlt),List.getElem?_eq_getElem (by rw[←Ha.out];exact hlt)⟩
   obtain⟨b,off,rfl,hat⟩:=ha.get RAt.plain Hr.out
   obtain⟨b',off',rfl,hat'⟩:=hb.get RAt.plain Hr.out
   obtain⟨v1,c0,c1,c2,c3,hrd⟩:=hat.at
   obtain⟨v2,d0,d1,d2,d3,hrd'⟩:=hat'.at
   obtain⟨ao1,len1,cap1,rfl,_,_⟩:=hrd.shape
   obtain⟨ao2,len2,cap2,rfl,_,_⟩:=hrd'.shape
   have s1:∀ n,(convert 68 9 (.slice ao1 len1 cap1)).run Tryz.prog (w.drewN n) = .ok (.string ⟨r.bytes.toArray⟩) (w.drewN n):=fun n=>A5i (A3y hrd n)
   have s2:∀ n,(convert 68 9 (.slice ao2 len2 cap2)).run Tryz.prog (w.drewN n) = .ok (.string ⟨r.bytes.toArray⟩) (w.drewN n):=fun n=>A5i (A3y hrd' n)
   have hlt':(k:Int) < (n:Int):=by omega
   clear hrd hrd' ha hb hat hat'
   go_wp2_with fail
   go_quiet (fail)
   go_wp2_with fail
   go_roundg (n - (k+1))
   case measure=>omega
   case rel=>exact⟨k+1,_,by omega,by go_num,rfl⟩
  ·go_wp2
   go_ret
   exact⟨rfl,A4y _ _⟩
end L
end Go.Proofs.YtelmjekjohbmjaaGreatDoor
namespace Go.Proofs.YtelmjekjohbmjaaGreatDoor
namespace L
open Go.RowKit
theorem B2z {w:World}{g:Nat}{a0 a1 a2 a3:Value}{t:TypeId}(h:w.heap[g]?=some (.cells #[a0,a1,a2,a3] t (0,0))) :
  w.cell? ⟨g,0,none⟩=some a0∧w.cell? ⟨g,1,none⟩=some a1∧w.cell? ⟨g,2,none⟩=some a2∧w.cell? ⟨g,3,none⟩=some a3:=
 ⟨A0a h 0 _ rfl,A0a h 1 _ rfl,A0a h 2 _ rfl,A0a h 3 _ rfl⟩
theorem C2j {W V V':World}(h:Below W.heap.size W V) (k:Below V.heap.size V V'):Below W.heap.size W V':=h.trans (k.mono h.size)
def B5b (d:Nat):Prop:=∀ (s:BI d) (w:World) (b1 o1 b2 o2:Nat),BAt d w ⟨b1,o1,none⟩ s→BAt d w ⟨b2,o2,none⟩ s→
 ∃ (x0 x1 y0 y1:Option Addr) (n0 n1 m0 m1 c0 c1 e0 e1:Nat),w.cell? ⟨b1,o1,none⟩=some (.slice x0 n0 c0)∧w.cell? ⟨b1,o1+1,none⟩=some (.slice x1 n1 c1)∧w.cell? ⟨b2,o2,none⟩=some (.slice y0 m0 e0)∧w.cell? ⟨b2,o2+1,none⟩=some (.slice y1 m1 e1)∧
  ∀ V,Below w.heap.size w V→Calls Tryz.prog 10 #[.agg #[.slice x0 n0 c0,.slice x1 n1 c1],.agg #[.slice y0 m0 e0,.slice y1 m1 e1]] V fun e w'=>e = .returned (.bool true)∧Below V.heap.size V w'
set_option maxHeartbeats 4000000 in
set_option maxRecDepth 100000 in
theorem B0n {d:Nat}(hrec:B5b d){w:World}{va ua vb ub:Value}{b:BO (BI d)}(h1:BRd d w va ua b) (h2:BRd d w vb ub b) :
  Calls Tryz.prog 10 #[.agg #[va,ua],.agg #[vb,ub]] w fun e w'=>e = .returned (.bool true)∧Below w.heap.size w w':=by
 obtain⟨aa,n,ca,rfl,Hn1,hnm⟩:=h1.1.shape
 obtain⟨ab,n',cb,rfl,Hn2,_⟩:=h2.1.shape
 obtain⟨ea,ne,ga,rfl,He1,hnem⟩:=h1.2.shape
 obtain⟨eb,ne',gb,rfl,He2,_⟩:=h2.2.shape
 obtain rfl:n=n':=by rw[Hn1.out,Hn2.out]
 obtain rfl:ne=ne':=by rw[He1.out,He2.out]
 obtain⟨W0,HW0⟩:∃ W0,Hid (W0=(w.alloc (.cells #[.slice aa n ca,.slice ea ne ga] 29)).alloc (.cells #[.slice ab n cb,.slice eb ne gb] 29)):=⟨_,rfl⟩
 have hB0:Below w.heap.size w W0:=by rw[HW0.out];exact((Below.refl _ _).alloc (Nat.le_refl _) _).alloc (by simp) _
 have hx1:W0.heap[w.heap.size]?=some (.cells #[.slice aa n ca,.slice ea ne ga] 29 (0,0)):=by rw[HW0.out];exact A0r _ _ _
 have hx2:W0.heap[w.heap.size+1]?=some (.cells #[.slice ab n cb,.slice eb ne gb] 29 (0,0)):=by rw[HW0.out];exact A0o _ _ _
 have hz0:w.heap.size+2≤W0.heap.size:=by rw[HW0.out];simp
 have hsr:=B6y (h1.2.below RAt.stays hB0) (h2.2.below RAt.stays hB0)
 go_enter Tryz.func10,Tryz.ntmps10
 go_wp2_with fail
 rw[←HW0.out]
 refine hsr.mono ?_
 rintro e w1 ⟨rfl,hb1⟩
 clear hsr
 have y1:=(hb1.block w.heap.size (by omega)).trans hx1
 have y2:=(hb1.block (w.heap.size+1) (by omega)).trans hx2
 obtain⟨x10,x11⟩:=A0x y1
 obtain⟨x20,x21⟩:=A0x y2
 go_wp2_with fail
 clear x10 x11 x20 x21 y1 y2
 go_loopg [29] n (fun m i wr=>∃ k:Nat,k+m=n∧i = .int .i64 k∧Below (w.heap.size+2) W0 wr)
 case atStart=>exact⟨0,by omega,rfl,hb1.mono (by omega)⟩
 case round=>
  clear hb1
  obtain⟨k,hk,rfl,hb⟩:=hrel
  obtain⟨wo,Hwo⟩:∃ wo,wo=wr:=⟨_,rfl⟩
  subst Hwo
  have hBw:Below w.heap.size w wo:=hB0.trans (hb.mono (by omega))
  have hf1:=h1.below hBw
  have hf2:=h2.below hBw
  have y1:=(hb.block w.heap.size (by omega)).trans hx1
  have y2:=(hb.block (w.heap.size+1) (by omega)).trans hx2
  obtain⟨x10,x11⟩:=A0x y1
  obtain⟨x20,x21⟩:=A0x y2
  have hzr:w.heap.size+2≤wo.heap.size:=by have:=hb.size;omega
  by_cases hlt:k < n
  ·obtain⟨vv,Hp⟩:∃ p,Hid (b.vals[k]?=some p):=⟨b.vals[k]'(by rw[←Hn1.out];exact hlt),List.getElem?_eq_getElem (by rw[←Hn1.out];exact hlt)⟩
   obtain⟨g1,o1,rfl,hat1⟩:=hf1.1.get VAt.plain Hp.out
   obtain⟨g2,o2,rfl,hat2⟩:=hf2.1.get VAt.plain Hp.out
   obtain⟨p1,p2,p3,e0,e1,e2,e3,r11,r12,r13⟩:=hat1.at
   obtain⟨q1,q2,q3,t0,t1,t2,t3,r21,r22,r23⟩:=hat2.at
   obtain⟨a11,m1,c11,rfl,K11,hm1⟩:=r11.shape
   obtain⟨a12,m2,c12,rfl,K12,hm2⟩:=r12.shape
   obtain⟨a13,m3,c13,rfl,K13,hm3⟩:=r13.shape
   obtain⟨a21,m1',c21,rfl,K21,_⟩:=r21.shape
   obtain⟨a22,m2',c22,rfl,K22,_⟩:=r22.shape
   obtain⟨a23,m3',c23,rfl,K23,_⟩:=r23.shape
   obtain rfl:m1=m1':=by rw[K11.out,K21.out]
   obtain rfl:m2=m2':=by rw[K12.out,K22.out]
   obtain rfl:m3=m3':=by rw[K13.out,K23.out]
   have hki:(k:Int) < (n:Int):=by omega
   have z0:w.heap.size < wo.heap.size:=by omega
   have z1:w.heap.size+1 < wo.heap.size:=by omega
   have z2:g2 < wo.heap.size:=World.block_lt_of_cell? wo _ t0
   clear hat1 hat2 hf1 hf2 y1 y2
   obtain⟨W1,HW1⟩:∃ W1,Hid (W1=(wo.alloc (.cells #[.int .i64 vv.number,.slice a11 m1 c11,.slice a12 m2 c12,.slice a13 m3 c13] 34)).alloc (.cells #[.int .i64 vv.number,.slice a21 m1 c21,.slice a22 m2 c22,.slice a23 m3 c23] 34)):=⟨_,rfl⟩
   have hB1:Below wo.heap.size wo W1:=by rw[HW1.out];exact((Below.refl _ _).alloc (Nat.le_refl _) _).alloc (by simp) _
   have v1:W1.heap[wo.heap.size]?=some (.cells #[.int .i64 vv.number,.slice a11 m1 c11,.slice a12 m2 c12,.slice a13 m3 c13] 34 (0,0)):=by rw[HW1.out];exact A0r _ _ _
   have v2:W1.heap[wo.heap.size+1]?=some (.cells #[.int .i64 vv.number,.slice a21 m1 c21,.slice a22 m2 c22,.slice a23 m3 c23] 34 (0,0)):=by rw[HW1.out];exact A0o _ _ _
   have hz1:wo.heap.size+2≤W1.heap.size:=by rw[HW1.out];simp
   go_wp2_with fail
   rw[←HW1.out]
   clear x10 x11 x20 x21 e0 e1 e2 e3 t0 t1 t2 t3
   go_loopg [74] m1 (fun m i wi=>∃ j:Nat,j+m=m1∧i = .int .i64 j∧Below (wo.heap.size+2) W1 wi)
   case atStart=>exact⟨0,by omega,rfl,Below.refl _ _⟩
   case round=>
    obtain⟨j,hj,rfl,hbi⟩:=hrel
    have hBi:Below wo.heap.size wo wr:=hB1.trans (hbi.mono (by omega))
    obtain⟨_,m11,m12,m13⟩:=B2z ((hbi.block wo.heap.size (by omega)).trans v1)
    obtain⟨_,m21,m22,m23⟩:=B2z ((hbi.block (wo.heap.size+1) (by omega)).trans v2)
    by_cases hjl:j < m1
    ·obtain⟨f,Hf⟩:∃ f,Hid (vv.bits[j]?=some f):=⟨vv.bits[j]'(by rw[←K11.out];exact hjl),List.getElem?_eq_getElem (by rw[←K11.out];exact hjl)⟩
     obtain⟨gf1,of1,rfl,u1⟩:=(r11.below UAt.stays hBi).get UAt.plain Hf.out
     obtain⟨gf2,of2,rfl,u2⟩:=(r21.below UAt.stays hBi).get UAt.plain Hf.out
     have s0:wr.cell? ⟨gf1,of1+j,none⟩=some (.int .u64 (f:Int)):=by simpa [UAt] using u1
     have p0:wr.cell? ⟨gf2,of2+j,none⟩=some (.int .u64 (f:Int)):=by simpa [UAt] using u2
     have hji:(j:Int) < (m1:Int):=by omega
     clear u1 u2
     go_wp2_with fail
     go_quiet (fail)
     go_wp2_with fail
     go_roundg (m1 - (j+1))
     case measure=>omega
     case rel=>exact⟨j+1,by omega,by go_num,hbi.trans (A4y _ _)⟩
    ·go_wp2_with fail
     obtain⟨wi,Hwi⟩:∃ wi,wi=wr:=⟨_,rfl⟩
     subst Hwi
     clear m11 m12 m13 m21 m22 m23 hBi
     go_loopg [92] m2 (fun m i wj=>∃ j:Nat,j+m=m2∧i = .int .i64 j∧Below (wo.heap.size+2) W1 wj)
     case atStart=>exact⟨0,by omega,rfl,hbi⟩
     case round=>
      clear hbi
      obtain⟨j2,hj2,rfl,hbj⟩:=hrel
      have hBj:Below wo.heap.size wo wr:=hB1.trans (hbj.mono (by omega))
      obtain⟨_,m11,m12,m13⟩:=B2z ((hbj.block wo.heap.size (by omega)).trans v1)
      obtain⟨_,m21,m22,m23⟩:=B2z ((hbj.block (wo.heap.size+1) (by omega)).trans v2)
      by_cases hjl2:j2 < m2
      ·obtain⟨y,Hy⟩:∃ y,Hid (vv.bytes[j2]?=some y):=⟨vv.bytes[j2]'(by rw[←K12.out];exact hjl2),List.getElem?_eq_getElem (by rw[←K12.out];exact hjl2)⟩
       obtain⟨gb1,ob1,rfl,u1⟩:=(r12.below ZAt.stays hBj).get ZAt.plain Hy.out
       obtain⟨gb2,ob2,rfl,u2⟩:=(r22.below ZAt.stays hBj).get ZAt.plain Hy.out
       obtain⟨f1,u1,rd1⟩:=u1.at
       obtain⟨f2,u2,rd2⟩:=u2.at
       obtain⟨af1,nf1,cf1,rfl,_,_⟩:=rd1.shape
       obtain⟨af2,nf2,cf2,rfl,_,_⟩:=rd2.shape
       rw[Nat.mul_one] at u1 u2
       have s1:∀ n,(convert 68 9 (.slice af1 nf1 cf1)).run Tryz.prog (wr.drewN n) = .ok (.string ⟨y.toArray⟩) (wr.drewN n):=fun n=>A5i (A3y rd1 n)
       have s2:∀ n,(convert 68 9 (.slice af2 nf2 cf2)).run Tryz.prog (wr.drewN n) = .ok (.string ⟨y.toArray⟩) (wr.drewN n):=fun n=>A5i (A3y rd2 n)
       have hji:(j2:Int) < (m2:Int):=by omega
       clear rd1 rd2
       go_wp2_with fail
       go_quiet (fail)
       go_wp2_with fail
       go_roundg (m2 - (j2+1))
       case measure=>omega
       case rel=>exact⟨j2+1,by omega,by go_num,hbj.trans (A4y _ _)⟩
      ·go_wp2_with fail
       obtain⟨wj,Hwj⟩:∃ wj,wj=wr:=⟨_,rfl⟩
       subst Hwj
       clear m11 m12 m13 m21 m22 m23 hBj
       go_loopg [112] m3 (fun m i wj=>∃ j:Nat,j+m=m3∧i = .int .i64 j∧Below (wo.heap.size+2) W1 wj)
       case atStart=>exact⟨0,by omega,rfl,hbj⟩
       case round=>
        clear hbj
        obtain⟨j3,hj3,rfl,hbl⟩:=hrel
        obtain⟨wl,Hwl⟩:∃ wl,wl=wr:=⟨_,rfl⟩
        subst Hwl
        have hBl:Below wo.heap.size wo wl:=hB1.trans (hbl.mono (by omega))
        obtain⟨_,m11,m12,m13⟩:=B2z ((hbl.block wo.heap.size (by omega)).trans v1)
        obtain⟨_,m21,m22,m23⟩:=B2z ((hbl.block (wo.heap.size+1) (by omega)).trans v2)
        by_cases hjl3:j3 < m3
        ·obtain⟨s,Hs⟩:∃ s,Hid (vv.subs[j3]?=some s):=⟨vv.subs[j3]'(by rw[←K13.out];exact hjl3),List.getElem?_eq_getElem (by rw[←K13.out];exact hjl3)⟩
         obtain⟨gs1,os1,rfl,u1⟩:=(r13.below (BAt.stays d) hBl).get (BAt.plain d) Hs.out
         obtain⟨gs2,os2,rfl,u2⟩:=(r23.below (BAt.stays d) hBl).get (BAt.plain d) Hs.out
         obtain⟨i0,i1,l0,l1,n0,n1,q0,q1,c0,c1,f0,f1,s0,s1,p0,p1,hcall⟩:=hrec s wl _ _ _ _ u1 u2
         have hji:(j3:Int) < (m3:Int):=by omega
         have hcl:∀ V,Below wl.heap.size wl V→Below wl.heap.size wl V∧V.cell? ⟨wo.heap.size,3,none⟩=some (.slice (some ⟨gs1,os1,none⟩) m3 c13)∧V.cell? ⟨wo.heap.size+1,3,none⟩=some (.slice (some ⟨gs2,os2,none⟩) m3 c23)∧V.cell? ⟨gs1,os1+j3*2,none⟩=some (.slice i0 n0 c0)∧V.cell? ⟨gs1,os1+j3*2+1,none⟩=some (.slice i1 n1 c1)∧V.cell? ⟨gs2,os2+j3*2,none⟩=some (.slice l0 q0 f0)∧V.cell? ⟨gs2,os2+j3*2+1,none⟩=some (.slice l1 q1 f1):=fun V hV=>⟨hV,A0c hV m13,A0c hV m23,A0c hV s0,A0c hV s1,A0c hV p0,A0c hV p1⟩
         clear u1 u2 m11 m12 m21 m22
         go_wp2_with fail
         go_cut [112,126] from 112 to 127 (fun s112 s126 wc=>s112 = .int .i64 j3∧s126 = .bool false∧Below wl.heap.size wl wc)
         case first=>
          clear h1 h2 HW0 hB0 hx1 hx2 HW1 hB1 v1 v2 r11 r12 r13 r21 r22 r23 hBl hBw hb hbl m13 m23 s0 s1 p0 p1
          go_region_held3 (fun V=>Below wl.heap.size wl V∧V.cell? ⟨wo.heap.size,3,none⟩=some (.slice (some ⟨gs1,os1,none⟩) m3 c13)∧V.cell? ⟨wo.heap.size+1,3,none⟩=some (.slice (some ⟨gs2,os2,none⟩) m3 c23)∧V.cell? ⟨gs1,os1+j3*2,none⟩=some (.slice i0 n0 c0)∧V.cell? ⟨gs1,os1+j3*2+1,none⟩=some (.slice i1 n1 c1)∧V.cell? ⟨gs2,os2+j3*2,none⟩=some (.slice l0 q0 f0)∧V.cell? ⟨gs2,os2+j3*2+1,none⟩=some (.slice l1 q1 f1)) ((refine hcl _ ?_;first|exact(Below.refl _ _).drew|exact hBn)) ((go_at_call 10;go_split_ands;refine(hcall _ (by assumption)).mono ?_;rintro e wn ⟨rfl,hbn⟩;have hBn:=C2j (by assumption) hbn))
          all_goals go_wp2_with fail
          all_goals go_meet
          all_goals exact⟨rfl,rfl,hBn⟩
         case rest=>
          obtain⟨rfl,rfl,hbc⟩:=hcut
          have hsl:=hbl.size
          clear hcl hcall s0 s1 p0 p1 m13 m23
          go_wp2_with fail
          go_roundg (m3 - (j3+1))
          case measure=>omega
          case rel=>exact⟨j3+1,by omega,by go_num,hbl.trans (hbc.mono (by omega))⟩
        ·go_wp2_with fail
         go_roundg (n - (k+1))
         case measure=>omega
         case rel=>exact⟨k+1,by omega,by go_num,hb.trans ((hB1.mono hzr).trans (hbl.mono (by omega)))⟩
  ·go_wp2
   go_ret
   exact⟨rfl,hBw⟩
theorem B7i:∀ d,B5b d
 | 0=>fun s=>s.elim
 | d+1=>fun s w b1 o1 b2 o2 h1 h2=>by
  obtain⟨v0,v1,e0,e1,r1⟩:=BAt.at h1
  obtain⟨u0,u1,t0,t1,r2⟩:=BAt.at h2
  obtain⟨x0,n0,c0,rfl,_,_⟩:=r1.1.shape
  obtain⟨x1,n1,c1,rfl,_,_⟩:=r1.2.shape
  obtain⟨y0,m0,f0,rfl,_,_⟩:=r2.1.shape
  obtain⟨y1,m1,f1,rfl,_,_⟩:=r2.2.shape
  exact⟨x0,x1,y0,y1,n0,n1,m0,m1,c0,c1,f0,f1,e0,e1,t0,t1,fun V hV=>B0n (B7i d) (r1.below hV) (r2.below hV)⟩
theorem B5i {d:Nat}{w:World}{va ua vb ub:Value}{b:BO (BI d)}(h1:BRd d w va ua b) (h2:BRd d w vb ub b) :
  Calls Tryz.prog 10 #[.agg #[va,ua],.agg #[vb,ub]] w fun e w'=>e = .returned (.bool true)∧Below w.heap.size w w':=B0n (B7i d) h1 h2
end L
end Go.Proofs.YtelmjekjohbmjaaGreatDoor
namespace Go.Proofs.YtelmjekjohbmjaaGreatDoor
namespace L
open Go.RowKit
set_option linter.unusedVariables false
theorem C0q {α:Type}{sz n:Nat}{P:World→Addr→α→Prop}{w:World}{g:Nat}{l:List α}(hl:l.length=n) (hn:n≤1000000) (hat:∀ k a,l[k]?=some a→P w ⟨g,k*sz,none⟩ a):RdL sz P w (.slice (some ⟨g,0,none⟩) n n) l:=
 ⟨_,n,n,rfl,hl,Nat.le_refl _,by unfold maxLen;omega,(fun e=>by cases e),fun x hx k a ha=>by cases hx;rw[A0j,Nat.zero_add];exact hat k a ha⟩
end L
end Go.Proofs.YtelmjekjohbmjaaGreatDoor
namespace Go.Proofs.YtelmjekjohbmjaaGreatDoor
namespace L
open Go.RowKit
set_option linter.unusedVariables false
def VLs (d:Nat) (w:World) (a1:Option Addr) (n1 c1:Nat) (a2:Option Addr) (n2 c2:Nat) (a3:Option Addr) (n3 c3:Nat) (v:VI (BI d)):Prop:=RdL 1 UAt w (.slice a1 n1 c1) v.bits∧RdL 1 ZAt w (.slice a2 n2 c2) v.bytes∧RdL 2 (BAt d) w (.slice a3 n3 c3) v.subs
theorem VLs.below {d:Nat}{w w':World}{a1:Option Addr}{n1 c1:Nat}{a2:Option Addr}{n2 c2:Nat}{a3:Option Addr}{n3 c3:Nat}{v:VI (BI d)}(h:VLs d w a1 n1 c1 a2 n2 c2 a3 n3 c3 v) (hb:Below w.heap.size w w'):VLs d w' a1 n1 c1 a2 n2 c2 a3 n3 c3 v:=⟨h.1.below UAt.stays hb,h.2.1.below ZAt.stays hb,h.2.2.below (BAt.stays d) hb⟩
theorem B8r {β:Type}{l:List (VI β)}{x:Int}{k:Nat}{v:VI β}(h1:A0i (fun v:VI β=>decide (v.number=x)) l=(k:Int)) (h2:l[k]?=some v):l.find? (isV x)=some v:=by
 cases hf:l.find? (isV x) with
 | none=>
  have:=A1p (p:=fun v:VI β=>decide (v.number=x)) (l:=l) fun b hb=>by
   have:=List.find?_eq_none.1 hf b hb
   simpa [isV] using this
  rw[this] at h1
  omega
 | some u=>
  obtain⟨j,g1,g2⟩:=A8z (show l.find? (fun v:VI β=>decide (v.number=x))=some u from hf)
  rw[g1] at h1
  obtain rfl:j=k:=by omega
  rw[h2] at g2
  exact g2.symm
theorem C1e {d:Nat}{w:World}{v0 v1:Value}{b:BO (BI d)}(h:BRd d w v0 v1 b) (hok:∀ v∈b.vals,VOk (BOk d) v) (x:Int){r:Option (VI (BI d))}(hr:b.vals.find? (isV x)=r) :
  Calls Tryz.prog 14 #[.agg #[v0,v1],.int .i64 x] w fun e w'=>∃ (a1:Option Addr) (n1 c1:Nat) (a2:Option Addr) (n2 c2:Nat) (a3:Option Addr) (n3 c3:Nat),e = .returned (.tuple #[.agg #[.int .i64 (r.getD B7y).number,.slice a1 n1 c1,.slice a2 n2 c2,.slice a3 n3 c3],.bool r.isSome])∧Hid (VLs d w' a1 n1 c1 a2 n2 c2 a3 n3 c3 (r.getD B7y))∧Below w.heap.size w w':=by
 refine(C0k (B0:=0) (Nat.zero_le _) h hok x).mono ?_
 rintro e w' ⟨⟨hno,rfl⟩|⟨k,v,hk1,hk2,hk3,y,q0,u1,v1,z1,u2,v2,z2,u3,v3,z3,henc,rfl,hpl,hov,_,_⟩,hb⟩
 ·have:r=none:=by
   rw[←hr,List.find?_eq_none]
   exact fun a ha=>by have:=hno a ha;simpa [isV] using this
  subst this
  exact⟨_,_,_,_,_,_,_,_,_,rfl,⟨RdL.nil _ _ _,RdL.nil _ _ _,RdL.nil _ _ _⟩,hb⟩
 ·have hv:=B8r hk1 hk2
  rw[hr] at hv
  subst hv
  have h0 : [Value.int .i64 y.number,y.p1.v,y.p2.v,y.p3.v] = [.int .i64 q0,.slice u1 v1 z1,.slice u2 v2 z2,.slice u3 v3 z3]:=henc
  simp only[List.cons.injEq,and_true,Value.int.injEq,true_and] at h0
  obtain⟨e0,e1,e2,e3⟩:=h0
  have e0':q0=v.number:=by rw[←e0,←hpl];rfl
  subst e0'
  refine⟨u1,v1,z1,u2,v2,z2,u3,v3,z3,rfl,?_,hb⟩
  show VLs d w' u1 v1 z1 u2 v2 z2 u3 v3 z3 v
  rw[←hpl,VLs,←e1,←e2,←e3]
  refine⟨hov.r1.rdU,hov.r2.rdZ hov.r2y,?_⟩
  exact RdL.mapB (P:=fun w (x:Addr) (s:LB d)=>∃ g i,x=⟨g,i,none⟩∧∀ j u,(A6i d s)[j]?=some u→w.cell? ⟨g,i+j,none⟩=some u) _ (hov.r3.rd _ fun g i a hc=>⟨g,i,rfl,hc⟩) fun _ s hs' ⟨g,i,e,hc⟩=>by rw[e];exact OwnB.at d s g i (hov.r3s s hs') hc
end L
end Go.Proofs.YtelmjekjohbmjaaGreatDoor
namespace Go.Proofs.YtelmjekjohbmjaaGreatDoor
namespace L
open Go.RowKit
set_option linter.unusedVariables false
def jcN (g:GI) (d:Nat) (msg:Int) (a b:BI (d+1)):BO (BI d):=
 if A3q g d msg a b=0 then match g.msgs[msg.toNat]? with
  | some M=>jnB g.msgs (d+1) M a b
  | none=>⟨[],[]⟩
 else⟨[],[]⟩
theorem B5z {g:GI}{d:Nat}{msg:Int}{a b:BI (d+1)}{M:MI}(h:A3q g d msg a b=0) (hM:g.msgs[msg.toNat]?=some M):jcN g d msg a b=jnB g.msgs (d+1) M a b:=by
 unfold jcN
 rw[if_pos h,hM]
theorem B5y {g:GI}{d:Nat}{msg:Int}{a b:BI (d+1)}(h:A3q g d msg a b≠0):jcN g d msg a b=⟨[],[]⟩:=by
 unfold jcN
 rw[if_neg h]
def JIs (d:Nat) (w:World) (E:Int) (C:BO (BI d)) (e:Ending) (w':World):Prop:=∃ (e0:Option Addr) (f0 g0:Nat) (e1:Option Addr) (f1 g1:Nat),e = .returned (.tuple #[.agg #[.slice e0 f0 g0,.slice e1 f1 g1],.int .i64 E])∧Hid (BRd d w' (.slice e0 f0 g0) (.slice e1 f1 g1) C)∧Below w.heap.size w w'
theorem B8u {g:GI}{am:Option Addr}{nm cm:Nat}{ae:Option Addr}{ne ce:Nat}{msg:Int}{w:World}(hI:WIn g am nm cm ae ne ce msg w){d:Nat}{v0 v1 u0 u1:Value}{a b:BI (d+1)}(ha:BRd d w v0 v1 a) (hoka:BOk (d+1) a) (hb:BRd d w u0 u1 b) (hokb:BOk (d+1) b) (hW:jWB (d+1) a+jWB (d+1) b≤1000000000) :
  Calls Tryz.prog 12 #[.agg #[.slice am nm cm,.slice ae ne ce],.int .i64 msg,.agg #[v0,v1],.agg #[u0,u1]] w fun e w'=>JIs d w (A3q g d msg a b) (jcN g d msg a b) e w':=by
 refine(B8t hI ha hoka hb hokb hW).mono ?_
 rintro e w' ⟨hb,⟨hne,rfl⟩|⟨hz,M,e0,f0,g0,e1,f1,g1,_,_,hM,_,rfl,c,h1,h2,h3⟩⟩
 ·exact⟨_,_,_,_,_,_,rfl,by rw[B5y hne];exact⟨RdL.nil _ _ _,RdL.nil _ _ _⟩,hb⟩
 ·exact⟨e0,f0,g0,e1,f1,g1,by rw[hz],by rw[B5z hz hM];exact C0b h1 h2 h3,hb⟩
theorem B7b {g:GI}{am:Option Addr}{nm cm:Nat}{ae:Option Addr}{ne ce:Nat}{msg:Int}{w:World}(hI:WIn g am nm cm ae ne ce msg w){d:Nat}{v0 v1 u0 u1:Value}{a b:BI (d+1)}(ha:BRd d w v0 v1 a) (hoka:BOk (d+1) a) (hb:BRd d w u0 u1 b) (hokb:BOk (d+1) b) (hW:jWB (d+1) a+jWB (d+1) b≤1000000000) :
  Calls Tryz.prog 13 #[.agg #[.slice am nm cm,.slice ae ne ce],.int .i64 msg,.agg #[v0,v1],.agg #[u0,u1]] w fun e w'=>JIs d w (A3q g d msg a b) (jcN g d msg a b) e w':=by
 refine(B7a hI ha hoka hb hokb hW).mono ?_
 rintro e w' ⟨hb,⟨hne,rfl⟩|⟨hz,M,e0,f0,g0,e1,f1,g1,hM,rfl,h3⟩⟩
 ·exact⟨_,_,_,_,_,_,rfl,by rw[B5y hne];exact⟨RdL.nil _ _ _,RdL.nil _ _ _⟩,hb⟩
 ·exact⟨e0,f0,g0,e1,f1,g1,by rw[hz],by rw[B5z hz hM];exact h3,hb⟩
theorem B9i {d:Nat}{w:World}{v0 v1:Value}{b:BO (BI d)}(h:BRd d w v0 v1 b) (x:Int){r:Option (VI (BI d))}(hr:b.vals.find? (isV x)=r) :
  Calls Tryz.prog 15 #[.agg #[v0,v1],.int .i64 x] w fun e w'=>∃ (a1:Option Addr) (n1 c1:Nat) (a2:Option Addr) (n2 c2:Nat) (a3:Option Addr) (n3 c3:Nat),e = .returned (.tuple #[.agg #[.int .i64 (r.getD B7y).number,.slice a1 n1 c1,.slice a2 n2 c2,.slice a3 n3 c3],.bool r.isSome])∧Hid (VLs d w' a1 n1 c1 a2 n2 c2 a3 n3 c3 (r.getD B7y))∧Below w.heap.size w w':=by
 obtain⟨_,_,_,rfl,_,_⟩:=h.2.shape
 refine(B0h h.1 (Sub.refl _) ⟨_,_,_,rfl⟩ x).mono ?_
 rintro e w' ⟨hf,hb⟩
 have hr':b.vals.find? (fun v=>decide (v.number=x))=r:=hr
 rw[hr'] at hf
 cases r with
 | none=>
  obtain⟨v,rfl,rfl⟩:=hf
  exact⟨none,0,0,none,0,0,none,0,0,rfl,⟨RdL.nil _ _ _,RdL.nil _ _ _,RdL.nil _ _ _⟩,hb⟩
 | some v=>
  obtain⟨a1,n1,c1,a2,n2,c2,a3,n3,c3,rfl,h1,h2,h3⟩:=hf
  exact⟨a1,n1,c1,a2,n2,c2,a3,n3,c3,rfl,⟨h1.below UAt.stays hb,h2.below ZAt.stays hb,h3.below (BAt.stays d) hb⟩,hb⟩
theorem C0a {d:Nat}{w:World}{k:Nat}{a1:Option Addr}{n1 c1:Nat}{a2:Option Addr}{n2 c2:Nat}{a3:Option Addr}{n3 c3:Nat}{v:VI (BI d)}{t:TypeId}(hk:w.heap[k]?=some (.cells #[.int .i64 v.number,.slice a1 n1 c1,.slice a2 n2 c2,.slice a3 n3 c3] t (0,0))) (h:VLs d w a1 n1 c1 a2 n2 c2 a3 n3 c3 v):BRd d w (.slice (some ⟨k,0,none⟩) 1 1) (.slice none 0 0) ⟨[v],[]⟩:=by
 refine⟨C0q rfl (by decide) fun i a ha=>?_,RdL.nil _ _ _⟩
 match i,ha with
 | 0,ha=>
  obtain rfl:v=a:=by simpa using ha
  refine⟨_,_,_,A0a hk 0 _ rfl,?_,?_,?_,h.1,h.2.1,h.2.2⟩ <;> rw[A0j]
  ·exact A0a hk 1 _ rfl
  ·exact A0a hk 2 _ rfl
  ·exact A0a hk 3 _ rfl
 | k+1,ha=>simp at ha
theorem C1s {β:Type}{x:FI}{v:VI β}{f:List UInt8→β→Int}(h:wvE x v f=0∨wvE x v f=2):x.many=false→A4j v=1:=by
 intro hm
 unfold wvE at h
 split at h
 ·omega
 ·split at h
  ·omega
  ·rename_i h2
   have h2:A2z x v=false:=by simpa using h2
   unfold A2z at h2
   rw[hm] at h2
   simp only[Bool.not_false,Bool.and_true,Bool.or_eq_false_iff,decide_eq_false_iff_not] at h2
   omega
theorem B9n {β:Type}{fs:List FI}{x:FI}{l:List (VI β)}{y:VI β}{f:List UInt8→β→Int}(hr:l.Pairwise fun u v=>u.number < v.number) (h:wvE x y f=0∨wvE x y f=2):A3l fs x y (!A1s x y) l=A6d fs x l y:=by
 rw[A4a (C1s h)]
 exact B0p hr
end L
end Go.Proofs.YtelmjekjohbmjaaGreatDoor
