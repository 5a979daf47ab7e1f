import Derived.Test.YtelmjekjohbmjaaGreatDoorY39
import Derived.Test.YtelmjekjohbmjaaGreatDoorY14
namespace Go.Proofs.YtelmjekjohbmjaaGreatDoor
namespace L
open Go.RowKit Go.WideMaps Go.Maps
set_option linter.unusedVariables false
set_option maxHeartbeats 4000000 in
set_option maxRecDepth 100000 in
theorem B4l {g:GI}(hsub:C0g g) (hnum:∀ m∈g.msgs,∀ x∈m.fields,1≤x.number∧I64 x.choice){W0:World}{am:Option Addr}{nm cm:Nat}{ae:Option Addr}{ne ce:Nat}(hg:GRd W0 (.slice am nm cm) (.slice ae ne ce) g){d:Nat}(ih:A3d g W0 (.slice am nm cm) (.slice ae ne ce) d):A3d g W0 (.slice am nm cm) (.slice ae ne ce) (d+1):=by
 intro w k j m v0 v1 x h0 hk0 hk1 hj hq hok
 have hq:BRd d w v0 v1 x:=hq
 obtain⟨a0,n0,c0,a1,n1,c1,rfl,rfl⟩:=hq.shape
 obtain⟨hV,hlen,hRk,hlenr⟩:=hok
 have hlv:n0=(BO.vals x).length:=hq.1.len.1
 have hlu:n1=(BO.unk x).length:=hq.2.len.1
 have hn0:n0≤35184372088831:=by unfold reachBytes at hlen;omega
 have hn1:n1≤35184372088831:=by unfold reachBytes at hlenr;omega
 have L0:Hid (n0=(BO.vals x).length):=hlv
 have L1:Hid (n1=(BO.unk x).length):=hlu
 obtain⟨W2,HW2⟩:∃ W2,Hid (W2=(w.alloc (.cells #[.slice am nm cm,.slice ae ne ce] 25)).alloc (.cells #[.slice a0 n0 c0,.slice a1 n1 c1] 29)):=⟨_,rfl⟩
 have hb2:Below w.heap.size w W2:=by rw[HW2.out];exact((Below.refl _ _).alloc (Nat.le_refl _) _).alloc (by simp) _
 have x0:W2.heap[w.heap.size]?=some (.cells #[.slice am nm cm,.slice ae ne ce] 25 (0,0)):=by rw[HW2.out];exact A0r _ _ _
 have x1:W2.heap[w.heap.size+1]?=some (.cells #[.slice a0 n0 c0,.slice a1 n1 c1] 29 (0,0)):=by rw[HW2.out];exact A0o _ _ _
 have hz2:W2.heap.size=w.heap.size+2:=by rw[HW2.out];simp
 obtain⟨R,HR⟩:∃ R,Hid (R=A2o g (d+1) k m.fields x):=⟨_,rfl⟩
 rw[←HR.out]
 by_cases hk:12 < k
 ·have HX:Hid (R=10):=by show _=_;rw[HR.out,A3t,if_pos hk]
  have hkb:decide ((12:Int) < k)=true:=decide_eq_true hk
  clear ih hV hq hg hlen hRk hlenr hlv hlu hk
  go_enter Tryz.func27,Tryz.ntmps27
  go_wp2
  go_ret
  rw[←HW2.out]
  exact⟨by rw[HX.out];rfl,hb2⟩
 obtain⟨f,Hf⟩:∃ f:List UInt8→BI d→Int,Hid (f=fun name s=>A2o g d (k+1) (A1h g name) s):=⟨_,rfl⟩
 have HE:Hid (R=if A2s m.fields f (BO.vals x) (0,[])=0 then A0g (A4s m.fields) (BO.unk x) else A2s m.fields f (BO.vals x) (0,[])):=by
  show _=_
  rw[HR.out,Hf.out,A3t,if_neg hk]
 have hkb:decide ((12:Int) < k)=false:=decide_eq_false hk
 have hk12:k≤12:=by omega
 have h02:Below W0.heap.size W0 W2:=h0.trans (hb2.mono h0.size)
 obtain⟨bm,om,rfl,hat⟩:=hg.1.get MAt.plain hj
 obtain⟨vf,vb,k0,k1,k2,hf0,hb0⟩:=hat.at
 obtain⟨af,nf,cf,rfl,_,_⟩:=hf0.shape
 obtain⟨ab,nb,cb,rfl,_,_⟩:=hb0.shape
 have hjl:(j:Int) < (nm:Int):=by
  have h1:=hg.1.len.1
  have h2:=(List.getElem?_eq_some_iff.1 hj).1
  omega
 obtain⟨W3,HW3⟩:∃ W3,Hid (W3=W2.alloc (.cells #[.string (S m.name),.slice af nf cf,.slice ab nb cb] 48)):=⟨_,rfl⟩
 have hb3:Below W2.heap.size W2 W3:=by rw[HW3.out];exact(Below.refl _ _).alloc (Nat.le_refl _) _
 have x3:W3.heap[w.heap.size+2]?=some (.cells #[.string (S m.name),.slice af nf cf,.slice ab nb cb] 48 (0,0)):=by rw[←hz2,HW3.out];exact heap_alloc_new _ _
 have hz3:W3.heap.size=w.heap.size+3:=by rw[HW3.out];simp[hz2]
 obtain⟨B,HB⟩:∃ B,Hid (B=w.heap.size+3):=⟨_,rfl⟩
 have hB1:B≤w.heap.size+3:=Nat.le_of_eq HB.out
 have hB2:w.heap.size+3≤B:=Nat.le_of_eq HB.out.symm
 have hM0:OwnH (W3.alloc (.map #[] 0)) B 0 (.map []):=by
  have:=World.ownsMap_made W3 Tryz.prog 3 (plainElem (H:=Unit) Tryz.prog 4)
  rw[hz3,←HB.out] at this
  exact this
 have hb4:Below B W3 (W3.alloc (.map #[] 0)):=(Below.refl _ _).alloc (by omega) _
 obtain⟨W4,HW4⟩:∃ W4,Hid (W4=W3.alloc (.map #[] 0)):=⟨_,rfl⟩
 rw[←HW4.out] at hM0 hb4
 have hcl:∀ V,Below B W3 V→(V.cell? ⟨w.heap.size,0,none⟩=some (.slice (some ⟨bm,om,none⟩) nm cm)∧V.cell? ⟨w.heap.size,1,none⟩=some (.slice ae ne ce))∧(V.cell? ⟨w.heap.size+1,0,none⟩=some (.slice a0 n0 c0)∧V.cell? ⟨w.heap.size+1,1,none⟩=some (.slice a1 n1 c1))∧V.cell? ⟨w.heap.size+2,0,none⟩=some (.string (S m.name))∧V.cell? ⟨w.heap.size+2,1,none⟩=some (.slice af nf cf)∧V.cell? ⟨w.heap.size+2,2,none⟩=some (.slice ab nb cb):=fun V hV=>by
  refine⟨A0x ((hV.block _ (by omega)).trans ((hb3.block _ (by omega)).trans x0)),A0x ((hV.block _ (by omega)).trans ((hb3.block _ (by omega)).trans x1)),A6o ((hV.block _ (by omega)).trans x3)⟩
 have hw:∀ V,Below B W3 V→Below w.heap.size w V:=fun V hV=>(BTr hb2 hb3).trans (hV.mono (by omega))
 have m0:=A0c h02 k0
 have m1:=A0c h02 k1
 have m2:=A0c h02 k2
 obtain⟨p0,p1⟩:=A0x x0
 obtain⟨p2,p3⟩:=A0x x1
 have hmm:=@run_makeMap Tryz.prog
 obtain⟨fs,Hfs⟩:∃ fs,Hid (fs=m.fields):=⟨_,rfl⟩
 have hf0:RdL 6 FAt W0 (.slice af nf cf) fs:=by rw[Hfs.out];exact hf0
 have HF0:Hid (RdL 6 FAt W0 (.slice af nf cf) fs):=hf0
 rw[←Hfs.out] at HE
 have HN:Hid (∀ y∈fs,(1≤y.number∧I64 y.choice)∧(y.kind=10→∃ m',g.msgs.find? (fun m=>decide (m.name=y.type))=some m')):=by
  intro y hy
  rw[Hfs.out] at hy
  exact⟨hnum m (List.mem_of_getElem? hj) y hy,hsub m (List.mem_of_getElem? hj) y hy⟩
 have HQ0:Hid (BRd d w (.slice a0 n0 c0) (.slice a1 n1 c1) x):=hq
 have HV:Hid (∀ v∈BO.vals x,VOk (BOk d) v):=hV
 have HRk:Hid (∀ r∈BO.unk x,B2w r):=hRk
 have HG:Hid (GRd W0 (.slice (some ⟨bm,om,none⟩) nm cm) (.slice ae ne ce) g):=hg
 have HIH:Hid (A3d g W0 (.slice (some ⟨bm,om,none⟩) nm cm) (.slice ae ne ce) d):=ih
 have HZ2:Hid (W2.heap.size=w.heap.size+2):=hz2
 have HB':Hid (w.heap.size+2+1=B):=HB.out.symm
 have hz2':=Nat.le_of_eq hz2
 have hz3':=Nat.le_of_eq hz3
 clear k0 k1 k2 hq hV hRk hg ih hsub hnum hat hf0 hb0 hlen hlenr hlv hlu hz2 hz3 hk hj
 go_enter Tryz.func27,Tryz.ntmps27
 go_upto_region 3 with fail
 rw[←HW2.out]
 go_upto_region 5 with fail
 rw[←HW3.out,←HW4.out,HZ2.out,HB'.out]
 clear p0 p1 p2 p3 m0 m1 m2
 obtain⟨⟨p0,p1⟩,⟨p2,p3⟩,p4,p5,p6⟩:=hcl W4 hb4
 go_wp2_with fail
 go_loopg [29] n0 (fun gm i wr=>∃ (q:Nat) (D:DataW Unit) (s:Int×List Int),q+gm=n0∧i = .int .i64 (q:Int)∧OwnH wr B q D∧Hid (HdD D s.2)∧Hid (A2s fs f (BO.vals x) (0,[])=A2s fs f ((BO.vals x).drop q) s)∧Hid ((q=0→s.1=0)∧∀ q' v',q=q'+1→(BO.vals x)[q']?=some v'→s.1=v'.number)∧Below B W3 wr)
 case atStart=>exact⟨0,.map [],(0,[]),by omega,rfl,hM0,HdD.nil,rfl,⟨fun _=>rfl,fun _ _ h=>by omega⟩,hb4⟩
 case round=>
  obtain⟨q,D,s,hq,rfl,hown,HD,HE1,HS,hbr⟩:=hrel
  clear p0 p1 p2 p3 p4 p5 p6
  obtain⟨⟨p0,p1⟩,⟨p2,p3⟩,p4,p5,p6⟩:=hcl wr hbr
  by_cases hlt:q < n0
  ·have hqi:(q:Int) < (n0:Int):=by omega
   obtain⟨v,Hv⟩:∃ v,Hid ((BO.vals x)[q]?=some v):=⟨(BO.vals x)[q]'(by rw[←L0.out];exact hlt),List.getElem?_eq_getElem _⟩
   obtain⟨bv,ov,rfl,hva⟩:=((HQ0.out.below (hw wr hbr)).1).get VAt.plain Hv.out
   obtain⟨u1,u2,u3,y0,y1,y2,y3,r1,r2,r3⟩:=hva.at
   obtain⟨a2,n2,c2,rfl,_,_⟩:=r1.shape
   obtain⟨a3,n3,c3,rfl,_,_⟩:=r2.shape
   obtain⟨a4,n4,c4,rfl,_,_⟩:=r3.shape
   have HR1:Hid (RdL 1 UAt wr (.slice a2 n2 c2) v.bits):=r1
   have HR2:Hid (RdL 1 ZAt wr (.slice a3 n3 c3) v.bytes):=r2
   have HR3:Hid (RdL 2 (BAt d) wr (.slice a4 n4 c4) v.subs):=r3
   have HVk:Hid (VOk (BOk d) v):=HV.out v (List.mem_of_getElem? Hv.out)
   obtain⟨W5,HW5⟩:∃ W5,Hid (W5=wr.alloc (.cells #[.int .i64 v.number,.slice a2 n2 c2,.slice a3 n3 c3,.slice a4 n4 c4] 34)):=⟨_,rfl⟩
   have hb5:Below wr.heap.size wr W5:=by rw[HW5.out];exact(Below.refl _ _).alloc (Nat.le_refl _) _
   have x5:W5.heap[wr.heap.size]?=some (.cells #[.int .i64 v.number,.slice a2 n2 c2,.slice a3 n3 c3,.slice a4 n4 c4] 34 (0,0)):=by rw[HW5.out];exact heap_alloc_new _ _
   have hz5:wr.heap.size < W5.heap.size:=(Array.getElem?_eq_some_iff.1 x5).1
   have hzB:=hown.lt
   have hB5:Below B W3 W5:=hbr.trans (hb5.mono (by omega))
   have hst:=B2s (fs:=fs) (f:=f) Hv.out s
   have HFL:Hid (RdL 6 FAt W5 (.slice af nf cf) fs):=HF0.out.below FAt.stays (BTr h0 (hw W5 hB5))
   have hvl:∀ V,Below W5.heap.size W5 V→V.cell? ⟨wr.heap.size,0,none⟩=some (.int .i64 v.number)∧V.cell? ⟨wr.heap.size,1,none⟩=some (.slice a2 n2 c2)∧V.cell? ⟨wr.heap.size,2,none⟩=some (.slice a3 n3 c3)∧V.cell? ⟨wr.heap.size,3,none⟩=some (.slice a4 n4 c4):=fun V hV=>by
    have hh:=(hV.block _ hz5).trans x5
    exact⟨A0a hh 0 _ rfl,A0a hh 1 _ rfl,A0a hh 2 _ rfl,A0a hh 3 _ rfl⟩
   clear hva r1 r2 r3
   cases hfd:fs.find? (fun y=>decide (y.number=v.number)) with
   | none=>
    have HX:Hid (R=6):=by
     show _=_
     have h1:A2s fs f (BO.vals x) (0,[])=6:=by rw[HE1.out,hst,B7r hfd];rfl
     rw[HE.out,h1]
     rfl
    have hfn:=A4d (nm:=.string (S m.name)) (vb:=.slice ab nb cb) HFL.out ⟨_,_,_,rfl⟩ ⟨_,rfl⟩ v.number (fun a ha=>by have:=List.find?_eq_none.1 hfd a ha;simpa using this)
    clear hfd hst
    go_upto_region 8 with fail
    rw[←HW5.out]
    clear p0 p1 p2 p3 p4 p5 p6 y0 y1 y2 y3
    obtain⟨⟨p0,p1⟩,⟨p2,p3⟩,p4,p5,p6⟩:=hcl W5 hB5
    obtain⟨y0,y1,y2,y3⟩:=hvl W5 (Below.refl _ _)
    go_wp2_with fail
    refine hfn.mono ?_
    rintro e V ⟨rfl,hbV⟩
    go_wp2
    go_ret
    exact⟨by rw[HX.out];rfl,BTr (hw W5 hB5) hbV⟩
   | some y=>
    obtain⟨jf,hj1,hj2,hj3⟩:=A8f hfd
    have hjn:=of_decide_eq_true hj2
    obtain⟨bf,of',rfl,hfa⟩:=HF0.out.get FAt.plain hj1
    have HFA:Hid (FAt W0 ⟨bf,of'+jf*6,none⟩ y):=hfa
    have hfn:=A3v (nm:=.string (S m.name)) (vb:=.slice ab nb cb) HFL.out ⟨_,_,_,rfl⟩ ⟨_,rfl⟩ v.number hj1 hjn hj3
    obtain⟨⟨hy1,hyc⟩,hys⟩:=HN.out y (List.mem_of_getElem? hj1)
    have HVE:Hid (A5v fs f v s=if v.number≤s.1 then 2 else if wvE y v f≠0 then wvE y v f else if 0 < y.choice∧y.choice∈s.2 then 8 else 0):=B7s hfd
    have HNX:Hid (A5m fs v s=(v.number,A3i y s.2)):=B4b hfd
    have HST:Hid (A2s fs f (BO.vals x) (0,[])=if A5v fs f v s=0 then A2s fs f ((BO.vals x).drop (q+1)) (A5m fs v s) else A5v fs f v s):=by
     show _=_
     rw[HE1.out,hst]
    have HVR:Hid (A5v fs f v s≠0→R=A5v fs f v s):=fun hne=>by
     have h1:A2s fs f (BO.vals x) (0,[])=A5v fs f v s:=by rw[HST.out,if_neg hne]
     rw[HE.out,h1,if_neg hne]
    have HY1:Hid (1≤v.number):=by show _≤_;rw[←hjn];exact hy1
    have HYS:Hid (y.kind=10→∃ m',g.msgs.find? (fun m=>decide (m.name=y.type))=some m'):=hys
    clear hfd hst hj1 hj2 hj3 hjn hfa hys hy1
    go_upto_region 8 with fail
    rw[←HW5.out]
    clear p0 p1 p2 p3 p4 p5 p6 y0 y1 y2 y3
    obtain⟨⟨p0,p1⟩,⟨p2,p3⟩,p4,p5,p6⟩:=hcl W5 hB5
    obtain⟨y0,y1,y2,y3⟩:=hvl W5 (Below.refl _ _)
    go_wp2_with fail
    refine hfn.mono ?_
    rintro e V ⟨⟨b',o',e',rfl⟩,hbV⟩
    cases e'
    clear p0 p1 p2 p3 p4 p5 p6 y0 y1 y2 y3 hfn
    have hBV:Below B W3 V:=hB5.trans (hbV.mono (by omega))
    obtain⟨⟨p0,p1⟩,⟨p2,p3⟩,p4,p5,p6⟩:=hcl V hBV
    obtain⟨y0,y1,y2,y3⟩:=hvl V hbV
    obtain⟨tB,HtB⟩:∃ tB,Hid (decide (v.number≤s.1)=tB):=⟨_,rfl⟩
    go_upto_region 11 with fail
    go_cut [53] from 40 to 52 (fun s53 wc=>s53 = .bool tB∧Below V.heap.size V wc)
    case first=>
     have htb:=HtB.out
     have hS:=HS.out
     have hdr:∀ r,Below V.heap.size V (V.drewN r):=fun r=>⟨rfl,rfl,rfl,Nat.le_refl _,fun _ _=>rfl⟩
     by_cases hq0:q=0
     ·have hs1:=hS.1 hq0
      have hy1:=HY1.out
      rw[decide_eq_false (by omega)] at htb
      subst htb
      subst hq0
      clear hS hs1 hy1
      go_quiet (fail)
      all_goals
       go_wp2_with fail
       go_meet
       exact⟨rfl,hdr _⟩
     ·obtain⟨q',rfl⟩:∃ q',q=q'+1:=⟨q - 1,by omega⟩
      obtain⟨v',Hv'⟩:∃ v',Hid ((BO.vals x)[q']?=some v'):=⟨(BO.vals x)[q']'(by rw[←L0.out];omega),List.getElem?_eq_getElem _⟩
      have hs1:=hS.2 q' v' rfl Hv'.out
      rw[hs1] at htb
      subst htb
      obtain⟨bv',ov',e',hva'⟩:=((HQ0.out.below (hw V hBV)).1).get VAt.plain Hv'.out
      cases e'
      obtain⟨_,_,_,z0,_⟩:=hva'.at
      have hq1:(q':Int) < (n0:Int):=by omega
      have hq2:(0:Int) < (q':Int)+1:=by omega
      clear hS hs1 hva' hq0
      go_quiet (fail)
      all_goals
       go_wp2_with fail
       go_meet
       exact⟨rfl,hdr _⟩
    case rest=>
     obtain⟨rfl,hbc⟩:=hcut
     clear p0 p1 p2 p3 p4 p5 p6 y0 y1 y2 y3
     have hBc:Below B W3 wc:=hBV.trans (hbc.mono (by have:=hbV.size;omega))
     obtain⟨⟨p0,p1⟩,⟨p2,p3⟩,p4,p5,p6⟩:=hcl wc hBc
     obtain⟨y0,y1,y2,y3⟩:=hvl wc (BTr hbV hbc)
     have hrc:Below wr.heap.size wr wc:=BTr (BTr hb5 hbV) hbc
     cases tB with
     | true=>
      have HX:Hid (R=2):=by
       show _=_
       have h1:A5v fs f v s=2:=by rw[HVE.out,if_pos (of_decide_eq_true HtB.out)]
       rw[HVR.out (by rw[h1];simp),h1]
      go_wp2
      go_ret
      exact⟨by rw[HX.out];rfl,hw wc hBc⟩
     | false=>
      have hnl:=of_decide_eq_false HtB.out
      have hval:=A8p HG.out HIH.out (BTr h0 (hw wc hBc)) HFA.out HYS.out v HVk.out (HR1.out.below UAt.stays hrc) (HR2.out.below ZAt.stays hrc) (HR3.out.below (BAt.stays d) hrc) k hk0 (by omega)
      rw[←Hf.out] at hval
      have HVE2:Hid (A5v fs f v s=if wvE y v f≠0 then wvE y v f else if 0 < y.choice∧y.choice∈s.2 then 8 else 0):=by show _=_;rw[HVE.out,if_neg hnl]
      generalize hZ:wvE y v f=Z at hval
      rw[hZ] at HVE2
      clear hnl hZ HVE
      go_wp2_with fail
      refine hval.mono ?_
      rintro e V2 ⟨rfl,hb6⟩
      clear p0 p1 p2 p3 p4 p5 p6 y0 y1 y2 y3 hval
      have hB2':Below B W3 V2:=hBc.trans (hb6.mono (by have:=hbV.size;have:=hbc.size;omega))
      by_cases hz:Z=0
      ·have ez:(Z != 0)=false:=by simp[hz]
       have HVE3:Hid (A5v fs f v s=if 0 < y.choice∧y.choice∈s.2 then 8 else 0):=by show _=_;rw[HVE2.out,if_neg (by simp[hz])]
       clear hz HVE2
       obtain⟨⟨p0,p1⟩,⟨p2,p3⟩,p4,p5,p6⟩:=hcl V2 hB2'
       obtain⟨_,_,_,_,_,f5⟩:=(FAt.stays _ _ _ _ (BTr h0 (hw V2 hB2')) HFA.out).at
       have hown2:OwnH V2 B q D:=hown.below (BTr hrc hb6)
       have hkey:keyOf Tryz.prog 3 (.int .i64 y.choice)=some (.int .i64 y.choice):=keyOf_int_mk Tryz.underlying3 (WalkArith.wf_i64 hyc)
       obtain⟨cv,ps,hrun,hcv⟩:=hown2.lookup B9y Tryz.underlying109 (C2e _) (plainElem_bool Tryz.underlying4 false) hkey
       obtain⟨cb',rfl,hcb⟩:=B3a Tryz.underlying4 hcv
       obtain⟨cB,HcB⟩:∃ cB,Hid (decide (0 < y.choice∧y.choice∈s.2)=cB):=⟨_,rfl⟩
       have HCB:Hid (0 < y.choice→cb'=decide (y.choice∈s.2)):=fun hp=>by
        have h1:=HD.out y.choice hp
        have h2:=congrArg Prod.fst hcb
        rw[h1] at h2
        injection h2 with h3
        injection h3 with h4
        exact h4.symm
       clear hcb hcv
       go_upto_region 16 with fail
       go_cut [74] from 62 to 73 (fun s74 wc=>s74 = .bool cB∧V2=wc)
       case first=>
        have hcb:=HcB.out
        by_cases hp:0 < y.choice
        ·have fp:decide (0 < y.choice)=true:=decide_eq_true hp
         have h1:=HCB.out hp
         have h2:cb'=cB:=by rw[h1,←hcb];simp[hp]
         subst h2
         clear h1 hcb hp
         go_wp2_with fail
         go_meet
         exact⟨rfl,rfl⟩
        ·have fp:decide (0 < y.choice)=false:=decide_eq_false hp
         have h2:cB=false:=by rw[←hcb];simp[hp]
         subst h2
         clear hcb hp
         go_wp2_with fail
         go_meet
         exact⟨rfl,rfl⟩
       case rest=>
        obtain⟨rfl,rfl⟩:=hcut
        cases cB with
        | true=>
         have HX:Hid (R=8):=by
          show _=_
          have h1:A5v fs f v s=8:=by rw[HVE3.out,if_pos (of_decide_eq_true HcB.out)]
          rw[HVR.out (by rw[h1];simp),h1]
         clear hrun
         go_wp2
         go_ret
         exact⟨by rw[HX.out];rfl,hw V2 hB2'⟩
        | false=>
         have HV0:Hid (A2s fs f (BO.vals x) (0,[])=A2s fs f ((BO.vals x).drop (q+1)) (v.number,A3i y s.2)):=by
          show _=_
          rw[HST.out,HVE3.out,if_neg (of_decide_eq_false HcB.out),if_pos rfl,HNX.out]
         clear hrun
         have hm2:=hown2.isMap
         have HS2:Hid ((q+1=0→(v.number,A3i y s.2).1=0)∧∀ q' v',q+1=q'+1→(BO.vals x)[q']?=some v'→(v.number,A3i y s.2).1=v'.number):=by
          refine⟨fun h=>by omega,fun q' v' e1 e2=>?_⟩
          obtain rfl:q=q':=by omega
          have h3:=Hv.out.symm.trans e2
          injection h3 with h4
          rw[←h4]
         go_wp2_with (at_mapUpdate;refine wpList_mapUpdate_own _ rfl _ _ _ 109 rfl 3 4 B9y Tryz.underlying109 _ B q _ rfl hown2 (by unfold maxLen;omega) _ _ _ rfl rfl hkey _ [] (plainElem_bool Tryz.underlying4 true) ?_)
         intro w1 hown1 hg1
         have hB1w:Below B W3 w1:=hB2'.grown hg1 (by have:=hbV.size;have:=hbc.size;have:=hb6.size;omega) (fun j hj=>by cases hj;exact Nat.le_refl _)
         clear hown2
         go_wp2_with fail
         go_roundg (n0 - (q+1))
         case measure=>omega
         case rel=>exact⟨q+1,_,(v.number,A3i y s.2),by omega,by go_num,hown1,HdD.put HD.out hm2 y,HV0,HS2,hB1w⟩
      ·have ez:(Z != 0)=true:=by simpa using hz
       have HX:Hid (R=Z):=by
        show _=_
        have h1:A5v fs f v s=Z:=by rw[HVE2.out,if_pos hz]
        rw[HVR.out (by rw[h1];exact hz),h1]
       clear hz
       go_wp2
       go_ret
       exact⟨by rw[HX.out];rfl,hw V2 hB2'⟩
  ·have HF1:Hid (R=A0g (A4s fs) (BO.unk x)):=by
    show _=_
    have h1:A2s fs f (BO.vals x) (0,[])=0:=by rw[HE1.out,List.drop_of_length_le (by rw[←L0.out];omega)];rfl
    rw[HE.out,h1,if_pos rfl]
   have hzB:=hown.lt
   obtain⟨wq,Hwq⟩:∃ wq,wq=wr:=⟨_,rfl⟩
   subst Hwq
   clear hown HD HE1 HS
   go_wp2_with fail
   go_loopg [84] n1 (fun gm i wr=>∃ q:Nat,q+gm=n1∧i = .int .i64 (q:Int)∧Hid (R=A0g (A4s fs) ((BO.unk x).drop q))∧B < wr.heap.size∧Below B W3 wr)
   case atStart=>exact⟨0,by omega,rfl,HF1,hzB,hbr⟩
   case round=>
    obtain⟨q2,hq2,rfl,HQ,hzs,hbs⟩:=hrel
    clear p0 p1 p2 p3 p4 p5 p6
    obtain⟨⟨p0,p1⟩,⟨p2,p3⟩,p4,p5,p6⟩:=hcl wr hbs
    by_cases hlt2:q2 < n1
    ·have hqi2:(q2:Int) < (n1:Int):=by omega
     obtain⟨r,Hr⟩:∃ r,Hid ((BO.unk x)[q2]?=some r):=⟨(BO.unk x)[q2]'(by rw[←L1.out];exact hlt2),List.getElem?_eq_getElem _⟩
     obtain⟨br,or',rfl,hra⟩:=((HQ0.out.below (hw wr hbs)).2).get RAt.plain Hr.out
     obtain⟨ub,y0,y1,y2,y3,rb⟩:=hra.at
     obtain⟨a5,n5,c5,rfl,Hn5,hn5c⟩:=rb.shape
     have hn5:n5≤9223372036854775807:=by omega
     obtain⟨W5,HW5⟩:∃ W5,Hid (W5=wr.alloc (.cells #[.int .i64 r.number,.int .i64 r.how,.int .u64 (r.bits:Int),.slice a5 n5 c5] 73)):=⟨_,rfl⟩
     have hb5:Below wr.heap.size wr W5:=by rw[HW5.out];exact(Below.refl _ _).alloc (Nat.le_refl _) _
     have x5:W5.heap[wr.heap.size]?=some (.cells #[.int .i64 r.number,.int .i64 r.how,.int .u64 (r.bits:Int),.slice a5 n5 c5] 73 (0,0)):=by rw[HW5.out];exact heap_alloc_new _ _
     have hz5:wr.heap.size < W5.heap.size:=(Array.getElem?_eq_some_iff.1 x5).1
     have hB5:Below B W3 W5:=hbs.trans (hb5.mono (by omega))
     have hst:=A2r (f:=A4s fs) Hr.out
     have hwr:=A9i r.number r.how r.bits a5 n5 c5 W5 hn5
     have hvl:∀ V,Below W5.heap.size W5 V→V.cell? ⟨wr.heap.size,0,none⟩=some (.int .i64 r.number)∧V.cell? ⟨wr.heap.size,1,none⟩=some (.int .i64 r.how)∧V.cell? ⟨wr.heap.size,2,none⟩=some (.int .u64 (r.bits:Int))∧V.cell? ⟨wr.heap.size,3,none⟩=some (.slice a5 n5 c5):=fun V hV=>by
      have hh:=(hV.block _ hz5).trans x5
      exact⟨A0a hh 0 _ rfl,A0a hh 1 _ rfl,A0a hh 2 _ rfl,A0a hh 3 _ rfl⟩
     have HU:Hid (A4s fs r=if A1k r.number r.how r.bits n5=0 then(if 0≤A0i (fun f:FI=>decide (f.number=r.number)) fs then 7 else 0) else A1k r.number r.how r.bits n5):=by
      show _=_
      rw[Hn5.out]
      rfl
     generalize hE:A1k r.number r.how r.bits n5=E at hwr
     rw[hE] at HU
     have HUR:Hid (A4s fs r≠0→R=A4s fs r):=fun hne=>by rw[HQ.out,hst,if_neg hne]
     have HU0:Hid (A4s fs r=0→R=A0g (A4s fs) ((BO.unk x).drop (q2+1))):=fun he=>by rw[HQ.out,hst,if_pos he]
     clear hst hE hra rb
     go_upto_region 23 with fail
     rw[←HW5.out]
     clear p0 p1 p2 p3 p4 p5 p6 y0 y1 y2 y3
     obtain⟨⟨p0,p1⟩,⟨p2,p3⟩,p4,p5,p6⟩:=hcl W5 hB5
     obtain⟨y0,y1,y2,y3⟩:=hvl W5 (Below.refl _ _)
     go_wp2_with fail
     refine hwr.mono ?_
     rintro e V ⟨rfl,hbV⟩
     clear p0 p1 p2 p3 p4 p5 p6 y0 y1 y2 y3 hwr
     have hBV:Below B W3 V:=hB5.trans (hbV.mono (by omega))
     obtain⟨⟨p0,p1⟩,⟨p2,p3⟩,p4,p5,p6⟩:=hcl V hBV
     obtain⟨y0,y1,y2,y3⟩:=hvl V hbV
     by_cases hz:E=0
     ·have ez:(E != 0)=false:=by simp[hz]
      have HU2:Hid (A4s fs r=if 0≤A0i (fun f:FI=>decide (f.number=r.number)) fs then 7 else 0):=by show _=_;rw[HU.out,if_pos hz]
      clear hz HU
      have HFL:Hid (RdL 6 FAt V (.slice af nf cf) fs):=HF0.out.below FAt.stays (BTr h0 (hw V hBV))
      rcases A2l (fun f:FI=>decide (f.number=r.number)) fs with⟨hi1,hi2⟩|⟨ki,yi,hi1,_,hi2,_⟩
      ·have hfn:=A4d (nm:=.string (S m.name)) (vb:=.slice ab nb cb) HFL.out ⟨_,_,_,rfl⟩ ⟨_,rfl⟩ r.number (fun a ha=>by have:=List.find?_eq_none.1 hi2 a ha;simpa using this)
       have HX:Hid (R=A0g (A4s fs) ((BO.unk x).drop (q2+1))):=HU0.out (by rw[HU2.out,hi1];rfl)
       clear hi1 hi2
       go_wp2_with fail
       refine hfn.mono ?_
       rintro e V2 ⟨rfl,hb6⟩
       go_wp2_with fail
       go_roundg (n1 - (q2+1))
       case measure=>omega
       case rel=>exact⟨q2+1,by omega,by go_num,HX,by have:=hbV.size;have:=hb6.size;omega,hBV.trans (hb6.mono (by have:=hbV.size;omega))⟩
      ·obtain⟨jf,hj1,hj2,hj3⟩:=A8f hi2
       have hjn:=of_decide_eq_true hj2
       have hfn:=A3v (nm:=.string (S m.name)) (vb:=.slice ab nb cb) HFL.out ⟨_,_,_,rfl⟩ ⟨_,rfl⟩ r.number hj1 hjn hj3
       have HX:Hid (R=7):=by
        show _=_
        have h1:A4s fs r=7:=by rw[HU2.out,hi1,if_pos (by omega)]
        rw[HUR.out (by rw[h1];simp),h1]
       clear hi1 hi2 hj1 hj2 hj3 hjn
       go_wp2_with fail
       refine hfn.mono ?_
       rintro e V2 ⟨⟨b',o',e',rfl⟩,hb6⟩
       clear e'
       go_wp2
       go_ret
       exact⟨by rw[HX.out];rfl,BTr (hw V hBV) hb6⟩
     ·have ez:(E != 0)=true:=by simpa using hz
      have HX:Hid (R=E):=by
       show _=_
       have h1:A4s fs r=E:=by rw[HU.out,if_neg hz]
       rw[HUR.out (by rw[h1];exact hz),h1]
      clear hz
      go_wp2
      go_ret
      exact⟨by rw[HX.out];rfl,hw V hBV⟩
    ·have HX:Hid (R=0):=by
      show _=_
      rw[HQ.out]
      exact A2b (by rw[←L1.out];omega)
     go_wp2
     go_ret
     exact⟨by rw[HX.out];rfl,hw wr hbs⟩
theorem A7p {g:GI}(hsub:C0g g) (hnum:∀ m∈g.msgs,∀ x∈m.fields,1≤x.number∧I64 x.choice){W0:World}{vm ve:Value}(hg:GRd W0 vm ve g):∀ d,A3d g W0 vm ve d
 | 0=>fun _ _ _ _ _ _ x=>nomatch (x:Empty)
 | d+1=>by
  obtain⟨am,nm,cm,rfl,_,_⟩:=hg.1.shape
  obtain⟨ae,ne,ce,rfl,_,_⟩:=hg.2.shape
  exact B4l hsub hnum hg (A7p hsub hnum hg d)
end L
end Go.Proofs.YtelmjekjohbmjaaGreatDoor
