import Derived.Test.YtcagbdokbnpdfaaGreatDoorZ38
import Derived.Test.YtcagbdokbnpdfaaGreatDoorBSamem
import Derived.Test.YtcagbdokbnpdfaaGreatDoorDUpkPm
import Derived.Test.YtcagbdokbnpdfaaGreatDoorZ39
import Derived.Deep.RegionHeld3
import Derived.Deep.CutRange
import Derived.Deep.DeepCutAuto
namespace Go.Proofs.YtcagbdokbnpdfaaGreatDoor
namespace L
open Go.RowKit
set_option linter.unusedVariables false
theorem first_takeU {l:List FI}{n:Int}{j:Nat}(h:A0k (fun f=>decide (f.number=n)) l=(j:Int)):∀ a∈l.take j,decide (a.number=n)=false:=by
 intro a ha
 unfold A0k at h
 cases hx:l.findIdx? (fun f=>decide (f.number=n)) with
 | none=>rw[hx] at h;simp at h
 | some i=>
  rw[hx] at h
  have hij:i=j:=by
   have h':(i:Int)=(j:Int):=by simpa using h
   omega
  subst hij
  obtain⟨k,hk⟩:=List.getElem?_of_mem ha
  rw[List.getElem?_take] at hk
  split at hk
  ·rename_i hki
   obtain⟨hlt,hp,hno⟩:=List.findIdx?_eq_some_iff_getElem.1 hx
   obtain⟨hk1,hk2⟩:=List.getElem?_eq_some_iff.1 hk
   have:=hno k hki
   rw[hk2] at this
   simpa using this
  ·cases hk
theorem set4_at {V:World}{g:Nat}{t:TypeId}{a0 a1 a2 a3 x0 x1 x2 x3:Value}(h:V.heap[g]?=some (.cells #[a0,a1,a2,a3] t (0,0))):((((V.setCell ⟨g,0,none⟩ x0).setCell ⟨g,1,none⟩ x1).setCell ⟨g,2,none⟩ x2).setCell ⟨g,3,none⟩ x3).heap[g]?=some (.cells #[x0,x1,x2,x3] t (0,0)):=
 heap_setCell_same _ _ 3 _ _ x3 (heap_setCell_same _ _ 2 _ _ x2 (heap_setCell_same _ _ 1 _ _ x1 (heap_setCell_same _ _ 0 _ _ x0 h)))
theorem KB_set4 {W V:World}{B g:Nat}{x0 x1 x2 x3:Value}(h:Below B W V) (hg:B≤g):Below B W ((((V.setCell ⟨g,0,none⟩ x0).setCell ⟨g,1,none⟩ x1).setCell ⟨g,2,none⟩ x2).setCell ⟨g,3,none⟩ x3):=A0d (A0d (A0d (A0d h hg) hg) hg) hg
theorem one_rd {w:World}{v:VI (BI 11)}{b1 b2 b3:Option Addr}{m1 m2 m3 d1 d2 d3 g:Nat}(hx:w.heap[g]?=some (.cells #[.int .i64 v.number,.slice b1 m1 d1,.slice b2 m2 d2,.slice b3 m3 d3] 54 (0,0))) (h1:RdL 1 UAt w (.slice b1 m1 d1) v.bits) (h2:RdL 1 ZAt w (.slice b2 m2 d2) v.bytes) (h3:RdL 2 (BAt 11) w (.slice b3 m3 d3) v.subs):BRd 11 w (.slice (some ⟨g,0,none⟩) 1 1) (.slice none 0 0) (D5y v):=by
 obtain⟨t0,t1,t2,t3⟩:=C1k hx
 refine⟨⟨_,1,1,rfl,rfl,Nat.le_refl _,by unfold maxLen;omega,(fun h=>by cases h),fun x hx' k a ha=>?_⟩,⟨none,0,0,rfl,rfl,Nat.le_refl _,by unfold maxLen;omega,fun _=>⟨rfl,rfl⟩,fun x hx=>by cases hx⟩⟩
 cases hx'
 cases k with
 | succ k=>simp[D5y] at ha
 | zero=>
  have ha:v=a:=by simpa [D5y] using ha
  subst ha
  refine⟨_,_,_,?_,?_,?_,?_,h1,h2,h3⟩
  ·simpa [A0f] using t0
  ·simpa [A0f] using t1
  ·simpa [A0f] using t2
  ·simpa [A0f] using t3
theorem unpL_succ {n:Nat}{g:GI}{fs:List FI}{l:List (VI (BI n))}{i:Nat}{v:VI (BI n)}(h:l[i]?=some v):D6a g fs (l.take (i+1))=D6a g fs (l.take i)++(D5r (D5q g n) (A1n fs v.number) v).1:=by
 unfold D6a
 rw[List.take_add_one,h]
 simp
theorem unp_take {n:Nat}{g:GI}{fs:List FI}{l:List (VI (BI n))}{i:Nat}{v:VI (BI n)}(h:l[i]?=some v) (hz:∀ u∈l.take i,(D5r (D5q g n) (A1n fs u.number) u).2=0) (hv:(D5r (D5q g n) (A1n fs v.number) v).2=0):∀ u∈l.take (i+1),(D5r (D5q g n) (A1n fs u.number) u).2=0:=by
 intro u hu
 rw[List.take_add_one,h] at hu
 rcases List.mem_append.1 hu with hu|hu
 ·exact hz u hu
 ·rw[List.mem_singleton.1 (show u∈[v] from hu)]
  exact hv
theorem bitK_two (q:Nat) (hq:q < 18446744073709551616):((A5f 2 q:Nat):Int)=A8q (IntKind.i64.wrap (q:Int)):=by
 have hb : -9223372036854775808≤IntKind.i64.wrap (q:Int)∧IntKind.i64.wrap (q:Int)≤9223372036854775807:=by rw[IntKind.wrap_i64];omega
 unfold A5f
 rw[if_pos rfl,Int.toNat_of_nonneg (B7o _ hb.1 hb.2).1]
set_option maxHeartbeats 32000000 in
set_option maxRecDepth 100000 in
theorem unpacked_walk (hal:B9e){g:GI}{am:Option Addr}{nm cm:Nat}{ae:Option Addr}{ne ce:Nat}{msg:Int}{w:World}(hI:WIn g am nm cm ae ne ce msg w){kk:Nat}{a0 a1:Option Addr}{n0 c0 n1 c1:Nat}{x:BI (kk+11+1)}(hq:BRd (kk+11) w (.slice a0 n0 c0) (.slice a1 n1 c1) x) (hok:BOk (kk+11+1) x) :
  Calls Tryz.prog 6 #[.agg #[.slice am nm cm,.slice ae ne ce],.int .i64 msg,.agg #[.slice a0 n0 c0,.slice a1 n1 c1]] w fun e w'=>e = .returned (.bool true)∧Below w.heap.size w w':=by
 obtain⟨W1,HW1⟩:∃ W1,Hid (W1=(w.alloc (.cells #[.slice am nm cm,.slice ae ne ce] 25)).alloc (.cells #[.slice a0 n0 c0,.slice a1 n1 c1] 29)):=⟨_,rfl⟩
 have hb1:Below w.heap.size w W1:=by rw[HW1.out];exact((Below.refl _ _).alloc (Nat.le_refl _) _).alloc (by simp) _
 have z1:w.heap.size+2≤W1.heap.size:=by rw[HW1.out];simp
 have x1:W1.heap[w.heap.size]?=some (.cells #[.slice am nm cm,.slice ae ne ce] 25 (0,0)):=by rw[HW1.out];exact A0u _ _ _
 have x2:W1.heap[w.heap.size+1]?=some (.cells #[.slice a0 n0 c0,.slice a1 n1 c1] 29 (0,0)):=by rw[HW1.out];exact A0r _ _ _
 have ha:=hal W1 (hI.tabs.below hb1)
 have HI:Hid (WIn g am nm cm ae ne ce msg w):=hI
 have HQ:Hid (BRd (kk+11) w (.slice a0 n0 c0) (.slice a1 n1 c1) x):=hq
 have HOK:Hid (BOk (kk+11+1) x):=hok
 clear hI hal hq hok
 go_enter Tryz.func6,Tryz.ntmps6
 go_upto_region 1 with fail
 rw[←HW1.out]
 go_wp2_with fail
 refine ha.mono ?_
 rintro e w2 ⟨rfl,hb2⟩
 have hbw2:Below w.heap.size w w2:=BTr hb1 hb2
 obtain⟨y0,y1⟩:=A0v ((hb2.block _ (by omega)).trans x1)
 obtain⟨y2,y3⟩:=A0v ((hb2.block _ (by omega)).trans x2)
 obtain⟨Q,HQ0⟩:∃ Q,Hid (A1g g (kk+11) msg x=Q):=⟨_,rfl⟩
 have hwr:=(HI.out.below hbw2).wrong (HQ.out.below hbw2) HOK.out
 rw[HQ0.out] at hwr
 clear ha
 go_wp2_with fail
 refine hwr.mono ?_
 rintro e w3 ⟨rfl,hb3⟩
 have hb13:Below W1.heap.size W1 w3:=BTr hb2 hb3
 have hbw3:Below w.heap.size w w3:=BTr hb1 hb13
 clear y0 y1 y2 y3 hwr
 by_cases hQ0:Q=0
 ·subst hQ0
  obtain⟨x',hxu,hrl,hok',j,M,Hj,hM,he⟩:=D6c HOK.out HQ0.out
  have HX:Hid (BRd 11 w (.slice a0 n0 c0) (.slice a1 n1 c1) x'):=by
   have h:=HQ.out
   rw[←hxu] at h
   exact D4w (k:=kk) (n:=11) h
  clear hxu HQ HOK HQ0
  subst Hj
  have hMm:=List.mem_of_getElem? hM
  have HRL:Hid ((A1c g).1=0):=hrl
  have HM:Hid (g.msgs[j]?=some M):=hM
  have HE:Hid (A1d g 12 1 M.fields x'=0):=he
  have HOK:Hid (BOk 12 x'):=hok'
  have HR:Hid (RtL M.fields (fun name s=>A1d g 11 (1+1) (A0m g name) s) (BO.vals x')):=(A2g he).2.1
  have Hn0:Hid (n0=(BO.vals x').length):=HX.out.1.len.1
  have Hn1:Hid (n1=(BO.unk x').length):=HX.out.2.len.1
  have hn16:n0≤16:=by
   have h1:=D2n HR.out
   have h2:=(C6r ((B1b hrl).2.2 M hMm)).1
   rw[Hn0.out]
   omega
  have Hnm:=HI.out.hg.1.len.1
  have hjl:=(List.getElem?_eq_some_iff.1 hM).1
  have hji:(j:Int) < (nm:Int):=by omega
  have hji0:¬ (j:Int) < 0:=by omega
  obtain⟨bm,om,rfl,hat⟩:=HI.out.hg.1.get MAt.plain hM
  obtain⟨vf,vb,s0,s1,s2,hrf,hrb⟩:=hat.at
  obtain⟨af,nf,kf,rfl,_,_⟩:=hrf.shape
  obtain⟨ab,nb,kb,rfl,_,_⟩:=hrb.shape
  have HF:Hid (RdL 6 FAt w (.slice af nf kf) M.fields):=hrf
  clear hat hrb hrf hM he hok' hrl hMm hjl Hnm
  obtain⟨y2,y3⟩:=A0v ((hb13.block _ (by omega)).trans x2)
  go_wp2_with fail
  clear y2 y3
  go_loopg [7,32] n0 (fun gm s7 s32 wr=>∃ (i:Nat) (u0:Option Addr) (u1 u2:Nat) (acc:List RI),i+gm=n0∧s7 = .slice u0 u1 u2∧s32 = .int .i64 (i:Int)∧Hid (RecL w wr W1.heap.size (.slice u0 u1 u2) acc∧acc.length≤i*60∧acc=D6a g M.fields ((BO.vals x').take i)∧∀ v∈(BO.vals x').take i,(D5r (D5q g 11) (A1n M.fields v.number) v).2=0)∧Below W1.heap.size W1 wr)
  case atStart=>exact⟨0,none,0,0,[],by omega,rfl,rfl,⟨RecL.nil _ _ _,by simp,by simp[D6a],fun v hv=>by simp at hv⟩,hb13⟩
  case round=>
   obtain⟨i,u0,u1,u2,acc,hi,rfl,rfl,HU,hbr⟩:=hrel
   have hzr:=hbr.size
   have hbwr:Below w.heap.size w wr:=BTr hb1 hbr
   by_cases hlt:i < n0
   ·obtain⟨v,Hv⟩:∃ v,Hid ((BO.vals x')[i]?=some v):=⟨(BO.vals x')[i]'(by rw[←Hn0.out];exact hlt),List.getElem?_eq_getElem (by rw[←Hn0.out];exact hlt)⟩
    have hvm:=List.mem_of_getElem? Hv.out
    obtain⟨xf,hxf⟩:=HR.out.each v hvm
    have HXF:Hid (RtV M.fields (fun name s=>A1d g 11 (1+1) (A0m g name) s) xf v):=hxf
    obtain⟨jf,hjf1,hjf2⟩:=A7q (show M.fields.find? (fun f=>decide (f.number=v.number))=some xf from hxf.fld)
    obtain⟨gv,ov,rfl,hav⟩:=HX.out.1.get VAt.plain Hv.out
    obtain⟨q1,q2,q3,k0,k1,k2,k3,r1,r2,r3⟩:=hav.at
    obtain⟨b1,m1,d1,rfl,K1,_⟩:=r1.shape
    obtain⟨b2,m2,d2,rfl,_,_⟩:=r2.shape
    obtain⟨b3,m3,d3,rfl,_,_⟩:=r3.shape
    have HV1:Hid (RdL 1 UAt w (.slice b1 m1 d1) v.bits):=r1
    have HV2:Hid (RdL 1 ZAt w (.slice b2 m2 d2) v.bytes):=r2
    have HV3:Hid (RdL 2 (BAt 11) w (.slice b3 m3 d3) v.subs):=r3
    have HVM:Hid (v∈BO.vals x'):=hvm
    have c0':=A0c hbwr k0
    have c1':=A0c hbwr k1
    have c2':=A0c hbwr k2
    have c3':=A0c hbwr k3
    obtain⟨bF,oF,rfl,hatF⟩:=HF.out.get FAt.plain hjf2
    obtain⟨f0,f1,f2,f3,f4,f5⟩:=hatF.at
    have hlti:(i:Int) < (n0:Int):=by omega
    obtain⟨W8,HW8⟩:∃ W8,Hid (W8=wr.alloc (.cells #[.int .i64 v.number,.slice b1 m1 d1,.slice b2 m2 d2,.slice b3 m3 d3] 54)):=⟨_,rfl⟩
    have hb8:Below wr.heap.size wr W8:=by rw[HW8.out];exact(Below.refl _ _).alloc (Nat.le_refl _) _
    have x8:W8.heap[wr.heap.size]?=some (.cells #[.int .i64 v.number,.slice b1 m1 d1,.slice b2 m2 d2,.slice b3 m3 d3] 54 (0,0)):=by rw[HW8.out];exact heap_alloc_new _ _
    have hz8:wr.heap.size+1≤W8.heap.size:=by rw[HW8.out];simp
    have hbw8:Below w.heap.size w W8:=BTr hbwr hb8
    have hcl8:∀ V,Below W8.heap.size W8 V→V.cell? ⟨w.heap.size,0,none⟩=some (.slice (some ⟨bm,om,none⟩) nm cm)∧(V.cell? ⟨wr.heap.size,0,none⟩=some (.int .i64 v.number)∧V.cell? ⟨wr.heap.size,1,none⟩=some (.slice b1 m1 d1)∧V.cell? ⟨wr.heap.size,2,none⟩=some (.slice b2 m2 d2)∧V.cell? ⟨wr.heap.size,3,none⟩=some (.slice b3 m3 d3))∧V.cell? ⟨bm,om+j*3,none⟩=some (.string (S M.name))∧V.cell? ⟨bm,om+j*3+1,none⟩=some (.slice (some ⟨bF,oF,none⟩) nf kf)∧V.cell? ⟨bm,om+j*3+2,none⟩=some (.slice ab nb kb):=fun V hV=>by
     have hwV:=BTr hbw8 hV
     exact⟨A0a (((BTr hb8 hV).block _ (by omega)).trans ((hbr.block _ (by omega)).trans x1)) 0 _ rfl,C1k ((hV.block _ (by omega)).trans x8),A0c hwV s0,A0c hwV s1,A0c hwV s2⟩
    have hfld:∀ V,Below W8.heap.size W8 V→Calls Tryz.prog 21 #[.agg #[.string (S M.name),.slice (some ⟨bF,oF,none⟩) nf kf,.slice ab nb kb],.int .i64 v.number] V fun e w'=>e = .returned (.pointer (some ⟨bF,oF+jf*6,none⟩))∧Below V.heap.size V w':=fun V hV=>by
     refine(C6q (HF.out.below FAt.stays (BTr hbw8 hV)) ⟨_,_,_,rfl⟩ ⟨_,rfl⟩ v.number hjf2 (A3x HXF.out.fld) (first_takeU hjf1)).mono ?_
     rintro e w' ⟨⟨b,off,h1,h2⟩,h3⟩
     cases h1
     exact⟨h2,h3⟩
    have hd:Below W8.heap.size W8 W8.drew:=(Below.refl _ _).drew
    clear hxf hav r1 r2 r3 hatF hvm k0 k1 k2 k3
    go_upto_region 9 with fail
    rw[←HW8.out]
    clear c0' c1' c2' c3'
    refine wp_region_held_drew (S:=fun U=>Below W8.heap.size W8 U) (by kernel_rfl) hd (fun hHeld=>?_)
    refine tK (i:=0) (v:=?vu1) rfl (fun _ _ _ h=>h) ⟨by rfl,?hyu1⟩ (by assumption) ?_
    case hyu1=>(intro W hSw;obtain⟨o1,⟨o2,o3,o4,o5⟩,o6,o7,o8⟩:=hcl8 W hSw;go_simp;first|done|with_reducible rfl)
    try simp only[pT,Act.put]
    refine tK (i:=1) (v:=?vu2) rfl (fun _ _ _ h=>h) ⟨by rfl,?hyu2⟩ (by assumption) ?_
    case hyu2=>(intro W hSw;obtain⟨o1,⟨o2,o3,o4,o5⟩,o6,o7,o8⟩:=hcl8 W hSw;go_simp;first|done|with_reducible rfl)
    try simp only[pT,Act.put]
    refine tK (i:=2) (v:=?vu3) rfl (fun _ _ _ h=>h) ⟨by rfl,?hyu3⟩ (by assumption) ?_
    case hyu3=>(intro W hSw;obtain⟨o1,⟨o2,o3,o4,o5⟩,o6,o7,o8⟩:=hcl8 W hSw;go_simp;first|done|with_reducible rfl)
    try simp only[pT,Act.put]
    refine tK (i:=3) (v:=?vu4) rfl (fun _ _ _ h=>h) ⟨by rfl,?hyu4⟩ (by assumption) ?_
    case hyu4=>(intro W hSw;obtain⟨o1,⟨o2,o3,o4,o5⟩,o6,o7,o8⟩:=hcl8 W hSw;go_simp;first|done|with_reducible rfl)
    try simp only[pT,Act.put]
    refine tK (i:=4) (v:=?vu5) rfl (fun _ _ _ h=>h) ⟨by rfl,?hyu5⟩ (by assumption) ?_
    case hyu5=>(intro W hSw;obtain⟨o1,⟨o2,o3,o4,o5⟩,o6,o7,o8⟩:=hcl8 W hSw;go_simp;first|done|with_reducible rfl)
    try simp only[pT,Act.put]
    refine tK (i:=5) (v:=?vu6) rfl (fun _ _ _ h=>h) ⟨by rfl,?hyu6⟩ (by assumption) ?_
    case hyu6=>(intro W hSw;obtain⟨o1,⟨o2,o3,o4,o5⟩,o6,o7,o8⟩:=hcl8 W hSw;go_simp;first|done|with_reducible rfl)
    try simp only[pT,Act.put]
    refine tK (i:=6) (v:=?vu7) rfl (fun _ _ _ h=>h) ⟨by rfl,?hyu7⟩ (by assumption) ?_
    case hyu7=>(intro W hSw;obtain⟨o1,⟨o2,o3,o4,o5⟩,o6,o7,o8⟩:=hcl8 W hSw;go_simp;first|done|with_reducible rfl)
    try simp only[pT,Act.put]
    refine wpAnyH_ready (rs:=[7]) (by kernel_rfl) (by simp) ?_
    refine AllReadyH.cons rfl (fun K hK=>?_) AllReadyH.nil
    go_simp
    refine(hfld _ hd).mono ?_
    rintro e w9 ⟨rfl,hb9⟩
    have hB9:=BTr hd hb9
    refine hK.out _ _ ?_ (fun hHeld=>?_)
    ·(try dsimp only);with_reducible first|exact hd|exact hB9
    clear hK K
    try simp only[pT,Act.put]
    refine tK (i:=8) (v:=?vu8) rfl (fun _ _ _ h=>h) ⟨by rfl,?hyu8⟩ (by assumption) ?_
    case hyu8=>(intro W hSw;obtain⟨o1,⟨o2,o3,o4,o5⟩,o6,o7,o8⟩:=hcl8 W hSw;go_simp;first|done|with_reducible rfl)
    try simp only[pT,Act.put]
    refine wpAnyH_done (by kernel_rfl) ?_ _
    have hb89:Below wr.heap.size wr w9:=BTr hb8 hB9
    have hb19:Below W1.heap.size W1 w9:=BTr hbr hb89
    have hbw9:Below w.heap.size w w9:=BTr hb1 hb19
    have hz9:=hB9.size
    have x9:=(hB9.block _ (by omega)).trans x8
    have HU9:Hid (RecL w w9 W1.heap.size (.slice u0 u1 u2) acc):=HU.out.1.below hb89
    clear hcl8 hfld
    obtain⟨t0,t1,t2,t3⟩:=C1k x9
    have g4:=A0c hbw9 f4
    obtain⟨cB,HcB⟩:∃ cB:Bool,Hid (cB=decide (xf.many=true∧v.bits≠[])):=⟨_,rfl⟩
    obtain⟨mB,HmB⟩:∃ mB:Bool,Hid (xf.many=mB):=⟨_,rfl⟩
    rw[HmB.out] at g4
    go_upto_region 10 with fail
    go_cut [54] from 44 to 53 (fun s54 wc=>s54 = .bool (!cB)∧w9=wc)
    case first=>
     cases mB with
     | false=>
      have ec:cB=false:=by rw[HcB.out,HmB.out];simp
      subst ec
      go_wp2_with fail
      go_meet
      exact⟨rfl,rfl⟩
     | true=>
      by_cases hm1:m1=0
      ·have ec:cB=false:=by
        rw[HcB.out,decide_eq_false_iff_not]
        rintro⟨_,h2⟩
        exact h2 (List.eq_nil_of_length_eq_zero (by rw[←K1.out];exact hm1))
       subst ec
       have em:((m1:Int) == 0)=true:=by rw[hm1];rfl
       clear hm1
       go_wp2_with fail
       go_meet
       exact⟨rfl,rfl⟩
      ·have ec:cB=true:=by
        rw[HcB.out,decide_eq_true_eq]
        exact⟨HmB.out,fun h=>hm1 (by rw[K1.out,h];rfl)⟩
       subst ec
       have em:((m1:Int) == 0)=false:=beq_eq_false_iff_ne.2 (by omega)
       clear hm1
       go_wp2_with fail
       go_meet
       exact⟨rfl,rfl⟩
    case rest=>
     obtain⟨rfl,rfl⟩:=hcut
     clear t0 t1 t2 t3 g4
     have ef:A1n M.fields v.number=xf:=A2y HXF.out.fld
     have HEF:Hid (A1n M.fields v.number=xf):=ef
     clear ef
     obtain⟨hwg,h60⟩:=D5t HRL.out (List.mem_of_getElem? HM.out) (deep:=D5q g 11) (fun t x=>A8i g 11 (A4z g t) x) HXF.out
     have HW60:Hid ((D5r (D5q g 11) xf v).1.length≤60):=h60
     clear hwg h60
     cases cB with
     | false=>
      have HC:Hid (¬ (xf.many=true∧v.bits≠[])):=by
       have:=HcB.out
       show ¬ _
       intro h
       rw[decide_eq_true h] at this
       cases this
      have HB1:Hid (BOk 12 (D5y v)):=⟨fun u hu=>by rw[List.mem_singleton.1 (show u∈[v] from hu)];exact HOK.out.1 v HVM.out,(by show([v]:List (VI (BI 11))).length*80≤_;simp[reachBytes]),(fun r hr=>(List.not_mem_nil (show r∈[] from hr)).elim),(by show([]:List RI).length*48≤_;simp)⟩
      have hw1:A1g g 11 (j:Int) (D5y v)=0:=by rw[A4v HRL.out HM.out];exact D5w HE.out HVM.out
      obtain⟨B1,E1,HB⟩:∃ B1 E1,Hid (A7k g 11 (j:Int) (D5y v)=(B1,E1)):=⟨_,_,rfl⟩
      have hE1:E1=0∨E1=4:=by
       have h:=C0z HRL.out 12 1 M (D5y v) (List.mem_of_getElem? HM.out) (D5w HE.out HVM.out)
       rw[←B3g hw1 HM.out,HB.out] at h
       exact h
      have HP1:Hid (E1=0→(D5r (D5q g 11) xf v).2=0∧A1t B1=((D5r (D5q g 11) xf v).1.map D1c,0,0)):=fun h0=>by
       have hw:A1h g 12 M (D5y v)=(B1,E1):=by rw[←B3g hw1 HM.out];exact HB.out
       have h:=D6b (C6g 12 _ HB1.out) (show(A1h g 12 M (D5y v)).2=0 by rw[hw];exact h0)
       rw[hw,HEF.out] at h
       unfold D5r
       rw[if_neg HC.out]
       exact h
      obtain⟨W11,HW11⟩:∃ W11,Hid (W11=w9.alloc (.cells #[.int .i64 v.number,.slice b1 m1 d1,.slice b2 m2 d2,.slice b3 m3 d3] 54)):=⟨_,rfl⟩
      have hb911:Below w9.heap.size w9 W11:=by rw[HW11.out];exact(Below.refl _ _).alloc (Nat.le_refl _) _
      have x11:W11.heap[w9.heap.size]?=some (.cells #[.int .i64 v.number,.slice b1 m1 d1,.slice b2 m2 d2,.slice b3 m3 d3] 54 (0,0)):=by rw[HW11.out];exact heap_alloc_new _ _
      have hz11:w9.heap.size+1≤W11.heap.size:=by rw[HW11.out];simp
      have hb111:Below W1.heap.size W1 W11:=BTr hb19 hb911
      have hbw11:Below w.heap.size w W11:=BTr hb1 hb111
      have hone:=one_rd x11 (HV1.out.below UAt.stays hbw11) (HV2.out.below ZAt.stays hbw11) (HV3.out.below (BAt.stays 11) hbw11)
      have hbt:=A3z (HI.out.below hbw11) hone HB1.out
      rw[HB.out] at hbt
      obtain⟨y0,y1⟩:=A0v ((hb19.block _ (by omega)).trans x1)
      obtain⟨t0,t1,t2,t3⟩:=C1k x9
      clear hw1 hone
      have eT:(!false)=true:=rfl
      go_wp2_with fail
      rw[←HW11.out]
      refine hbt.mono ?_
      rintro e w12 ⟨pa,pn,pc,rfl,hrp,hb12⟩
      have hb1112:=hb12
      obtain⟨rs1,Ep,A1,hp1⟩:∃ rs E A,A1t B1=(rs,E,A):=⟨_,_,_,rfl⟩
      obtain⟨EI',HEp⟩:∃ EI':Int,Hid ((Ep:Int)=EI'):=⟨_,rfl⟩
      have HPR:Hid (A1t B1=(rs1,Ep,A1)):=hp1
      have hpar:Calls Tryz.prog 22 #[.slice pa pn pc] w12 fun e w'=>∃ (rl:List (RI×PV)) (ar:Option Addr) (kr cr:Nat),e = .returned (.tuple #[.slice ar kr cr,.agg #[.int .i64 EI',.int .i64 (A1:Int)]])∧Hid (Row ekR w' w12.heap.size (.slice ar kr cr) rl∧(∀ r∈rl,Row ekY w' w12.heap.size r.2.v r.1.bytes)∧rl.map Prod.fst=rs1.map A8j)∧Below w12.heap.size w12 w':=(C0d (C0i hrp.rdY) hp1).mono fun e w' ⟨v',ps,h1,h2,h3,h4⟩=>by
       obtain⟨rl,g1,g2,g3⟩:=C0n h2
       obtain⟨ar,kr,cr,rfl,_⟩:=g1.shape'
       rw[HEp.out] at h1
       rw[h3] at g3
       exact⟨rl,ar,kr,cr,h1,⟨g1,g2,g3⟩,h4⟩
      clear y0 y1 t0 t1 t2 t3 hbt hp1 hrp
      go_wp2_with fail
      refine hpar.mono ?_
      rintro e w13 ⟨rl,ar,kr,cr,rfl,HRW,hb13'⟩
      obtain⟨W14,HW14⟩:∃ W14,Hid (W14=w13.alloc (.cells #[.int .i64 EI',.int .i64 (A1:Int)] 60)):=⟨_,rfl⟩
      have hb134:Below w13.heap.size w13 W14:=by rw[HW14.out];exact(Below.refl _ _).alloc (Nat.le_refl _) _
      have x14:W14.heap[w13.heap.size]?=some (.cells #[.int .i64 EI',.int .i64 (A1:Int)] 60 (0,0)):=by rw[HW14.out];exact heap_alloc_new _ _
      have hz14:w13.heap.size+1≤W14.heap.size:=by rw[HW14.out];simp
      have hb914:Below w9.heap.size w9 W14:=BTr (BTr hb911 hb12) (BTr hb13' hb134)
      have hb114:Below W1.heap.size W1 W14:=BTr hb19 hb914
      clear hpar
      go_upto_region 13 with fail
      rw[←HW14.out]
      obtain⟨t0,t1⟩:=A0v x14
      rcases hE1 with rfl|rfl
      ·obtain⟨hu0,hpu⟩:=HP1.out rfl
       obtain⟨h1,h2,h3⟩:=A0g ((HPR.out.symm).trans hpu)
       subst h1 h2 h3
       have hEI:EI'=0:=HEp.out.symm
       subst hEI
       have HU0:Hid ((D5r (D5q g 11) xf v).2=0):=hu0
       have Hrl:Hid (rl.map Prod.fst=(D5r (D5q g 11) xf v).1):=by
        show _=_
        rw[HRW.out.2.2,D3v]
       clear hu0 hpu
       obtain⟨l',i1,i2,i3⟩:=HU9.out.below hb914
       have hrl14:Row ekR W14 W1.heap.size (.slice ar kr cr) rl:=(HRW.out.1.below hb134).mono (by have:=hb111.size;have:=hb12.size;omega)
       have hry14:∀ r∈rl,RdL 1 YAt w r.2.v r.1.bytes∨Row ekY W14 W1.heap.size r.2.v r.1.bytes:=fun r hr=>.inr (((HRW.out.2.1 r hr).below hb134).mono (by have:=hb111.size;have:=hb12.size;omega))
       obtain⟨q1,q2,q3⟩:=D2o hrl14
       have hl1:l'.length≤i*60:=by rw[←List.length_map (f:=Prod.fst),i2];exact HU.out.2.1
       have hl2:rl.length≤60:=by rw[←List.length_map (f:=Prod.fst),Hrl.out];exact HW60.out
       have hz14':=hb114.size
       have e00:((0:Int) != 0)=false:=rfl
       have HL1:Hid (Row ekR W14 W1.heap.size (.slice u0 u1 u2) l'):=i1
       have HQ3:Hid (∀ ad,ar=some ad→∀ k y,rl[k]?=some y→∀ j u,(ekR.enc y)[j]?=some u→W14.cell? (ad.add (k*ekR.size+j))=some u):=q3
       clear q3 i1
       go_wp2_with (at_builtin;refine A2b (by rfl) ekR _ _ (by rfl) W1.heap.size (.slice u0 u1 u2) l' rl (by rfl) HL1.out ar kr cr (by rfl) q1 q2 HQ3.out (by decide) ?d2 hz14' ?_)
       case d2=>
        rw[show ekR.bytes=48 from rfl]
        omega
       intro v' w15 hr15 hg15
       obtain⟨a15,n15,c15,rfl,_⟩:=hr15.shape'
       have hB15:Below W1.heap.size W1 w15:=hb114.grown hg15 hz14' (fun k hk=>(HL1.out.own k hk).1)
       have HN:Hid (RecL w w15 W1.heap.size (.slice a15 n15 c15) (acc++(D5r (D5q g 11) xf v).1)∧(acc++(D5r (D5q g 11) xf v).1).length≤(i+1)*60∧acc++(D5r (D5q g 11) xf v).1=D6a g M.fields ((BO.vals x').take (i+1))∧∀ u∈(BO.vals x').take (i+1),(D5r (D5q g 11) (A1n M.fields u.number) u).2=0):=by
        refine⟨RecL.app (o:=none) HL1.out i2 i3 Hrl.out hry14 hr15 hg15 rfl,?_,?_,unp_take Hv.out HU.out.2.2.2 (by rw[HEF.out];exact HU0.out)⟩
        ·have h1:=HU.out.2.1
         have h2:=HW60.out
         rw[List.length_append]
         omega
        ·rw[unpL_succ Hv.out,HEF.out,←HU.out.2.2.1]
       clear hr15 i2 i3 hry14 hrl14 t0 t1
       go_wp2_with fail
       go_roundg (n0 - (i+1))
       case measure=>omega
       case rel=>exact⟨i+1,a15,n15,c15,_,by omega,rfl,by go_num,HN,hB15⟩
      ·have e4:((4:Int) != 0)=true:=rfl
       have e44:((4:Int) == 4)=true:=rfl
       go_wp2
       go_ret
       exact⟨rfl,BTr hb1 hb114⟩
     | true=>
      have HC:Hid (xf.many=true∧v.bits≠[]):=by
       have:=HcB.out.symm
       show _∧_
       exact of_decide_eq_true this
      have eF:(!true)=false:=rfl
      obtain⟨t0,t1,t2,t3⟩:=C1k x9
      go_wp2_with fail
      clear t0 t1 t2 t3
      have hm60:m1≤60:=by
       have h:=(A4h HXF.out.misc).2.1
       unfold A1i at h
       rw[K1.out]
       omega
      have hm1p:0 < m1:=by
       rw[K1.out]
       exact List.length_pos_iff.2 HC.out.2
      obtain⟨wo,Hwo⟩:∃ wo,wo=wr:=⟨_,rfl⟩
      subst Hwo
      go_loopg [7,84] m1 (fun gm s7 s84 wr=>∃ (k:Nat) (e0:Option Addr) (e1 e2:Nat),k+gm=m1∧s7 = .slice e0 e1 e2∧s84 = .int .i64 (k:Int)∧Hid (RecL w wr W1.heap.size (.slice e0 e1 e2) (acc++(v.bits.take k).map (fun n=>⟨v.number,A3t xf.kind,A5f xf.kind n,[]⟩)))∧wr.heap[wo.heap.size]?=some (.cells #[.int .i64 v.number,.slice b1 m1 d1,.slice b2 m2 d2,.slice b3 m3 d3] 54 (0,0))∧Below W1.heap.size W1 wr)
      case atStart=>exact⟨0,u0,u1,u2,by omega,rfl,rfl,by show RecL _ _ _ _ _;rw[List.take_zero,List.map_nil,List.append_nil];exact HU9.out,x9,hb19⟩
      case round=>
       obtain⟨k,e0,e1,e2,hk,rfl,rfl,HUq,x9q,hbq⟩:=hrel
       have hbwq:Below w.heap.size w wr:=BTr hb1 hbq
       have hzq:=hbq.size
       have hwo:=(Array.getElem?_eq_some_iff.1 x9q).1
       by_cases hkl:k < m1
       ·obtain⟨q,Hq⟩:∃ q,Hid (v.bits[k]?=some q):=⟨v.bits[k]'(by rw[←K1.out];exact hkl),List.getElem?_eq_getElem (by rw[←K1.out];exact hkl)⟩
        have HqB:Hid (q < 18446744073709551616):=(HOK.out.1 v HVM.out).2.1 q (List.mem_of_getElem? Hq.out)
        obtain⟨gu,ou,rfl,hu1⟩:=(HV1.out.below UAt.stays hbwq).get UAt.plain Hq.out
        have sq:wr.cell? ⟨gu,ou+k,none⟩=some (.int .u64 (q:Int)):=by simpa [UAt] using hu1
        have hkli:(k:Int) < (m1:Int):=by omega
        clear hu1
        go_upto_region 19 with fail
        clear sq
        have hclq:∀ U,Below wr.heap.size wr U→U.cell? ⟨wo.heap.size,0,none⟩=some (.int .i64 v.number)∧U.cell? ⟨bF,oF+jf*6+2,none⟩=some (.int .i64 xf.kind):=fun U hU=>⟨A0a ((hU.block _ hwo).trans x9q) 0 _ rfl,A0c (BTr hbwq hU) f2⟩
        have hho:∀ U,Calls Tryz.prog 8 #[.int .i64 xf.kind] U fun e w'=>e = .returned (.int .i64 (A3t xf.kind))∧U=w':=fun U=>A9v xf.kind U
        have hDq:Below wr.heap.size wr wr.drew:=(Below.refl _ _).drew
        obtain⟨XR,HXR⟩:∃ XR,Hid (XR=(wr.alloc (.cells #[.int .i64 0,.int .i64 0,.int .u64 0,.slice none 0 0] 65)).drew):=⟨_,rfl⟩
        have hXR:Below wr.heap.size wr XR:=by rw[HXR.out];exact((Below.refl _ _).alloc (Nat.le_refl _) _).drew
        have xXR:XR.heap[wr.heap.size]?=some (.cells #[.int .i64 0,.int .i64 0,.int .u64 0,.slice none 0 0] 65 (0,0)):=by rw[HXR.out];exact heap_alloc_new wr _
        obtain⟨hw0,HHW⟩:∃ hw0:Int,Hid (A3t xf.kind=hw0):=⟨_,rfl⟩
        rw[HHW.out] at hho
        have hB10:Below wr.heap.size wr ((((XR.setCell ⟨wr.heap.size,0,none⟩ (.int .i64 v.number)).setCell ⟨wr.heap.size,1,none⟩ (.int .i64 hw0)).setCell ⟨wr.heap.size,2,none⟩ (.int .u64 (q:Int))).setCell ⟨wr.heap.size,3,none⟩ (.slice none 0 0)):=KB_set4 hXR (Nat.le_refl _)
        go_cut [17] from 88 to 96 (fun s17 wc=>s17 = .pointer (some ⟨wr.heap.size,0,none⟩)∧wc.heap[wr.heap.size]?=some (.cells #[.int .i64 v.number,.int .i64 hw0,.int .u64 (q:Int),.slice none 0 0] 65 (0,0))∧Below wr.heap.size wr wc)
        case first=>
         refine wp_region_held_drew (S:=fun U=>Below wr.heap.size wr U) (by kernel_rfl) hDq (fun hHeld=>?_)
         refine tK (i:=0) (v:=?vh1) rfl (fun _ _ _ h=>h) ⟨by rfl,?hyh1⟩ (by assumption) ?_
         case hyh1=>(intro W hSw;(try obtain⟨o1,o2⟩:=hclq W hSw);go_simp;first|done|with_reducible rfl)
         try simp only[pT,Act.put]
         refine tK (i:=1) (v:=?vh2) rfl (fun _ _ _ h=>h) ⟨by rfl,?hyh2⟩ (by assumption) ?_
         case hyh2=>(intro W hSw;(try obtain⟨o1,o2⟩:=hclq W hSw);go_simp;first|done|with_reducible rfl)
         try simp only[pT,Act.put]
         refine tK (i:=2) (v:=?vh3) rfl (fun _ _ _ h=>h) ⟨by rfl,?hyh3⟩ (by assumption) ?_
         case hyh3=>(intro W hSw;(try obtain⟨o1,o2⟩:=hclq W hSw);go_simp;first|done|with_reducible rfl)
         try simp only[pT,Act.put]
         refine tK (i:=3) (v:=?vh4) rfl (fun _ _ _ h=>h) ⟨by rfl,?hyh4⟩ (by assumption) ?_
         case hyh4=>(intro W hSw;(try obtain⟨o1,o2⟩:=hclq W hSw);go_simp;first|done|with_reducible rfl)
         try simp only[pT,Act.put]
         refine tK (i:=4) (v:=?vh5) rfl (fun _ _ _ h=>h) ⟨by rfl,?hyh5⟩ (by assumption) ?_
         case hyh5=>(intro W hSw;(try obtain⟨o1,o2⟩:=hclq W hSw);go_simp;first|done|with_reducible rfl)
         try simp only[pT,Act.put]
         refine tK (i:=5) (v:=?vh6) rfl (fun _ _ _ h=>h) ⟨by rfl,?hyh6⟩ (by assumption) ?_
         case hyh6=>(intro W hSw;(try obtain⟨o1,o2⟩:=hclq W hSw);go_simp;first|done|with_reducible rfl)
         try simp only[pT,Act.put]
         refine tK (i:=7) (v:=?vh7) rfl (fun _ _ _ h=>h) ⟨by rfl,?hyh7⟩ (by assumption) ?_
         case hyh7=>(intro W hSw;(try obtain⟨o1,o2⟩:=hclq W hSw);go_simp;first|done|with_reducible rfl)
         try simp only[pT,Act.put]
         refine wpAnyH_ready (rs:=[6,9]) (by kernel_rfl) (by simp) ?_
         refine AllReadyH.cons rfl (fun K hK=>?_) (AllReadyH.cons rfl (fun K hK=>?_) AllReadyH.nil)
         ·skip
          go_simp
          refine(hho _).mono ?_
          rintro e wh ⟨rfl,rfl⟩
          refine hK.out _ _ ?_ (fun hHeld=>?_)
          ·(try dsimp only);with_reducible first|exact hDq|exact hXR|exact hB10
          clear hK K
          try simp only[pT,Act.put]
          refine tK (i:=8) (v:=?vh8) rfl (fun _ _ _ h=>h) ⟨by rfl,?hyh8⟩ (by assumption) ?_
          case hyh8=>(intro W hSw;(try obtain⟨o1,o2⟩:=hclq W hSw);go_simp;first|done|with_reducible rfl)
          try simp only[pT,Act.put]
          refine wpAnyH_ready (rs:=[9]) (by kernel_rfl) (by simp) ?_
          refine AllReadyH.cons rfl (fun K hK=>?_) AllReadyH.nil
          go_simp
          rw[←HXR.out]
          refine hK.out _ _ ?_ (fun hHeld=>?_)
          ·(try dsimp only);with_reducible first|exact hDq|exact hXR|exact hB10
          clear hK K
          try simp only[pT,Act.put]
          refine wpAnyH_ready (rs:=[10]) (by kernel_rfl) (by simp) ?_
          refine AllReadyH.cons rfl (fun K hK=>?_) AllReadyH.nil
          skip
          obtain⟨tr0,tr1,tr2,tr3⟩:=C1k xXR
          have trf:=A0b xXR
          go_simp
          refine hK.out _ _ ?_ (fun hHeld=>?_)
          ·(try dsimp only);with_reducible first|exact hDq|exact hXR|exact hB10
          clear hK K
          try simp only[pT,Act.put]
          refine wpAnyH_done (by kernel_rfl) ?_ _
          go_wp2_with fail
          go_meet
          exact⟨rfl,set4_at xXR,hB10⟩
         ·skip
          go_simp
          rw[←HXR.out]
          refine hK.out _ _ ?_ (fun hHeld=>?_)
          ·(try dsimp only);with_reducible first|exact hDq|exact hXR|exact hB10
          clear hK K
          try simp only[pT,Act.put]
          refine wpAnyH_ready (rs:=[6]) (by kernel_rfl) (by simp) ?_
          refine AllReadyH.cons rfl (fun K hK=>?_) AllReadyH.nil
          go_simp
          refine(hho _).mono ?_
          rintro e wh ⟨rfl,rfl⟩
          refine hK.out _ _ ?_ (fun hHeld=>?_)
          ·(try dsimp only);with_reducible first|exact hDq|exact hXR|exact hB10
          clear hK K
          try simp only[pT,Act.put]
          refine tK (i:=8) (v:=?vh9) rfl (fun _ _ _ h=>h) ⟨by rfl,?hyh9⟩ (by assumption) ?_
          case hyh9=>(intro W hSw;(try obtain⟨o1,o2⟩:=hclq W hSw);go_simp;first|done|with_reducible rfl)
          try simp only[pT,Act.put]
          refine wpAnyH_ready (rs:=[10]) (by kernel_rfl) (by simp) ?_
          refine AllReadyH.cons rfl (fun K hK=>?_) AllReadyH.nil
          skip
          obtain⟨tr0,tr1,tr2,tr3⟩:=C1k xXR
          have trf:=A0b xXR
          go_simp
          refine hK.out _ _ ?_ (fun hHeld=>?_)
          ·(try dsimp only);with_reducible first|exact hDq|exact hXR|exact hB10
          clear hK K
          try simp only[pT,Act.put]
          refine wpAnyH_done (by kernel_rfl) ?_ _
          go_wp2_with fail
          go_meet
          exact⟨rfl,set4_at xXR,hB10⟩
        case rest=>
         obtain⟨rfl,xc,hbc⟩:=hcut
         clear hclq hho hB10 HXR xXR hXR
         have hbwc:Below w.heap.size w wc:=BTr hbwq hbc
         have g2:=A0c hbwc f2
         obtain⟨bq,Hbq⟩:∃ bq:Nat,Hid (A5f xf.kind q=bq):=⟨_,rfl⟩
         obtain⟨tc0,tc1,tc2,tc3⟩:=C1k xc
         have tcf:=A0b xc
         by_cases hk2:xf.kind=2
         ·have ek:(xf.kind == 2)=true:=by simpa using hk2
          have Hb2:Hid (((bq:Nat):Int)=A8q (IntKind.i64.wrap (q:Int))):=by
           show _=_
           rw[←Hbq.out,hk2]
           exact bitK_two q HqB.out
          have hfo:=C5d (IntKind.i64.wrap (q:Int)) wc (by rw[IntKind.wrap_i64];have:=HqB.out;omega) (by rw[IntKind.wrap_i64];have:=HqB.out;omega)
          rw[←Hb2.out,show IntKind.i64.wrap (q:Int)=wrap64 (q:Int) by rw[IntKind.wrap_i64];unfold wrap64;omega] at hfo
          clear hk2
          go_wp2_with fail
          refine hfo.mono ?_
          rintro e wf ⟨rfl,rfl⟩
          obtain⟨wd,Hwd⟩:∃ wd,Hid (wd=wc.setCell ⟨wr.heap.size,2,none⟩ (.int .u64 (bq:Int))):=⟨_,rfl⟩
          have xd:wd.heap[wr.heap.size]?=some (.cells #[.int .i64 v.number,.int .i64 hw0,.int .u64 (bq:Int),.slice none 0 0] 65 (0,0)):=by rw[Hwd.out];exact heap_setCell_same _ _ 2 _ _ _ xc
          have hbd:Below wr.heap.size wr wd:=by rw[Hwd.out];exact A0d hbc (Nat.le_refl _)
          go_upto_region 22 with fail
          rw[←Hwd.out]
          clear tc0 tc1 tc2 tc3 tcf g2 xc hbc hfo
          obtain⟨td0,td1,td2,td3⟩:=C1k xd
          obtain⟨WE,HWE⟩:∃ WE,Hid (WE=wd.alloc (.cells #[.int .i64 v.number,.int .i64 hw0,.int .u64 (bq:Int),.slice none 0 0] 65)):=⟨_,rfl⟩
          have hbE:Below wd.heap.size wd WE:=by rw[HWE.out];exact(Below.refl _ _).alloc (Nat.le_refl _) _
          have xE:WE.heap[wd.heap.size]?=some (.cells #[.int .i64 v.number,.int .i64 hw0,.int .u64 (bq:Int),.slice none 0 0] 65 (0,0)):=by rw[HWE.out];exact heap_alloc_new _ _
          have hbqE:Below wr.heap.size wr WE:=BTr hbd hbE
          have hb1E:Below W1.heap.size W1 WE:=BTr hbq hbqE
          obtain⟨l',i1,i2,i3⟩:=HUq.out.below hbqE
          have hl1:l'.length≤16*60+k:=by
           rw[←List.length_map (f:=Prod.fst),i2,List.length_append,List.length_map,List.length_take]
           have h1:=HU.out.2.1
           omega
          have hsrc:∀ ad,(some ⟨wd.heap.size,0,none⟩:Option Addr)=some ad→∀ k y,[((⟨v.number,hw0,bq,[]⟩,(none,0,0)):RI×PV)][k]?=some y→∀ j u,(ekR.enc y)[j]?=some u→WE.cell? (ad.add (k*ekR.size+j))=some u:=A6h xE rfl
          have hlen:(l'.length + [((⟨v.number,hw0,bq,[]⟩,(none,0,0)):RI×PV)].length)*ekR.bytes≤140737488355328:=by
           show(l'.length+1)*48≤_
           omega
          have hBs:W1.heap.size≤WE.heap.size:=hb1E.size
          have HL1:Hid (Row ekR WE W1.heap.size (.slice e0 e1 e2) l'):=i1
          have HL2:Hid (l'.map Prod.fst=acc++(v.bits.take k).map (fun n=>⟨v.number,A3t xf.kind,A5f xf.kind n,[]⟩)):=i2
          have HL3:Hid (∀ r∈l',RdL 1 YAt w r.2.v r.1.bytes∨Row ekY WE W1.heap.size r.2.v r.1.bytes):=i3
          have HSRC:Hid (∀ ad,(some ⟨wd.heap.size,0,none⟩:Option Addr)=some ad→∀ k y,[((⟨v.number,hw0,bq,[]⟩,(none,0,0)):RI×PV)][k]?=some y→∀ j u,(ekR.enc y)[j]?=some u→WE.cell? (ad.add (k*ekR.size+j))=some u):=hsrc
          have HLEN:Hid ((l'.length + [((⟨v.number,hw0,bq,[]⟩,(none,0,0)):RI×PV)].length)*ekR.bytes≤140737488355328):=hlen
          clear i1 i2 i3 xE hsrc hlen hl1
          go_wp2_with (at_builtin;rw[←HWE.out];refine A2b (by rfl) ekR _ _ (by rfl) W1.heap.size (.slice e0 e1 e2) l' [((⟨v.number,hw0,bq,[]⟩,(none,0,0)):RI×PV)] (by rfl) HL1.out (some ⟨wd.heap.size,0,none⟩) 1 1 (by rfl) rfl (fun h=>by cases h) HSRC.out (by decide) HLEN.out hBs ?_)
          intro v4 w4 hr4 hg4
          obtain⟨a4,n4,c4,rfl,_⟩:=hr4.shape'
          have hB4:Below W1.heap.size W1 w4:=hb1E.grown hg4 hBs (fun k hk=>(HL1.out.own k hk).1)
          have x9E:=(hbqE.block _ hwo).trans x9q
          have x94:=(hg4.block _ (Array.getElem?_eq_some_iff.1 x9E).1 (fun h=>HL1.out.ne_blk x9E (by decide) h.symm)).trans x9E
          have HN:Hid (RecL w w4 W1.heap.size (.slice a4 n4 c4) (acc++(v.bits.take (k+1)).map (fun n=>⟨v.number,A3t xf.kind,A5f xf.kind n,[]⟩))):=by
           have h:=RecL.app (W:=w) (o:=none) (m:=[⟨v.number,hw0,bq,[]⟩]) HL1.out HL2.out HL3.out rfl (fun r hr=>.inr (by rw[List.mem_singleton.1 hr];exact Row.nil _ _ _)) hr4 hg4 rfl
           show RecL _ _ _ _ _
           rw[List.take_add_one,Hq.out,List.map_append,←List.append_assoc]
           simp only[Option.toList_some,List.map_cons,List.map_nil]
           rw[HHW.out,Hbq.out]
           rw[HHW.out] at h
           exact h
          clear hr4 td0 td1 td2 td3
          go_wp2_with fail
          go_roundg (m1 - (k+1))
          case measure=>omega
          case rel=>exact⟨k+1,a4,n4,c4,by omega,rfl,by go_num,HN,x94,hB4⟩
         ·have ek:(xf.kind == 2)=false:=by simpa using hk2
          have Hb2:bq=q:=by
           rw[←Hbq.out]
           unfold A5f
           rw[if_neg hk2]
          clear hk2
          subst Hb2
          go_upto_region 22 with fail
          obtain⟨wd,Hwd⟩:∃ wd,wd=wc:=⟨_,rfl⟩
          subst Hwd
          have xd:=xc
          have hbd:=hbc
          clear tc0 tc1 tc2 tc3 tcf g2 xc hbc
          obtain⟨td0,td1,td2,td3⟩:=C1k xd
          obtain⟨WE,HWE⟩:∃ WE,Hid (WE=wd.alloc (.cells #[.int .i64 v.number,.int .i64 hw0,.int .u64 (bq:Int),.slice none 0 0] 65)):=⟨_,rfl⟩
          have hbE:Below wd.heap.size wd WE:=by rw[HWE.out];exact(Below.refl _ _).alloc (Nat.le_refl _) _
          have xE:WE.heap[wd.heap.size]?=some (.cells #[.int .i64 v.number,.int .i64 hw0,.int .u64 (bq:Int),.slice none 0 0] 65 (0,0)):=by rw[HWE.out];exact heap_alloc_new _ _
          have hbqE:Below wr.heap.size wr WE:=BTr hbd hbE
          have hb1E:Below W1.heap.size W1 WE:=BTr hbq hbqE
          obtain⟨l',i1,i2,i3⟩:=HUq.out.below hbqE
          have hl1:l'.length≤16*60+k:=by
           rw[←List.length_map (f:=Prod.fst),i2,List.length_append,List.length_map,List.length_take]
           have h1:=HU.out.2.1
           omega
          have hsrc:∀ ad,(some ⟨wd.heap.size,0,none⟩:Option Addr)=some ad→∀ k y,[((⟨v.number,hw0,bq,[]⟩,(none,0,0)):RI×PV)][k]?=some y→∀ j u,(ekR.enc y)[j]?=some u→WE.cell? (ad.add (k*ekR.size+j))=some u:=A6h xE rfl
          have hlen:(l'.length + [((⟨v.number,hw0,bq,[]⟩,(none,0,0)):RI×PV)].length)*ekR.bytes≤140737488355328:=by
           show(l'.length+1)*48≤_
           omega
          have hBs:W1.heap.size≤WE.heap.size:=hb1E.size
          have HL1:Hid (Row ekR WE W1.heap.size (.slice e0 e1 e2) l'):=i1
          have HL2:Hid (l'.map Prod.fst=acc++(v.bits.take k).map (fun n=>⟨v.number,A3t xf.kind,A5f xf.kind n,[]⟩)):=i2
          have HL3:Hid (∀ r∈l',RdL 1 YAt w r.2.v r.1.bytes∨Row ekY WE W1.heap.size r.2.v r.1.bytes):=i3
          have HSRC:Hid (∀ ad,(some ⟨wd.heap.size,0,none⟩:Option Addr)=some ad→∀ k y,[((⟨v.number,hw0,bq,[]⟩,(none,0,0)):RI×PV)][k]?=some y→∀ j u,(ekR.enc y)[j]?=some u→WE.cell? (ad.add (k*ekR.size+j))=some u):=hsrc
          have HLEN:Hid ((l'.length + [((⟨v.number,hw0,bq,[]⟩,(none,0,0)):RI×PV)].length)*ekR.bytes≤140737488355328):=hlen
          clear i1 i2 i3 xE hsrc hlen hl1
          go_wp2_with (at_builtin;rw[←HWE.out];refine A2b (by rfl) ekR _ _ (by rfl) W1.heap.size (.slice e0 e1 e2) l' [((⟨v.number,hw0,bq,[]⟩,(none,0,0)):RI×PV)] (by rfl) HL1.out (some ⟨wd.heap.size,0,none⟩) 1 1 (by rfl) rfl (fun h=>by cases h) HSRC.out (by decide) HLEN.out hBs ?_)
          intro v4 w4 hr4 hg4
          obtain⟨a4,n4,c4,rfl,_⟩:=hr4.shape'
          have hB4:Below W1.heap.size W1 w4:=hb1E.grown hg4 hBs (fun k hk=>(HL1.out.own k hk).1)
          have x9E:=(hbqE.block _ hwo).trans x9q
          have x94:=(hg4.block _ (Array.getElem?_eq_some_iff.1 x9E).1 (fun h=>HL1.out.ne_blk x9E (by decide) h.symm)).trans x9E
          have HN:Hid (RecL w w4 W1.heap.size (.slice a4 n4 c4) (acc++(v.bits.take (k+1)).map (fun n=>⟨v.number,A3t xf.kind,A5f xf.kind n,[]⟩))):=by
           have h:=RecL.app (W:=w) (o:=none) (m:=[⟨v.number,hw0,bq,[]⟩]) HL1.out HL2.out HL3.out rfl (fun r hr=>.inr (by rw[List.mem_singleton.1 hr];exact Row.nil _ _ _)) hr4 hg4 rfl
           show RecL _ _ _ _ _
           rw[List.take_add_one,Hq.out,List.map_append,←List.append_assoc]
           simp only[Option.toList_some,List.map_cons,List.map_nil]
           rw[HHW.out,Hbq.out]
           rw[HHW.out] at h
           exact h
          clear hr4 td0 td1 td2 td3
          go_wp2_with fail
          go_roundg (m1 - (k+1))
          case measure=>omega
          case rel=>exact⟨k+1,a4,n4,c4,by omega,rfl,by go_num,HN,x94,hB4⟩
       ·have hkn:¬ (k:Int) < (m1:Int):=by omega
        have HN:Hid (RecL w wr W1.heap.size (.slice e0 e1 e2) (acc++(D5r (D5q g 11) xf v).1)∧(acc++(D5r (D5q g 11) xf v).1).length≤(i+1)*60∧acc++(D5r (D5q g 11) xf v).1=D6a g M.fields ((BO.vals x').take (i+1))∧∀ u∈(BO.vals x').take (i+1),(D5r (D5q g 11) (A1n M.fields u.number) u).2=0):=by
         have hu:(D5r (D5q g 11) xf v)=(v.bits.map (fun n=>⟨v.number,A3t xf.kind,A5f xf.kind n,[]⟩),0):=by unfold D5r;rw[if_pos HC.out]
         refine⟨?_,?_,?_,unp_take Hv.out HU.out.2.2.2 (by rw[HEF.out,hu])⟩
         ·have h:=HUq.out
          rw[List.take_of_length_le (by rw[←K1.out];omega)] at h
          rw[hu]
          exact h
         ·have h1:=HU.out.2.1
          have h2:=HW60.out
          rw[List.length_append]
          omega
         ·rw[unpL_succ Hv.out,HEF.out,←HU.out.2.2.1]
        go_wp2_with fail
        go_roundg (n0 - (i+1))
        case measure=>omega
        case rel=>exact⟨i+1,e0,e1,e2,_,by omega,rfl,by go_num,HN,hbq⟩
   ·have hnl:¬ (i:Int) < (n0:Int):=by omega
    have HT:Hid (acc=D6a g M.fields (BO.vals x')∧∀ v∈BO.vals x',(D5r (D5q g 11) (A1n M.fields v.number) v).2=0):=by
     have h:=HU.out
     rw[List.take_of_length_le (by rw[←Hn0.out];omega)] at h
     exact⟨h.2.2.1,h.2.2.2⟩
    obtain⟨B2,E2,HB2⟩:∃ B2 E2,Hid (A2m [] (acc++BO.unk x')=(B2,E2)):=⟨_,_,rfl⟩
    have hE2:E2=0∨E2=4:=by
     have h:=C4d (acc++BO.unk x') [] (fun r hr=>by
      rcases List.mem_append.1 hr with hr|hr
      ·rw[HT.out.1] at hr
       obtain⟨v,hv,hr⟩:=List.mem_flatMap.1 hr
       obtain⟨xf,hxf⟩:=HR.out.each v hv
       rw[A2y hxf.fld] at hr
       exact(D5t HRL.out (List.mem_of_getElem? HM.out) (deep:=D5q g 11) (fun t x=>A8i g 11 (A4z g t) x) hxf).1 r hr
      ·exact(B8z ((A2g HE.out).2.2 r hr)).1)
     rw[HB2.out] at h
     exact h
    have HPZ:Hid (E2=0→A2d g (j:Int) B2 = .ok x'):=fun h0=>by
     rw[B0x HRL.out HM.out]
     have h:=D6d HRL.out (List.mem_of_getElem? HM.out) HE.out (C6g 12 x' HOK.out) HT.out.2 (by rw[←HT.out.1,HB2.out];exact h0)
     rw[←HT.out.1,HB2.out] at h
     exact h
    obtain⟨y2,y3⟩:=A0v ((hbr.block _ (by omega)).trans x2)
    obtain⟨m',j2,j3,q1,q2,q3⟩:=D2l HX.out.2
    obtain⟨l',i1,i2,i3⟩:=HU.out.1
    have hl1:l'.length≤960:=by
     rw[←List.length_map (f:=Prod.fst),i2]
     have:=HU.out.2.1
     omega
    have hl2:m'.length*48≤reachBytes:=by rw[←List.length_map (f:=Prod.fst),j2];exact HOK.out.2.2.2
    have HQ3:Hid (∀ ad,a1=some ad→∀ k y,m'[k]?=some y→∀ j u,(ekR.enc y)[j]?=some u→wr.cell? (ad.add (k*ekR.size+j))=some u):=fun ad had k y hy j u hu=>A0c hbwr (q3 ad had k y hy j u hu)
    have HL1:Hid (Row ekR wr W1.heap.size (.slice u0 u1 u2) l'):=i1
    have HL2:Hid (l'.map Prod.fst=acc):=i2
    have HL3:Hid (∀ r∈l',RdL 1 YAt w r.2.v r.1.bytes∨Row ekY wr W1.heap.size r.2.v r.1.bytes):=i3
    have HJ2:Hid (m'.map Prod.fst=BO.unk x'):=j2
    have HJ3:Hid (∀ r∈m',RdL 1 YAt w r.2.v r.1.bytes):=j3
    have HQ1:Hid (m'.length=n1):=q1
    have HQ2:Hid (a1=none→n1=0∧c1=0):=q2
    have HE2:Hid (E2=0∨E2=4):=hE2
    have HD1:Hid (l'.length*48≤140737488355328):=by show _≤_;omega
    have HD2:Hid ((l'.length+m'.length)*48≤200000000000000):=by
     show _≤_
     unfold reachBytes at hl2
     omega
    clear q3 i1 i2 i3 j2 j3 q1 q2 hE2 hl1 hl2
    go_wp2_with (at_builtin;refine B9d (by rfl) ekR rfl _ _ (by rfl) W1.heap.size (.slice u0 u1 u2) l' m' (by rfl) HL1.out a1 n1 c1 (by rfl) HQ1.out HQ2.out HQ3.out HD1.out HD2.out hzr ?_)
    intro v' w6 hr6 hg6
    obtain⟨a6,n6,c6,rfl,_⟩:=hr6.shape'
    have hB6:Below W1.heap.size W1 w6:=hbr.grown hg6 hzr (fun k hk=>(HL1.out.own k hk).1)
    have hbw6:Below w.heap.size w w6:=BTr hb1 hB6
    have hq6:RecL w w6 W1.heap.size (.slice a6 n6 c6) (acc++BO.unk x'):=RecL.app (o:=none) HL1.out HL2.out HL3.out HJ2.out (fun r hr=>.inl (HJ3.out r hr)) hr6 hg6 rfl
    have hby:=A9b (hq6.rd hbw6) (fun r hr=>by
     rcases List.mem_append.1 hr with hr|hr
     ·rw[HT.out.1] at hr
      obtain⟨v,hv,hr⟩:=List.mem_flatMap.1 hr
      obtain⟨xf,hxf⟩:=HR.out.each v hv
      have hb:=D5x (deep:=D5q g 11) (x:=A1n M.fields v.number) (fun m hm=>(HOK.out.1 v hv).2.1 m hm) r hr
      rw[A2y hxf.fld] at hr
      have h:=(D5t HRL.out (List.mem_of_getElem? HM.out) (deep:=D5q g 11) (fun t x=>A8i g 11 (A4z g t) x) hxf).1 r hr
      exact⟨hb,by have:=B6s h;omega⟩
     ·have h:=(B8z ((A2g HE.out).2.2 r hr)).1
      exact⟨by have:=(HOK.out.2.2.1 r hr).2.2.1;omega,by have:=B6s h;omega⟩)
    rw[HB2.out] at hby
    clear hr6 hq6 y2 y3
    go_wp2_with fail
    refine hby.mono ?_
    rintro e w7 ⟨a7,n7,c7,at7,rfl,hr7,hb7⟩
    obtain⟨W8,HW8⟩:∃ W8,Hid (W8=w7.alloc (.cells #[.int .i64 E2,.int .i64 at7] 60)):=⟨_,rfl⟩
    have hb8:Below w7.heap.size w7 W8:=by rw[HW8.out];exact(Below.refl _ _).alloc (Nat.le_refl _) _
    have x8:W8.heap[w7.heap.size]?=some (.cells #[.int .i64 E2,.int .i64 at7] 60 (0,0)):=by rw[HW8.out];exact heap_alloc_new _ _
    have hb18:Below W1.heap.size W1 W8:=BTr hB6 (BTr hb7 hb8)
    have hbw8:Below w.heap.size w W8:=BTr hb1 hb18
    clear hby
    go_upto_region 26 with fail
    rw[←HW8.out]
    obtain⟨t0,t1⟩:=A0v x8
    rcases HE2.out with rfl|rfl
    ·have hP:=HPZ.out rfl
     obtain⟨y0,y1⟩:=A0v ((hb18.block _ (by omega)).trans x1)
     have e00:((0:Int) != 0)=false:=rfl
     have hpaZ:Calls Tryz.prog 14 #[.agg #[.slice (some ⟨bm,om,none⟩) nm cm,.slice ae ne ce],.int .i64 (j:Int),.slice a7 n7 c7] W8 fun e w'=>∃ (i0:Option Addr) (j0 l0:Nat) (i1:Option Addr) (j1 l1:Nat) (E:Int),e = .returned (.tuple #[.agg #[.slice i0 j0 l0,.slice i1 j1 l1],.int .i64 E])∧Hid (DRes 12 W8.heap.size (.ok x') i0 j0 l0 i1 j1 l1 E w')∧Below W8.heap.size W8 w':=by
      refine(A3a (HI.out.below hbw8) ((hr7.below hb8).rdY)).mono ?_
      intro e w' ho
      rw[hP] at ho
      obtain⟨i0,j0,l0,i1,j1,l1,E,h1,h2,h3⟩:=ho.open
      exact⟨i0,j0,l0,i1,j1,l1,E,h1,h2,h3⟩
     go_wp2_with fail
     refine hpaZ.mono ?_
     rintro e w9 ⟨i0,j0,l0,i1,j1,l1,E,rfl,HRes,hb9⟩
     obtain⟨hE0,cc,hc1,hc2,hc3,hc4⟩:=HRes.out
     subst hE0
     have HSR:Hid (BRd 11 w9 (.slice i0 j0 l0) (.slice i1 j1 l1) x'):=by
      have h1:=OwnB.rd (show OwnB W8.heap.size (11+1) w9 cc from hc3)
      have h2 : [PV.v (BL.q0 cc),PV.v (BL.q1 cc)] = [.slice i0 j0 l0,.slice i1 j1 l1]:=hc1
      simp only[List.cons.injEq,and_true] at h2
      rw[h2.1,h2.2,show LB.pl (11+1) cc=x' from hc2] at h1
      exact h1
     obtain⟨W10,HW10⟩:∃ W10,Hid (W10=w9.alloc (.cells #[.slice i0 j0 l0,.slice i1 j1 l1] 29)):=⟨_,rfl⟩
     have hb10:Below w9.heap.size w9 W10:=by rw[HW10.out];exact(Below.refl _ _).alloc (Nat.le_refl _) _
     have x10:W10.heap[w9.heap.size]?=some (.cells #[.slice i0 j0 l0,.slice i1 j1 l1] 29 (0,0)):=by rw[HW10.out];exact heap_alloc_new _ _
     have z10:w9.heap.size+1≤W10.heap.size:=by rw[HW10.out];simp
     have hb810:Below W8.heap.size W8 W10:=BTr hb9 hb10
     have hb110:Below W1.heap.size W1 W10:=BTr hb18 hb810
     have hsm:=A5g (HX.out.below (BTr hb1 hb110)) (HSR.out.below hb10)
     clear y0 y1 t0 t1 hpaZ hc1 hc2 hc3 hc4
     obtain⟨y2,y3⟩:=A0v ((hb110.block _ (by omega)).trans x2)
     obtain⟨y4,y5⟩:=A0v x10
     rw[HW10.out] at y2 y3 y4 y5
     go_wp2_with fail
     rw[←HW10.out]
     refine hsm.mono ?_
     rintro e w11 ⟨rfl,hb11⟩
     go_wp2
     go_ret
     exact⟨rfl,BTr (BTr hb1 hb110) hb11⟩
    ·have e4:((4:Int) != 0)=true:=rfl
     have e44:((4:Int) == 4)=true:=rfl
     go_wp2
     go_ret
     exact⟨rfl,hbw8⟩
 ·have eQ:(Q != 0)=true:=by simpa using hQ0
  clear hQ0
  go_wp2
  go_ret
  exact⟨rfl,hbw3⟩
end L
end Go.Proofs.YtcagbdokbnpdfaaGreatDoor
