import Derived.Test.YtelmjekjohbmjaaGreatDoorY27
import Derived.Test.YtelmjekjohbmjaaGreatDoorY28
import Derived.Test.YtelmjekjohbmjaaGreatDoorY11
import Derived.Deep.DeepBigQuietO
import Derived.Deep.CutRange
import Derived.Deep.DeepCutAuto
import Derived.Deep.CutBlock
namespace Go.Proofs.YtelmjekjohbmjaaGreatDoor
namespace L
open Go.RowKit
set_option linter.unusedVariables false
abbrev QV (d:Nat):=VI (BI d)×PV×PV×PV
def C2f {d:Nat}(q:QV d):List Value:=[.int .i64 q.1.number,q.2.1.v,q.2.2.1.v,q.2.2.2.v]
def B5a (d:Nat):EK (QV d) where
 elem:=34
 slice:=26
 size:=4
 bytes:=80
 zero:=.agg #[.int .i64 0,.slice none 0 0,.slice none 0 0,.slice none 0 0]
 enc:=C2f
 under:=Tryz.underlying26
 info:=by kernel_rfl
 zs:=rfl
 pos:=by decide
 small:=by decide
 len:=fun _=>rfl
 one:=by intro a u hu;simp only[C2f,List.mem_cons,List.mem_nil_iff,or_false] at hu;rcases hu with rfl|rfl|rfl|rfl <;> rfl
def QRd (d:Nat) (w:World) (q:QV d):Prop:=RdL 1 UAt w q.2.1.v q.1.bits∧RdL 1 ZAt w q.2.2.1.v q.1.bytes∧RdL 2 (BAt d) w q.2.2.2.v q.1.subs
theorem QRd.below {d:Nat}{w w':World}{q:QV d}(h:QRd d w q) (hb:Below w.heap.size w w'):QRd d w' q:=⟨h.1.below UAt.stays hb,h.2.1.below ZAt.stays hb,h.2.2.below (BAt.stays d) hb⟩
theorem QRd.sub {d:Nat}{w w':World}{q:QV d}(h:QRd d w q) (hb:Sub w w'):QRd d w' q:=⟨h.1.sub UAt.grows hb,h.2.1.sub ZAt.grows hb,h.2.2.sub (BAt.grows d) hb⟩
theorem Row.rdQ {d:Nat}{w w':World}{base:Nat}{v:Value}{qs:List (QV d)}(h:Row (B5a d) w' base v qs) (hq:∀ q∈qs,QRd d w q) (hb:Sub w w'):RdL 4 (VAt (BAt d)) w' v (qs.map Prod.fst):=by
 refine RdL.mapB _ (h.rd (fun w x (q:QV d)=>w.cell? x=some (.int .i64 q.1.number)∧w.cell? (x.add 1)=some q.2.1.v∧w.cell? (x.add 2)=some q.2.2.1.v∧w.cell? (x.add 3)=some q.2.2.2.v) fun g i a hc=>?_) ?_
 ·refine⟨by simpa using hc 0 _ rfl,?_,?_,?_⟩ <;> rw[A0j]
  ·exact hc 1 _ rfl
  ·exact hc 2 _ rfl
  ·exact hc 3 _ rfl
 ·rintro x q hv ⟨h0,h1,h2,h3⟩
  obtain⟨g1,g2,g3⟩:=(hq q hv).sub hb
  exact⟨q.2.1.v,q.2.2.1.v,q.2.2.2.v,h0,h1,h2,h3,g1,g2,g3⟩
theorem A4w (w:World) (o1 o2 o3 o4:Obj):((((w.alloc o1).alloc o2).alloc o3).alloc o4).heap[w.heap.size]?=some o1∧((((w.alloc o1).alloc o2).alloc o3).alloc o4).heap[w.heap.size+1]?=some o2∧((((w.alloc o1).alloc o2).alloc o3).alloc o4).heap[w.heap.size+2]?=some o3∧((((w.alloc o1).alloc o2).alloc o3).alloc o4).heap[w.heap.size+3]?=some o4∧((((w.alloc o1).alloc o2).alloc o3).alloc o4).heap.size=w.heap.size+4:=by
 have z1:(w.alloc o1).heap.size=w.heap.size+1:=by simp
 have z2:((w.alloc o1).alloc o2).heap.size=w.heap.size+2:=by simp
 have z3:(((w.alloc o1).alloc o2).alloc o3).heap.size=w.heap.size+3:=by simp
 refine⟨?_,?_,?_,?_,by simp⟩
 ·rw[Below.heap_alloc _ _ _ (by omega),Below.heap_alloc _ _ _ (by omega),Below.heap_alloc _ _ _ (by omega)];exact heap_alloc_new w o1
 ·rw[Below.heap_alloc _ _ _ (by omega),Below.heap_alloc _ _ _ (by omega),←z1];exact heap_alloc_new _ o2
 ·rw[Below.heap_alloc _ _ _ (by omega),←z2];exact heap_alloc_new _ o3
 ·rw[←z3];exact heap_alloc_new _ o4
theorem A3e {α:Type}{p : α→Bool}{l:List α}{x : α}(h:l.find? p=some x):∃ j,l[j]?=some x∧p x=true∧∀ a∈l.take j,p a=false:=by
 obtain⟨h1,la,lb,e,h2⟩:=List.find?_eq_some_iff_append.1 h
 refine⟨la.length,by rw[e];simp,h1,fun a ha=>?_⟩
 rw[e,List.take_left'] at ha
 ·simpa using h2 a ha
 ·rfl
set_option maxHeartbeats 4000000 in
set_option maxRecDepth 100000 in
theorem B2q {d:Nat}{u w:World}(hsu:Sub u w){fs:List FI}{s:List UInt8}{af ab:Option Addr}{nf cf nb cb:Nat}(hf:RdL 6 FAt w (.slice af nf cf) fs){a0 a1:Option Addr}{n0 c0 n1 c1:Nat}{l:List (VI (BI d))}(hq:RdL 4 (VAt (BAt d)) u (.slice a0 n0 c0) l){y:VI (BI d)}{x:FI}(hx:fs.find? (isF y.number)=some x){b1 b2 b3:Option Addr}{m1 d1 m2 d2 m3 d3:Nat}(r1:RdL 1 UAt u (.slice b1 m1 d1) y.bits) (r2:RdL 1 ZAt u (.slice b2 m2 d2) y.bytes) (r3:RdL 2 (BAt d) u (.slice b3 m3 d3) y.subs) (hlen:(l.length+1)*80≤140737488355328) :
  Calls Tryz.prog 20 #[.agg #[.string (S s),.slice af nf cf,.slice ab nb cb],.agg #[.slice a0 n0 c0,.slice a1 n1 c1],.agg #[.int .i64 y.number,.slice b1 m1 d1,.slice b2 m2 d2,.slice b3 m3 d3]] w fun e w'=>∃ (ao:Option Addr) (n c:Nat),e = .returned (.agg #[.slice ao n c,.slice a1 n1 c1])∧(∀ u',Over u w w' u'→RdL 4 (VAt (BAt d)) u' (.slice ao n c) (A3l fs x y (!A1s x y) l))∧Below w.heap.size w w':=by
 obtain⟨jf,hj1,hj2,hj3⟩:=A3e hx
 have hjn:x.number=y.number:=A6p hx
 obtain⟨bf,of',rfl,hfa⟩:=hf.get FAt.plain hj1
 have Hn:Hid (n0=l.length):=hq.len.1
 have hn0:n0≤1759218604441:=by have:=Hn.out;omega
 obtain⟨W0,HW0⟩:∃ W0,Hid (W0=(((w.alloc (.cells #[.string (S s),.slice (some ⟨bf,of',none⟩) nf cf,.slice ab nb cb] 48)).alloc (.cells #[.slice a0 n0 c0,.slice a1 n1 c1] 29)).alloc (.cells #[.int .i64 y.number,.slice b1 m1 d1,.slice b2 m2 d2,.slice b3 m3 d3] 34)).alloc (.cells #[.slice none 0 0,.slice none 0 0] 29)):=⟨_,rfl⟩
 obtain⟨x0,x1,x2,x3,z0⟩:=A4w w (.cells #[.string (S s),.slice (some ⟨bf,of',none⟩) nf cf,.slice ab nb cb] 48) (.cells #[.slice a0 n0 c0,.slice a1 n1 c1] 29) (.cells #[.int .i64 y.number,.slice b1 m1 d1,.slice b2 m2 d2,.slice b3 m3 d3] 34) (.cells #[.slice none 0 0,.slice none 0 0] 29)
 rw[←HW0.out] at x0 x1 x2 x3 z0
 have hb0:Below w.heap.size w W0:=by rw[HW0.out];exact((((Below.refl _ _).alloc (Nat.le_refl _) _).alloc (by simp) _).alloc (by simp;omega) _).alloc (by simp;omega) _
 have hz0:w.heap.size+4≤W0.heap.size:=Nat.le_of_eq z0.symm
 clear z0
 have hcl:∀ V,Below W0.heap.size W0 V→(V.cell? ⟨w.heap.size,0,none⟩=some (.string (S s))∧V.cell? ⟨w.heap.size,1,none⟩=some (.slice (some ⟨bf,of',none⟩) nf cf)∧V.cell? ⟨w.heap.size,2,none⟩=some (.slice ab nb cb))∧(V.cell? ⟨w.heap.size+1,0,none⟩=some (.slice a0 n0 c0)∧V.cell? ⟨w.heap.size+1,1,none⟩=some (.slice a1 n1 c1))∧(V.cell? ⟨w.heap.size+2,0,none⟩=some (.int .i64 y.number)∧V.cell? ⟨w.heap.size+2,1,none⟩=some (.slice b1 m1 d1)∧V.cell? ⟨w.heap.size+2,2,none⟩=some (.slice b2 m2 d2)∧V.cell? ⟨w.heap.size+2,3,none⟩=some (.slice b3 m3 d3))∧V.heap[w.heap.size+3]?=some (.cells #[.slice none 0 0,.slice none 0 0] 29 (0,0)):=fun V hV=>by
  refine⟨A6o ((hV.block _ (by omega)).trans x0),A0x ((hV.block _ (by omega)).trans x1),A2w ((hV.block _ (by omega)).trans x2),(hV.block _ (by omega)).trans x3⟩
 have hw:∀ V,Below W0.heap.size W0 V→Below w.heap.size w V:=fun V hV=>BTr hb0 hV
 have HQ:Hid (RdL 4 (VAt (BAt d)) u (.slice a0 n0 c0) l):=hq
 have HF:Hid (RdL 6 FAt w (.slice (some ⟨bf,of',none⟩) nf cf) fs):=hf
 have HX:Hid (fs.find? (isF y.number)=some x):=hx
 have HFA:Hid (FAt w ⟨bf,of'+jf*6,none⟩ x):=hfa
 have HY:Hid (QRd d u (y,(b1,m1,d1),(b2,m2,d2),(b3,m3,d3))):=⟨r1,r2,r3⟩
 have hfn:=A3v (nm:=.string (S s)) (vb:=.slice ab nb cb) (hf.below FAt.stays hb0) ⟨_,_,_,rfl⟩ ⟨_,rfl⟩ y.number hj1 hjn hj3
 obtain⟨R,HR⟩:∃ R,Hid (R=A3l fs x y (!A1s x y) l):=⟨_,rfl⟩
 rw[←HR.out]
 have hRl:R.length*80≤140737488355328:=by
  have:=B0o (fs:=fs) (x:=x) (y:=y) (!A1s x y) l
  rw[←HR.out] at this
  have h2:R.length≤l.length+1:=Nat.le_trans this (by split <;> omega)
  omega
 have HRL:Hid (R.length*80≤140737488355328):=hRl
 clear hf hq hx hfa r1 r2 r3 hj1 hj2 hj3 hjn x0 x1 x2 x3 hlen hRl
 obtain⟨⟨p0,p1,p2⟩,⟨p3,p4⟩,⟨p5,p6,p7,p8⟩,x9⟩:=hcl W0 (Below.refl _ _)
 go_enter Tryz.func20,Tryz.ntmps20
 go_upto_region 1 with fail
 rw[←HW0.out]
 go_wp2_with fail
 refine hfn.mono ?_
 rintro e V ⟨⟨b',o',e',rfl⟩,hbV⟩
 cases e'
 clear p0 p1 p2 p3 p4 p5 p6 p7 p8 x9 hfn
 obtain⟨⟨p0,p1,p2⟩,⟨p3,p4⟩,⟨p5,p6,p7,p8⟩,x9⟩:=hcl V hbV
 have hem:=A8n (P:=BAt d) (a3:=b3) (n3:=m3) (c3:=d3) (FAt.stays _ _ _ _ (hw V hbV) HFA.out) y ((HY.out.sub hsu).below (hw V hbV)).1 ((HY.out.sub hsu).below (hw V hbV)).2.1
 obtain⟨E0,HE0⟩:∃ E0,Hid (A1s x y=E0):=⟨_,rfl⟩
 rw[HE0.out] at hem
 rw[HE0.out] at HR
 go_wp2_with fail
 refine hem.mono ?_
 rintro e V1 ⟨rfl,hb1⟩
 have hB1:=BTr hbV hb1
 clear p0 p1 p2 p3 p4 p5 p6 p7 p8 x9 hem
 obtain⟨⟨p0,p1,p2⟩,⟨p3,p4⟩,⟨p5,p6,p7,p8⟩,x9⟩:=hcl V1 hB1
 go_wp2_with fail
 go_loopg [8,9,27] n0 (fun gm s8 s9 i wr=>∃ (k:Nat) (a':Option Addr) (n' c':Nat) (pt:Bool) (qs:List (QV d)),k+gm=n0∧i = .int .i64 k∧s8 = .bool pt∧s9 = .slice a' n' c'∧Row (B5a d) wr W0.heap.size (.slice a' n' c') qs∧Hid (∀ q∈qs,QRd d u q)∧Hid (qs.map Prod.fst++A3l fs x y pt (l.drop k)=R)∧Below W0.heap.size W0 wr)
 case atStart=>exact⟨0,none,0,0,!E0,[],by omega,rfl,rfl,rfl,Row.nil _ _ _,fun q h=>by simp at h,HR.out.symm,hB1⟩
 case round=>
  obtain⟨k,a',n',c',pt,qs,hk,rfl,rfl,rfl,hrow,HQS,HS,hbr⟩:=hrel
  clear p0 p1 p2 p3 p4 p5 p6 p7 p8 x9
  obtain⟨⟨p0,p1,p2⟩,⟨p3,p4⟩,⟨p5,p6,p7,p8⟩,x9⟩:=hcl wr hbr
  have hzr:=hbr.size
  by_cases hlt:k < n0
  ·have hki:(k:Int) < (n0:Int):=by omega
   obtain⟨a,Ha⟩:∃ a,Hid (l[k]?=some a):=⟨l[k]'(by rw[←Hn.out];exact hlt),List.getElem?_eq_getElem _⟩
   obtain⟨bv,ov,e',hva⟩:=HQ.out.get VAt.plain Ha.out
   have HSt:=B9m (fs:=fs) (x:=x) (y:=y) pt Ha.out
   obtain⟨bv',ov',e'',hvw⟩:=HQ.out.get VAt.plain Ha.out
   subst e'
   cases e''
   obtain⟨u1,u2,u3,y0,y1,y2,y3,t1,t2,t3⟩:=hvw.at
   obtain⟨g1,i1,j1,rfl,_,_⟩:=t1.shape
   obtain⟨g2,i2,j2,rfl,_,_⟩:=t2.shape
   obtain⟨g3,i3,j3,rfl,_,_⟩:=t3.shape
   have HQA:Hid (QRd d u (a,(g1,i1,j1),(g2,i2,j2),(g3,i3,j3))):=⟨t1,t2,t3⟩
   have y0:=A0c (hw wr hbr) (hsu _ _ y0)
   have y1:=A0c (hw wr hbr) (hsu _ _ y1)
   have y2:=A0c (hw wr hbr) (hsu _ _ y2)
   have y3:=A0c (hw wr hbr) (hsu _ _ y3)
   obtain⟨W5,HW5⟩:∃ W5,Hid (W5=wr.alloc (.cells #[.int .i64 a.number,.slice g1 i1 j1,.slice g2 i2 j2,.slice g3 i3 j3] 34)):=⟨_,rfl⟩
   have hb5:Below wr.heap.size wr W5:=by rw[HW5.out];exact(Below.refl _ _).alloc (Nat.le_refl _) _
   have x5:W5.heap[wr.heap.size]?=some (.cells #[.int .i64 a.number,.slice g1 i1 j1,.slice g2 i2 j2,.slice g3 i3 j3] 34 (0,0)):=by rw[HW5.out];exact heap_alloc_new _ _
   have hz5:wr.heap.size < W5.heap.size:=(Array.getElem?_eq_some_iff.1 x5).1
   have hB5:Below W0.heap.size W0 W5:=hbr.trans (hb5.mono hzr)
   have hrow5:=hrow.below hb5
   have hown5:∀ j,(Value.slice a' n' c').ownBlock=some j→W0.heap.size≤j∧j < wr.heap.size:=hrow.own
   obtain⟨pB,HpB⟩:∃ pB,Hid ((pt&&decide (y.number < a.number))=pB):=⟨_,rfl⟩
   obtain⟨oB,HoB⟩:∃ oB,Hid (A0m fs x a.number=oB):=⟨_,rfl⟩
   have HT:Hid (qs.map Prod.fst++((if pB then [y] else [])++((if oB then [] else [a])++A3l fs x y (pt&&!decide (y.number < a.number)) (l.drop (k+1))))=R):=by
    show _=_
    rw[←HS.out,HSt,HpB.out,HoB.out]
   clear hva hvw HSt t1 t2 t3 HS
   go_upto_region 9 with fail
   rw[←HW5.out]
   clear p0 p1 p2 p3 p4 p5 p6 p7 p8 x9 y0 y1 y2 y3
   obtain⟨⟨p0,p1,p2⟩,⟨p3,p4⟩,⟨p5,p6,p7,p8⟩,x9⟩:=hcl W5 hB5
   obtain⟨y0,y1,y2,y3⟩:=A2w x5
   go_cut [38] from 31 to 37 (fun s38 wc=>s38 = .bool pB∧W5=wc)
   case first=>
    cases pt with
    | false=>
     have h1:pB=false:=by rw[←HpB.out];rfl
     subst h1
     go_wp2_with fail
     go_meet
     exact⟨rfl,rfl⟩
    | true=>
     have h1:pB=decide (y.number < a.number):=by rw[←HpB.out];rfl
     subst h1
     go_wp2_with fail
     go_meet
     exact⟨rfl,rfl⟩
   case rest=>
   obtain⟨rfl,rfl⟩:=hcut
   obtain⟨pN,HpN⟩:∃ pN,Hid ((pt&&!decide (y.number < a.number))=pN):=⟨_,rfl⟩
   rw[HpN.out] at HT
   go_upto_if 38 with fail
   go_cut [8,9] from 39 to 42 (fun s8 s9 wc=>∃ (a':Option Addr) (n' c':Nat) (qs':List (QV d)),s8 = .bool pN∧s9 = .slice a' n' c'∧Row (B5a d) wc W0.heap.size (.slice a' n' c') qs'∧Hid (∀ q∈qs',QRd d u q)∧Hid (qs'.map Prod.fst++((if oB then [] else [a])++A3l fs x y pN (l.drop (k+1)))=R)∧wc.heap[wr.heap.size]?=some (.cells #[.int .i64 a.number,.slice g1 i1 j1,.slice g2 i2 j2,.slice g3 i3 j3] 34 (0,0))∧Below W0.heap.size W0 wc)
   case first=>
    cases pB with
    | false=>
     have h1:pt=pN:=by
      rw[←HpN.out]
      have:=HpB.out
      revert this
      generalize decide (y.number < a.number)=D
      cases pt <;> cases D <;> simp
     have HT2:Hid (qs.map Prod.fst++((if oB then [] else [a])++A3l fs x y pN (l.drop (k+1)))=R):=by
      show _=_
      rw[←HT.out]
      rfl
     subst h1
     go_wp2_with fail
     go_meet
     exact⟨a',n',c',qs,rfl,rfl,hrow5,HQS,HT2,x5,hB5⟩
    | true=>
     have h1:pN=false:=by
      rw[←HpN.out]
      have:=HpB.out
      revert this
      generalize decide (y.number < a.number)=D
      cases pt <;> cases D <;> simp
     have HT2:Hid ((qs++[(y,(b1,m1,d1),(b2,m2,d2),(b3,m3,d3))]).map Prod.fst++((if oB then [] else [a])++A3l fs x y pN (l.drop (k+1)))=R):=by
      show _=_
      rw[←HT.out,List.map_append,if_pos rfl,List.append_assoc]
      rfl
     have hlen:(qs.length+([(y,(b1,m1,d1),(b2,m2,d2),(b3,m3,d3))]:List (QV d)).length)*(B5a d).bytes≤140737488355328:=by
      have h3:=congrArg List.length HT2.out
      rw[List.length_append,List.length_map,List.length_append] at h3
      have h4:=HRL.out
      show(qs.length+_)*80≤_
      have:qs.length+([(y,(b1,m1,d1),(b2,m2,d2),(b3,m3,d3))]:List (QV d)).length≤R.length:=by omega
      omega
     obtain⟨W6,HW6⟩:∃ W6,Hid (W6=W5.alloc (.cells #[.int .i64 y.number,.slice b1 m1 d1,.slice b2 m2 d2,.slice b3 m3 d3] 34)):=⟨_,rfl⟩
     have hb6:Below W5.heap.size W5 W6:=by rw[HW6.out];exact(Below.refl _ _).alloc (Nat.le_refl _) _
     have x6:W6.heap[W5.heap.size]?=some (.cells #[.int .i64 y.number,.slice b1 m1 d1,.slice b2 m2 d2,.slice b3 m3 d3] 34 (0,0)):=by rw[HW6.out];exact heap_alloc_new _ _
     have hrow6:=hrow5.below hb6
     have hsrc:=A4o (E:=B5a d) (y0:=(y,(b1,m1,d1),(b2,m2,d2),(b3,m3,d3))) x6 rfl
     have hB6:Below W0.heap.size W0 W6:=hB5.trans (hb6.mono (by omega))
     have hx6:=(hb6.block _ hz5).trans x5
     have hz6:=hb6.size
     subst h1
     go_wp2_with (at_builtin;rw[←HW6.out];refine A5d rfl (B5a d) _ _ rfl W0.heap.size _ qs [(y,(b1,m1,d1),(b2,m2,d2),(b3,m3,d3))] rfl hrow6 (some ⟨W5.heap.size,0,none⟩) 1 1 rfl rfl (fun h=>by cases h) hsrc (show 1≤80 by omega) hlen hB6.size ?_)
     intro v7 w7 hr7 hg7
     obtain⟨a7,n7,c7,rfl,_⟩:=hr7.shape'
     have hB7:Below W0.heap.size W0 w7:=hB6.grown hg7 hB6.size (fun j hj=>(hown5 j hj).1)
     have hx7:=(hg7.block wr.heap.size (by omega) (fun e=>by have:=(hown5 _ e.symm).2;omega)).trans hx6
     go_wp2_with fail
     go_meet
     refine⟨a7,n7,c7,qs++[(y,(b1,m1,d1),(b2,m2,d2),(b3,m3,d3))],rfl,rfl,hr7,?_,HT2,hx7,hB7⟩
     intro q hq
     rcases List.mem_append.1 hq with h|h
     ·exact HQS.out q h
     ·rw[List.mem_singleton.1 h];exact HY.out
   case rest=>
    obtain⟨a6,n6,c6,qs6,rfl,rfl,hrow6,HQ6,HT6,x6,hB6⟩:=hcut
    clear p0 p1 p2 p3 p4 p5 p6 p7 p8 x9 y0 y1 y2 y3 hrow hrow5 hown5 HT HQS x5 hb5
    obtain⟨⟨p0,p1,p2⟩,⟨p3,p4⟩,⟨p5,p6,p7,p8⟩,x9⟩:=hcl wc hB6
    obtain⟨y0,y1,y2,y3⟩:=A2w x6
    have hzc:wr.heap.size < wc.heap.size:=(Array.getElem?_eq_some_iff.1 x6).1
    have HFL:Hid (RdL 6 FAt wc (.slice (some ⟨bf,of',none⟩) nf cf) fs):=HF.out.below FAt.stays (hw wc hB6)
    have HOA:=B9f (m:=a.number) HX.out
    rw[HoB.out] at HOA
    have HOA0:Hid (oB=(decide (a.number=y.number)||(decide (0 < x.choice)&&match fs.find? (fun f=>decide (f.number=a.number)) with|some z=>decide (z.choice=x.choice)|none=>false))):=HOA
    clear HOA
    obtain⟨wo,Hwo⟩:∃ wo,wo=wc:=⟨_,rfl⟩
    subst Hwo
    go_upto_region 12 with fail
    go_cut [12] from 43 to 46 (fun s12 wc=>∃ zp,s12 = .pointer zp∧((zp=none∧Hid (fs.find? (fun f=>decide (f.number=a.number))=none))∨∃ bz oz z,zp=some ⟨bz,oz,none⟩∧Hid (fs.find? (fun f=>decide (f.number=a.number))=some z)∧Hid (FAt w ⟨bz,oz,none⟩ z))∧Below wo.heap.size wo wc)
    case first=>
     cases hfd:fs.find? (fun f=>decide (f.number=a.number)) with
     | none=>
      have hfn:=A4d (nm:=.string (S s)) (vb:=.slice ab nb cb) HFL.out ⟨_,_,_,rfl⟩ ⟨_,rfl⟩ a.number (fun b hb=>by have:=List.find?_eq_none.1 hfd b hb;simpa using this)
      have HN:Hid (fs.find? (fun f=>decide (f.number=a.number))=none):=hfd
      clear hfd
      go_wp2_with fail
      refine hfn.mono ?_
      rintro e V2 ⟨rfl,hb2⟩
      go_wp2_with fail
      go_meet
      exact⟨none,rfl,.inl ⟨rfl,HN⟩,hb2⟩
     | some z=>
      obtain⟨jz,hj1,hj2,hj3⟩:=A3e hfd
      have hjn:=of_decide_eq_true hj2
      obtain⟨bz,oz,ez,hza⟩:=HF.out.get FAt.plain hj1
      cases ez
      have HZA:Hid (FAt w ⟨bf,of'+jz*6,none⟩ z):=hza
      have hfn:=A3v (nm:=.string (S s)) (vb:=.slice ab nb cb) HFL.out ⟨_,_,_,rfl⟩ ⟨_,rfl⟩ a.number hj1 hjn hj3
      have HN:Hid (fs.find? (fun f=>decide (f.number=a.number))=some z):=hfd
      clear hza hj1 hj2 hj3 hjn hfd
      go_wp2_with fail
      refine hfn.mono ?_
      rintro e V2 ⟨⟨b',o',e',rfl⟩,hb2⟩
      cases e'
      go_wp2_with fail
      go_meet
      exact⟨_,rfl,.inr ⟨_,_,z,rfl,HN,HZA⟩,hb2⟩
    case rest=>
    obtain⟨zp,rfl,hzp,hbq⟩:=hcut
    obtain⟨wq,Hwq⟩:∃ wq,wq=wc:=⟨_,rfl⟩
    subst Hwq
    have hBq:Below W0.heap.size W0 wq:=hB6.trans (hbq.mono (by omega))
    clear p0 p1 p2 p3 p4 p5 p6 p7 p8 x9 y0 y1 y2 y3
    obtain⟨⟨p0,p1,p2⟩,⟨p3,p4⟩,⟨p5,p6,p7,p8⟩,x9⟩:=hcl wq hBq
    have xq:=(hbq.block _ hzc).trans x6
    obtain⟨y0,y1,y2,y3⟩:=A2w xq
    obtain⟨_,_,_,_,_,f5⟩:=(FAt.stays _ _ _ _ (hw wq hBq) HFA.out).at
    have hdr:∀ r,Below wo.heap.size wo (wq.drewN r):=fun r=>BTr hbq ⟨rfl,rfl,rfl,Nat.le_refl _,fun _ _=>rfl⟩
    go_upto_region 13 with fail
    go_cut [73] from 47 to 72 (fun s73 wc=>s73 = .bool oB∧Below wo.heap.size wo wc)
    case first=>
     have HOA:=HOA0.out
     by_cases he:a.number=y.number
     ·have e1:(a.number == y.number)=true:=beq_iff_eq.2 he
      have h1:oB=true:=by rw[HOA,decide_eq_true he,Bool.true_or]
      subst h1
      clear HOA he hzp
      go_quiet (fail)
      all_goals
       go_wp2_with fail
       go_meet
       exact⟨rfl,hdr _⟩
     ·have e1:(a.number == y.number)=false:=beq_eq_false_iff_ne.2 he
      rw[decide_eq_false he,Bool.false_or] at HOA
      clear he
      by_cases hc:0 < x.choice
      ·have e2:decide (0 < x.choice)=true:=decide_eq_true hc
       rw[e2,Bool.true_and] at HOA
       clear hc
       rcases hzp with⟨rfl,HN⟩|⟨bz,oz,z,rfl,HN,HZA⟩
       ·rw[HN.out] at HOA
        subst HOA
        go_quiet (fail)
        all_goals
         go_wp2_with fail
         go_meet
         exact⟨rfl,hdr _⟩
       ·rw[HN.out] at HOA
        obtain⟨_,_,_,_,_,g5⟩:=(FAt.stays _ _ _ _ (hw wq hBq) HZA.out).at
        cases hzc:decide (z.choice=x.choice) with
        | true=>
         have e3:(z.choice == x.choice)=true:=beq_iff_eq.2 (of_decide_eq_true hzc)
         have h1:oB=true:=HOA.trans hzc
         subst h1
         clear HOA hzc
         go_quiet (fail)
         all_goals
          go_wp2_with fail
          go_meet
          exact⟨rfl,hdr _⟩
        | false=>
         have e3:(z.choice == x.choice)=false:=beq_eq_false_iff_ne.2 (of_decide_eq_false hzc)
         have h1:oB=false:=HOA.trans hzc
         subst h1
         clear HOA hzc
         go_quiet (fail)
         all_goals
          go_wp2_with fail
          go_meet
          exact⟨rfl,hdr _⟩
      ·have e2:decide (0 < x.choice)=false:=decide_eq_false hc
       rw[e2,Bool.false_and] at HOA
       subst HOA
       clear hc hzp
       go_quiet (fail)
       all_goals
        go_wp2_with fail
        go_meet
        exact⟨rfl,hdr _⟩
    case rest=>
     obtain⟨rfl,hbc⟩:=hcut
     clear p0 p1 p2 p3 p4 p5 p6 p7 p8 x9 y0 y1 y2 y3 hzp HOA0 f5 hdr
     have hBc:Below W0.heap.size W0 wc:=hB6.trans (hbc.mono (by omega))
     obtain⟨⟨p0,p1,p2⟩,⟨p3,p4⟩,⟨p5,p6,p7,p8⟩,x9⟩:=hcl wc hBc
     have xc:=(hbc.block _ hzc).trans x6
     obtain⟨y0,y1,y2,y3⟩:=A2w xc
     have hrowc:=hrow6.below hbc
     have hownc:=hrowc.own
     cases oB with
     | true=>
      go_wp2_with fail
      go_roundg (n0 - (k+1))
      case measure=>omega
      case rel=>exact⟨k+1,a6,n6,c6,pN,qs6,by omega,by go_num,rfl,rfl,hrowc,HQ6,HT6,hBc⟩
     | false=>
      have HT2:Hid ((qs6++[(a,(g1,i1,j1),(g2,i2,j2),(g3,i3,j3))]).map Prod.fst++A3l fs x y pN (l.drop (k+1))=R):=by
       show _=_
       rw[←HT6.out,List.map_append,if_neg (by simp),List.append_assoc]
       rfl
      have hlen:(qs6.length+([(a,(g1,i1,j1),(g2,i2,j2),(g3,i3,j3))]:List (QV d)).length)*(B5a d).bytes≤140737488355328:=by
       have h3:=congrArg List.length HT2.out
       rw[List.length_append,List.length_map,List.length_append] at h3
       have h4:=HRL.out
       show(qs6.length+_)*80≤_
       have:qs6.length+([(a,(g1,i1,j1),(g2,i2,j2),(g3,i3,j3))]:List (QV d)).length≤R.length:=by omega
       omega
      obtain⟨W7,HW7⟩:∃ W7,Hid (W7=wc.alloc (.cells #[.int .i64 a.number,.slice g1 i1 j1,.slice g2 i2 j2,.slice g3 i3 j3] 34)):=⟨_,rfl⟩
      have hb7:Below wc.heap.size wc W7:=by rw[HW7.out];exact(Below.refl _ _).alloc (Nat.le_refl _) _
      have x7:W7.heap[wc.heap.size]?=some (.cells #[.int .i64 a.number,.slice g1 i1 j1,.slice g2 i2 j2,.slice g3 i3 j3] 34 (0,0)):=by rw[HW7.out];exact heap_alloc_new _ _
      have hrow7:=hrowc.below hb7
      have hsrc:=A4o (E:=B5a d) (y0:=(a,(g1,i1,j1),(g2,i2,j2),(g3,i3,j3))) x7 rfl
      have hB7:Below W0.heap.size W0 W7:=hBc.trans (hb7.mono hBc.size)
      go_wp2_with (at_builtin;rw[←HW7.out];refine A5d rfl (B5a d) _ _ rfl W0.heap.size _ qs6 [(a,(g1,i1,j1),(g2,i2,j2),(g3,i3,j3))] rfl hrow7 (some ⟨wc.heap.size,0,none⟩) 1 1 rfl rfl (fun h=>by cases h) hsrc (show 1≤80 by omega) hlen hB7.size ?_)
      intro v8 w8 hr8 hg8
      obtain⟨a8,n8,c8,rfl,_⟩:=hr8.shape'
      have hB8:Below W0.heap.size W0 w8:=hB7.grown hg8 hB7.size (fun j hj=>(hownc j hj).1)
      go_wp2_with fail
      go_roundg (n0 - (k+1))
      case measure=>omega
      case rel=>
       refine⟨k+1,a8,n8,c8,pN,qs6++[(a,(g1,i1,j1),(g2,i2,j2),(g3,i3,j3))],by omega,by go_num,rfl,rfl,hr8,?_,HT2,hB8⟩
       intro q hq
       rcases List.mem_append.1 hq with h|h
       ·exact HQ6.out q h
       ·rw[List.mem_singleton.1 h];exact HQA.out
  ·have HE:Hid (qs.map Prod.fst++(if pt then [y] else [])=R):=by
    show _=_
    rw[←HS.out,List.drop_of_length_le (by rw[←Hn.out];omega)]
    rfl
   have hown:=hrow.own
   obtain⟨q0,q1⟩:=A0x x9
   have f0:=A0b x9
   cases pt with
   | false=>
    have HE2:Hid (qs.map Prod.fst=R):=by show _=_;rw[←HE.out];simp
    go_wp2_with fail
    refine bodyPost_ret (v:=.agg #[.slice a' n' c',.slice a1 n1 c1]) (by simp[results,Tryz.results20,go_sem, *]) rfl ?_
    refine⟨a',n',c',rfl,fun u' ho=>?_,A0f (A0f (hw wr hbr) (by omega)) (by omega)⟩
    rw[←HE2.out]
    exact Row.rdQ (Row.over ((hrow.set4 (by omega)).set4 (by omega)) ho (by omega)) HQS.out ho.sub
   | true=>
    have HT2:Hid ((qs++[(y,(b1,m1,d1),(b2,m2,d2),(b3,m3,d3))]).map Prod.fst=R):=by
     show _=_
     rw[←HE.out,List.map_append,if_pos rfl]
     rfl
    have hlen:(qs.length+([(y,(b1,m1,d1),(b2,m2,d2),(b3,m3,d3))]:List (QV d)).length)*(B5a d).bytes≤140737488355328:=by
     have h3:=congrArg List.length HT2.out
     rw[List.length_map,List.length_append] at h3
     have h4:=HRL.out
     show(qs.length+_)*80≤_
     omega
    obtain⟨W6,HW6⟩:∃ W6,Hid (W6=wr.alloc (.cells #[.int .i64 y.number,.slice b1 m1 d1,.slice b2 m2 d2,.slice b3 m3 d3] 34)):=⟨_,rfl⟩
    have hb6:Below wr.heap.size wr W6:=by rw[HW6.out];exact(Below.refl _ _).alloc (Nat.le_refl _) _
    have x6:W6.heap[wr.heap.size]?=some (.cells #[.int .i64 y.number,.slice b1 m1 d1,.slice b2 m2 d2,.slice b3 m3 d3] 34 (0,0)):=by rw[HW6.out];exact heap_alloc_new _ _
    have hrow6:=hrow.below hb6
    have hsrc:=A4o (E:=B5a d) (y0:=(y,(b1,m1,d1),(b2,m2,d2),(b3,m3,d3))) x6 rfl
    have hB6:Below W0.heap.size W0 W6:=hbr.trans (hb6.mono hzr)
    go_wp2_with (at_builtin;rw[←HW6.out];refine A5d rfl (B5a d) _ _ rfl W0.heap.size _ qs [(y,(b1,m1,d1),(b2,m2,d2),(b3,m3,d3))] rfl hrow6 (some ⟨wr.heap.size,0,none⟩) 1 1 rfl rfl (fun h=>by cases h) hsrc (show 1≤80 by omega) hlen hB6.size ?_)
    intro v7 w7 hr7 hg7
    obtain⟨a7,n7,c7,rfl,_⟩:=hr7.shape'
    have hB7:Below W0.heap.size W0 w7:=hB6.grown hg7 hB6.size (fun j hj=>(hown j hj).1)
    clear p0 p1 p2 p3 p4 p5 p6 p7 p8 x9 q0 q1 f0
    obtain⟨⟨p0,p1,p2⟩,⟨p3,p4⟩,⟨p5,p6,p7,p8⟩,x9⟩:=hcl w7 hB7
    obtain⟨q0,q1⟩:=A0x x9
    have f0:=A0b x9
    go_wp2_with fail
    refine bodyPost_ret (v:=.agg #[.slice a7 n7 c7,.slice a1 n1 c1]) (by simp[results,Tryz.results20,go_sem, *]) rfl ?_
    refine⟨a7,n7,c7,rfl,fun u' ho=>?_,A0f (A0f (hw w7 hB7) (by omega)) (by omega)⟩
    rw[←HT2.out]
    refine Row.rdQ (Row.over ((hr7.set4 (by omega)).set4 (by omega)) ho (by omega)) (fun q hq=>?_) ho.sub
    rcases List.mem_append.1 hq with h|h
    ·exact HQS.out q h
    ·rw[List.mem_singleton.1 h];exact HY.out
end L
end Go.Proofs.YtelmjekjohbmjaaGreatDoor
