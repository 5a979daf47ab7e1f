import Derived.Test.YtelmjekjohbmjaaGreatDoorY35
import Derived.Test.YtelmjekjohbmjaaGreatDoorY43
import Derived.Test.YtelmjekjohbmjaaGreatDoorY44
import Derived.Test.YtelmjekjohbmjaaGreatDoorY25
import Derived.Test.YtelmjekjohbmjaaGreatDoorY14
import Derived.Test.YtelmjekjohbmjaaGreatDoorY27
import Derived.Deep.RegionHeld3
import Derived.Deep.CutRange
import Derived.Deep.DeepCutAuto
namespace Go.Proofs.YtelmjekjohbmjaaGreatDoor
namespace L
open Go.RowKit
set_option linter.unusedVariables false
def B2b (g:GI) (d:Nat) (msg:Int) (a b:BI (d+1)) (e:Ending) (w':World):Prop:=
 (A3q g d msg a b≠0∧e = .returned (.tuple #[.agg #[.slice none 0 0,.slice none 0 0],.int .i64 (A3q g d msg a b)]))∨
 (A3q g d msg a b=0∧∃ (M:MI) (e0:Option Addr) (f0 g0:Nat) (e1:Option Addr) (f1 g1:Nat),g.msgs[msg.toNat]?=some M∧e = .returned (.tuple #[.agg #[.slice e0 f0 g0,.slice e1 f1 g1],.int .i64 0])∧BRd d w' (.slice e0 f0 g0) (.slice e1 f1 g1) (jnB g.msgs (d+1) M a b))
set_option maxHeartbeats 8000000 in
set_option maxRecDepth 100000 in
theorem B7a {g:GI}{am:Option Addr}{nm cm:Nat}{ae:Option Addr}{ne ce:Nat}{msg:Int}{w:World}(hI:WIn g am nm cm ae ne ce msg w){d:Nat}{v0 v1 u0 u1:Value}{a b:BI (d+1)}(ha:BRd d w v0 v1 a) (hoka:BOk (d+1) a) (hb:BRd d w u0 u1 b) (hokb:BOk (d+1) b) (hW:jWB (d+1) a+jWB (d+1) b≤1000000000) :
  Calls Tryz.prog 13 #[.agg #[.slice am nm cm,.slice ae ne ce],.int .i64 msg,.agg #[v0,v1],.agg #[u0,u1]] w fun e w'=>Below w.heap.size w w'∧B2b g d msg a b e w':=by
 obtain⟨a0,n0,c0,a1,n1,c1,rfl,rfl⟩:=ha.shape
 obtain⟨b0,m0,d0,b1,m1,d1,rfl,rfl⟩:=hb.shape
 obtain⟨W1,HW1⟩:∃ W1,Hid (W1=(((w.alloc (.cells #[.slice am nm cm,.slice ae ne ce] 25)).alloc (.cells #[.slice a0 n0 c0,.slice a1 n1 c1] 29)).alloc (.cells #[.slice b0 m0 d0,.slice b1 m1 d1] 29)).alloc (.cells #[.slice none 0 0,.slice none 0 0] 29)):=⟨_,rfl⟩
 obtain⟨xf,xa,xb,xr,z0⟩:=A4w w (.cells #[.slice am nm cm,.slice ae ne ce] 25) (.cells #[.slice a0 n0 c0,.slice a1 n1 c1] 29) (.cells #[.slice b0 m0 d0,.slice b1 m1 d1] 29) (.cells #[.slice none 0 0,.slice none 0 0] 29)
 rw[←HW1.out] at xf xa xb xr z0
 have hb1:Below w.heap.size w W1:=by rw[HW1.out];exact((((Below.refl _ _).alloc (Nat.le_refl _) _).alloc (by simp) _).alloc (by simp;omega) _).alloc (by simp;omega) _
 have hz1:w.heap.size+4≤W1.heap.size:=Nat.le_of_eq z0.symm
 have hcl:∀ V,Below W1.heap.size W1 V→(V.cell? ⟨w.heap.size,0,none⟩=some (.slice am nm cm)∧V.cell? ⟨w.heap.size,1,none⟩=some (.slice ae ne ce))∧(V.cell? ⟨w.heap.size+1,0,none⟩=some (.slice a0 n0 c0)∧V.cell? ⟨w.heap.size+1,1,none⟩=some (.slice a1 n1 c1))∧(V.cell? ⟨w.heap.size+2,0,none⟩=some (.slice b0 m0 d0)∧V.cell? ⟨w.heap.size+2,1,none⟩=some (.slice b1 m1 d1))∧(V.cell? ⟨w.heap.size+3,0,none⟩=some (.slice none 0 0)∧V.cell? ⟨w.heap.size+3,1,none⟩=some (.slice none 0 0))∧∀ i,V.frozen? ⟨w.heap.size+3,i,none⟩=false:=fun V hV=>
  ⟨A0x ((hV.block _ (by omega)).trans xf),A0x ((hV.block _ (by omega)).trans xa),A0x ((hV.block _ (by omega)).trans xb),A0x ((hV.block _ (by omega)).trans xr),A0b ((hV.block _ (by omega)).trans xr)⟩
 have hwrong:∀ V (x:BI (d+1)) q0 q1,Below w.heap.size w V→BRd d V q0 q1 x→BOk (d+1) x→Calls Tryz.prog 9 #[.agg #[.slice am nm cm,.slice ae ne ce],.int .i64 msg,.agg #[q0,q1]] V fun r w'=>r = .returned (.int .i64 (A0z g d msg x))∧Below V.heap.size V w':=fun V x q0 q1 hV hx hok=>by
  have hI':=hI.below hV
  exact A5q hI'.hg hI'.n1 hI'.n2 hI'.fit hx hok (fun m hm y hy=>((hI'.fok m hm).1 y hy).2) hI'.m1 hI'.m2
 have hwa:=hwrong W1 a _ _ hb1 (ha.below hb1) hoka
 obtain⟨⟨q0,q1⟩,⟨q2,q3⟩,⟨q4,q5⟩,⟨q6,q7⟩,f0⟩:=hcl W1 (Below.refl _ _)
 obtain⟨E,HE⟩:∃ E,Hid (A3q g d msg a b=E):=⟨_,rfl⟩
 unfold B2b
 rw[HE.out]
 by_cases hA:A0z g d msg a=0
 ·rw[hA] at hwa
  by_cases hB:A0z g d msg b=0
  ·obtain⟨hr,hm1,hm2,M,hM,hra⟩:=A3x hA
   obtain⟨_,_,_,M',hM',hrb⟩:=A3x hB
   rw[hM] at hM'
   cases hM'
   obtain⟨j,rfl⟩:∃ j:Nat,msg=(j:Int):=⟨msg.toNat,by omega⟩
   have hj:g.msgs[j]?=some M:=by simpa using hM
   have hmm:M∈g.msgs:=List.mem_of_getElem? hj
   have HEC:Hid (E=A0z g d (j:Int) (jnB g.msgs (d+1) M a b)):=by
    show _=_
    rw[←HE.out]
    unfold A3q
    have h0:A0g (A0z g d (j:Int)) [a,b]=0:=by unfold A0g;rw[if_pos hA];unfold A0g;rw[if_pos hB];rfl
    rw[if_neg (by rw[h0];simp),hM]
   have hplus:∀ V,Below w.heap.size w V→Calls Tryz.prog 36 #[.agg #[.slice am nm cm,.slice ae ne ce],.int .i64 (j:Int),.agg #[.slice a0 n0 c0,.slice a1 n1 c1],.agg #[.slice b0 m0 d0,.slice b1 m1 d1]] V fun e w'=>∃ (a0:Option Addr) (n0 c0:Nat) (a1:Option Addr) (n1 c1:Nat),e = .returned (.agg #[.slice a0 n0 c0,.slice a1 n1 c1])∧(∀ u',Over w V w' u'→BRd d u' (.slice a0 n0 c0) (.slice a1 n1 c1) (jnB g.msgs (d+1) M a b))∧Below V.heap.size V w':=fun V hV=>by
    refine(B0m hI.hg (d+1) w V j M _ _ _ _ a b (Sub.of hV) hV hj ha hb (A9g (A2m hr) (d+1) 1 M a hmm hra) (A9g (A2m hr) (d+1) 1 M b hmm hrb) hW).mono ?_
    rintro e w' ⟨i0,i1,i2,i3,i4,i5,rfl,ho,hbw⟩
    exact⟨i0,i1,i2,i3,i4,i5,rfl,ho,hbw⟩
   have hokc:BOk (d+1) (jnB g.msgs (d+1) M a b):=B6a hoka hokb hW
   obtain⟨C,HC⟩:∃ C,Hid (jnB g.msgs (d+1) M a b=C):=⟨_,rfl⟩
   rw[HC.out] at hplus hokc HEC
   have HM:Hid (g.msgs[((j:Nat):Int).toNat]?=some M):=hM
   have hwb:∀ V,Below w.heap.size w V→Calls Tryz.prog 9 #[.agg #[.slice am nm cm,.slice ae ne ce],.int .i64 (j:Int),.agg #[.slice b0 m0 d0,.slice b1 m1 d1]] V fun r w'=>r = .returned (.int .i64 0)∧Below V.heap.size V w':=fun V hV=>by
    have:=hwrong V b _ _ hV (hb.below hV) hokb
    rw[hB] at this
    exact this
   clear hA hB hra hrb hM hj hmm hr hm1 hm2 ha hb hI hoka hokb hW xf xa xb xr z0
   go_enter Tryz.func13,Tryz.ntmps13
   go_upto_region 1 with fail
   rw[←HW1.out]
   go_wp2_with fail
   refine hwa.mono ?_
   rintro r w2 ⟨rfl,hb2⟩
   clear q0 q1 q2 q3 q4 q5 q6 q7 f0
   obtain⟨⟨q0,q1⟩,⟨q2,q3⟩,⟨q4,q5⟩,⟨q6,q7⟩,f0⟩:=hcl w2 hb2
   have hwb2:=hwb w2 (BTr hb1 hb2)
   go_wp2_with fail
   refine hwb2.mono ?_
   rintro r w3 ⟨rfl,hb3⟩
   have hB3:=BTr hb2 hb3
   clear q0 q1 q2 q3 q4 q5 q6 q7 f0
   obtain⟨⟨q0,q1⟩,⟨q2,q3⟩,⟨q4,q5⟩,⟨q6,q7⟩,f0⟩:=hcl w3 hB3
   have hpl:=hplus w3 (BTr hb1 hB3)
   go_wp2_with fail
   refine hpl.mono ?_
   rintro r w4 ⟨i0,i1,i2,i3,i4,i5,rfl,hov,hb4⟩
   have hrd:=hov w4 ⟨Sub.of (BTr (BTr hb1 hB3) hb4),fun _ _ _=>rfl⟩
   have hB4:=BTr hB3 hb4
   obtain⟨W5,HW5⟩:∃ W5,Hid (W5=w4.alloc (.cells #[.slice i0 i1 i2,.slice i3 i4 i5] 29)):=⟨_,rfl⟩
   have hb5:Below w4.heap.size w4 W5:=by rw[HW5.out];exact(Below.refl _ _).alloc (Nat.le_refl _) _
   have x5:W5.heap[w4.heap.size]?=some (.cells #[.slice i0 i1 i2,.slice i3 i4 i5] 29 (0,0)):=by rw[HW5.out];exact heap_alloc_new _ _
   have hz5:w4.heap.size < W5.heap.size:=(Array.getElem?_eq_some_iff.1 x5).1
   have hB5:=BTr hB4 hb5
   have hwc:=hwrong W5 C _ _ (BTr hb1 hB5) (hrd.below hb5) hokc
   rw[←HEC.out] at hwc
   clear q0 q1 q2 q3 q4 q5 q6 q7 f0
   go_upto_region 8 with fail
   rw[←HW5.out]
   obtain⟨⟨q0,q1⟩,⟨q2,q3⟩,⟨q4,q5⟩,⟨q6,q7⟩,f0⟩:=hcl W5 hB5
   obtain⟨y0,y1⟩:=A0x x5
   go_wp2_with fail
   refine hwc.mono ?_
   rintro r w6 ⟨rfl,hb6⟩
   have hB6:=BTr hB5 hb6
   clear q0 q1 q2 q3 q4 q5 q6 q7 f0 y0 y1
   obtain⟨⟨q0,q1⟩,⟨q2,q3⟩,⟨q4,q5⟩,⟨q6,q7⟩,f0⟩:=hcl w6 hB6
   obtain⟨y0,y1⟩:=A0x ((hb6.block _ hz5).trans x5)
   have hBF:=BTr hb1 hB6
   have hzw:=hB6.size
   by_cases hE:E=0
   ·have ez:(E != 0)=false:=by simp[hE]
    have HEZ:Hid (E=0):=hE
    have hne:¬ w4.heap.size=w.heap.size+3:=by have:=hB4.size;omega
    have HOV:Hid (∀ u',Over w w3 w4 u'→BRd d u' (.slice i0 i1 i2) (.slice i3 i4 i5) C):=hov
    have hz3:=hB3.size
    have hz4:=hb4.size
    clear hE hrd hov
    go_wp2_with fail
    refine bodyPost_ret (v:=.tuple #[.agg #[.slice i0 i1 i2,.slice i3 i4 i5],.int .i64 0]) (by simp[results,Tryz.results13,go_sem, *]) rfl ?_
    refine⟨A0f (A0f hBF (by omega)) (by omega),.inr ⟨HEZ.out,M,i0,i1,i2,i3,i4,i5,HM.out,rfl,?_⟩⟩
    rw[HC.out]
    refine HOV.out _ ⟨Sub.of ?_,fun k h1 h2=>?_⟩
    ·exact A0f (A0f hBF (by omega)) (by omega)
    rw[Below.heap_setCell _ _ _ k (by show k≠w.heap.size+3;omega),Below.heap_setCell _ _ _ k (by show k≠w.heap.size+3;omega),hb6.block k (by omega),hb5.block k h2]
   ·have ez:(E != 0)=true:=by simpa using hE
    have HEZ:Hid (E≠0):=hE
    clear hE
    go_wp2_with fail
    refine bodyPost_ret (v:=.tuple #[.agg #[.slice none 0 0,.slice none 0 0],.int .i64 E]) (by simp[results,Tryz.results13,go_sem, *]) rfl ?_
    exact⟨A0f (A0f hBF (by omega)) (by omega),.inl ⟨HEZ.out,rfl⟩⟩
  ·have HEB:Hid (A0z g d msg b=E):=by
    show _=_
    rw[←HE.out]
    unfold A3q
    have h0:A0g (A0z g d msg) [a,b]=A0z g d msg b:=by unfold A0g;rw[if_pos hA];unfold A0g;rw[if_neg hB]
    rw[h0,if_pos hB]
   have hE:E≠0:=by rw[←HEB.out];exact hB
   have ez:(E != 0)=true:=by simpa using hE
   have HEZ:Hid (E≠0):=hE
   have hwb:∀ V,Below w.heap.size w V→Calls Tryz.prog 9 #[.agg #[.slice am nm cm,.slice ae ne ce],.int .i64 msg,.agg #[.slice b0 m0 d0,.slice b1 m1 d1]] V fun r w'=>r = .returned (.int .i64 E)∧Below V.heap.size V w':=fun V hV=>by
    have:=hwrong V b _ _ hV (hb.below hV) hokb
    rw[HEB.out] at this
    exact this
   clear hA hB hE ha hb hI hoka hokb hW xf xa xb xr z0
   go_enter Tryz.func13,Tryz.ntmps13
   go_upto_region 1 with fail
   rw[←HW1.out]
   go_wp2_with fail
   refine hwa.mono ?_
   rintro r w2 ⟨rfl,hb2⟩
   clear q0 q1 q2 q3 q4 q5 q6 q7 f0
   obtain⟨⟨q0,q1⟩,⟨q2,q3⟩,⟨q4,q5⟩,⟨q6,q7⟩,f0⟩:=hcl w2 hb2
   have hwb2:=hwb w2 (BTr hb1 hb2)
   go_wp2_with fail
   refine hwb2.mono ?_
   rintro r w3 ⟨rfl,hb3⟩
   have hB3:=BTr hb2 hb3
   clear q0 q1 q2 q3 q4 q5 q6 q7 f0
   obtain⟨⟨q0,q1⟩,⟨q2,q3⟩,⟨q4,q5⟩,⟨q6,q7⟩,f0⟩:=hcl w3 hB3
   have hBF:=BTr hb1 hB3
   go_wp2_with fail
   refine bodyPost_ret (v:=.tuple #[.agg #[.slice none 0 0,.slice none 0 0],.int .i64 E]) (by simp[results,Tryz.results13,go_sem, *]) rfl ?_
   exact⟨A0f (A0f hBF (by omega)) (by omega),.inl ⟨HEZ.out,rfl⟩⟩
 ·have HEA:Hid (A0z g d msg a=E):=by
   show _=_
   rw[←HE.out]
   unfold A3q
   have h0:A0g (A0z g d msg) [a,b]=A0z g d msg a:=by unfold A0g;rw[if_neg hA]
   rw[h0,if_pos hA]
  have hE:E≠0:=by rw[←HEA.out];exact hA
  have ez:(E != 0)=true:=by simpa using hE
  have HEZ:Hid (E≠0):=hE
  rw[HEA.out] at hwa
  clear hA hE ha hb hI hoka hokb hW xf xa xb xr z0
  go_enter Tryz.func13,Tryz.ntmps13
  go_upto_region 1 with fail
  rw[←HW1.out]
  go_wp2_with fail
  refine hwa.mono ?_
  rintro r w2 ⟨rfl,hb2⟩
  clear q0 q1 q2 q3 q4 q5 q6 q7 f0
  obtain⟨⟨q0,q1⟩,⟨q2,q3⟩,⟨q4,q5⟩,⟨q6,q7⟩,f0⟩:=hcl w2 hb2
  have hBF:=BTr hb1 hb2
  go_wp2_with fail
  refine bodyPost_ret (v:=.tuple #[.agg #[.slice none 0 0,.slice none 0 0],.int .i64 E]) (by simp[results,Tryz.results13,go_sem, *]) rfl ?_
  exact⟨A0f (A0f hBF (by omega)) (by omega),.inl ⟨HEZ.out,rfl⟩⟩
end L
end Go.Proofs.YtelmjekjohbmjaaGreatDoor
namespace Go.Proofs.YtelmjekjohbmjaaGreatDoor
namespace L
open Go.RowKit
set_option linter.unusedVariables false
theorem B8c {d:Nat}{w:World}{base:Nat}{fs:List FI}{vf vb nm:Value}{b:BL (LB d)}{y:VL (LB d)}{x:FI}(hf:RdL 6 FAt w vf fs) (fok:∀ f∈fs,I64 f.number∧I64 f.choice) (fl:fs.length≤140737488355328) (hvb:∃ ao n cap,vb = .slice ao n cap) (hnm:∃ s:List UInt8,nm = .string (S s)) (hb:OwnL (ekB d) (OwnB base d) w base b) (hnd:(LB.fp (d+1) b).Nodup) (hy:OwnV (ekB d) (OwnB base d) w base y) (hyn:(VL.fp (LB.fp d) y).Nodup) (hap:∀ k∈LB.fp (d+1) b,k∉VL.fp (LB.fp d) y) (hnum:∀ a∈b.vals,I64 a.number) (hlen:(b.vals.length+1)*80≤140737488355328) (hB:base≤w.heap.size) (hx:fs.find? (isF y.number)=some x) (hl1:y.bits.length≤140737488355328) (hl2:y.bytes.length≤140737488355328) (hl3:y.subs.length≤140737488355328) (hnu:I64 y.number) :
  Calls Tryz.prog 43 #[.agg #[nm,vf,vb],.agg #[b.q0.v,b.q1.v],.agg #[.int .i64 y.number,y.p1.v,y.p2.v,y.p3.v]] w fun e w'=>
   ∃ (l:List (VL (LB d))) (a':Option Addr) (n' c':Nat),e = .returned (.agg #[.slice a' n' c',b.q1.v])∧l.map (VL.pl (LB.pl d))=A6d fs x (b.vals.map (VL.pl (LB.pl d))) (VL.pl (LB.pl d) y)∧OwnL (ekB d) (OwnB base d) w' base ⟨l,b.unk,(a',n',c'),b.q1⟩∧(LB.fp (d+1) (⟨l,b.unk,(a',n',c'),b.q1⟩:BL (LB d))).Nodup∧FrB (own1 b.q0) w w':=by
 have on:∀ k,(own1 b.q0).count k+(own1 b.q1).count k+(b.vals.flatMap (VL.fp (LB.fp d))).count k≤1:=fun k=>by
  have h:=List.nodup_iff_count.1 hnd k
  have e:LB.fp (d+1) b=own1 b.q0++own1 b.q1++b.vals.flatMap (VL.fp (LB.fp d)):=rfl
  rw[e,List.count_append,List.count_append] at h
  exact h
 have inb:∀ k,k∈own1 b.q0→k∈LB.fp (d+1) b:=fun k hk=>by
  show k∈own1 b.q0++own1 b.q1++b.vals.flatMap (VL.fp (LB.fp d))
  exact List.mem_append_left _ (List.mem_append_left _ hk)
 have hin:PutIn d w base fs vf b y:=⟨hf,fok,fl,hb.shy,hy.shy,fun k hk=>⟨fun hm=>?_,fun a ha hm=>?_,fun hm=>hap k (inb k hk) (C0z hm)⟩,hnum,hlen,hB⟩
 ·have hk':∃ k,fs.findIdx? (fun f=>decide (f.number=y.number))=some k∧fs[k]?=some x:=by
   have hx':fs.find? (fun f=>decide (f.number=y.number))=some x:=hx
   rw[List.find?_eq_getElem?_findIdx] at hx'
   have hlt:fs.findIdx (fun f=>decide (f.number=y.number)) < fs.length:=(List.getElem?_eq_some_iff.1 hx').1
   exact⟨_,List.findIdx?_eq_some_iff_findIdx_eq.2 ⟨hlt,rfl⟩,hx'⟩
  obtain⟨k,hk1,hk2⟩:=hk'
  refine(B2p hin hvb hnm hk1 hk2 hl1 hl2 hl3 hnu).mono ?_
  rintro e w' ⟨⟨a',n',c'⟩,rfl,hq,hrow,hfr⟩
  refine⟨_,a',n',c',rfl,B6u fs x b.vals y,⟨hrow,fun a ha=>?_,Row.frB (p:=b.q1) hb.r1 hfr fun k hk hm=>?_,fun r hr=>(hb.r1y r hr).frY hfr⟩,List.nodup_iff_count.2 fun k=>?_,hfr⟩
  ·rcases B2k ha with rfl|⟨ha,ho⟩
   ·exact OwnV.fr (OwnB.fr d) hy hfr fun k hk hm=>hap k (inb k hm) hk
   ·refine OwnV.fr (OwnB.fr d) (hb.r0v a ha) hfr fun k hk hm=>?_
    have h1:=List.count_pos_iff.2 hm
    have h2:=List.count_pos_iff.2 (List.mem_flatMap.2 ⟨a,ha,hk⟩)
    have:=on k
    omega
  ·have h1:=List.count_pos_iff.2 hm
   have h2:=List.count_pos_iff.2 hk
   have:=on k
   omega
  ·show(own1 (a',n',c')++own1 b.q1++List.flatMap (VL.fp (LB.fp d)) _).count k≤1
   rw[List.count_append,List.count_append]
   dsimp only
   have hc:=A8d (VL.fp (LB.fp d)) (p:=fun a=>!A0m fs x a.number) (A0u x (VL.pl (LB.pl d) y)) b.vals (A0w y.number ((b.vals.filter fun a=>!A0m fs x a.number).map (VL.pl (LB.pl d)))) y k
   have hcf:=A1z (VL.fp (LB.fp d)) (fun a=>!A0m fs x a.number) k b.vals
   have o1:=A3g (a',n',c') k
   have o2:0 < (own1 (a',n',c')).count k→0 < (own1 b.q0).count k∨w.heap.size≤k:=fun h'=>(hq k (A0t h')).imp List.count_pos_iff.2 id
   have o3:=on k
   have o4:=List.nodup_iff_count.1 hyn k
   have l0:0 < (own1 b.q0).count k→k∈LB.fp (d+1) b:=fun h'=>inb k (A0t h')
   have l1:0 < (own1 b.q1).count k→k∈LB.fp (d+1) b∧k < w.heap.size:=fun h'=>⟨by
    show k∈own1 b.q0++own1 b.q1++b.vals.flatMap (VL.fp (LB.fp d))
    exact List.mem_append_left _ (List.mem_append_right _ (A0t h')),(hb.r1.own1 k (A0t h')).2⟩
   have l2:0 < (b.vals.flatMap (VL.fp (LB.fp d))).count k→k∈LB.fp (d+1) b∧k < w.heap.size:=fun h'=>⟨by
    show k∈own1 b.q0++own1 b.q1++b.vals.flatMap (VL.fp (LB.fp d))
    exact List.mem_append_right _ (A0t h'),by
    obtain⟨v,hv,hk⟩:=List.mem_flatMap.1 (A0t h')
    exact((hb.r0v v hv).lt k hk).2⟩
   have l3:0 < (VL.fp (LB.fp d) y).count k→k∉LB.fp (d+1) b∧k < w.heap.size:=fun h'=>⟨fun hm=>hap k hm (A0t h'),(hy.lt k (A0t h')).2⟩
   by_cases hb':k∈LB.fp (d+1) b
   ·have z1:(VL.fp (LB.fp d) y).count k=0:=Nat.eq_zero_of_not_pos fun h=>(l3 h).1 hb'
    omega
   ·have z1:(own1 b.q0).count k=0:=Nat.eq_zero_of_not_pos fun h=>hb' (l0 h)
    have z2:(own1 b.q1).count k=0:=Nat.eq_zero_of_not_pos fun h=>hb' (l1 h).1
    have z3:(b.vals.flatMap (VL.fp (LB.fp d))).count k=0:=Nat.eq_zero_of_not_pos fun h=>hb' (l2 h).1
    omega
 ·have h1:=List.count_pos_iff.2 hm
  have h2:=List.count_pos_iff.2 hk
  have:=on k
  omega
 ·have h1:=List.count_pos_iff.2 hk
  have h2:=List.count_pos_iff.2 (List.mem_flatMap.2 ⟨a,ha,C0z hm⟩)
  have:=on k
  omega
set_option maxHeartbeats 8000000 in
set_option maxRecDepth 100000 in
theorem B8e {d:Nat}{w:World}{fs:List FI}{s:List UInt8}{af ab:Option Addr}{nf cf nb cb:Nat}(hf:RdL 6 FAt w (.slice af nf cf) fs) (fok:∀ f∈fs,I64 f.number∧I64 f.choice) (fl:fs.length≤140737488355328){a0 a1:Option Addr}{n0 c0 n1 c1:Nat}{b:BI (d+1)}(hq:BRd d w (.slice a0 n0 c0) (.slice a1 n1 c1) b) (hok:BOk (d+1) b){y:VI (BI d)}{x:FI}(hx:fs.find? (isF y.number)=some x){b1 b2 b3:Option Addr}{m1 d1 m2 d2 m3 d3:Nat}(r1:RdL 1 UAt w (.slice b1 m1 d1) y.bits) (r2:RdL 1 ZAt w (.slice b2 m2 d2) y.bytes) (r3:RdL 2 (BAt d) w (.slice b3 m3 d3) y.subs) (hy:VOk (BOk d) y) (hlen:((BO.vals b).length+1)*80≤140737488355328) :
  Calls Tryz.prog 19 #[.agg #[.string (S s),.slice af nf cf,.slice ab nb cb],.agg #[.slice a0 n0 c0,.slice a1 n1 c1],.agg #[.int .i64 y.number,.slice b1 m1 d1,.slice b2 m2 d2,.slice b3 m3 d3]] w fun e w'=>∃ (c:LB (d+1)) (i0:Option Addr) (j0 l0:Nat) (i1:Option Addr) (j1 l1:Nat),A6i (d+1) c = [.slice i0 j0 l0,.slice i1 j1 l1]∧e = .returned (.agg #[.slice i0 j0 l0,.slice i1 j1 l1])∧LB.pl (d+1) c=(⟨A6d fs x (BO.vals b) y,BO.unk b⟩:BO (BI d))∧OwnB w.heap.size (d+1) w' c∧(LB.fp (d+1) c).Nodup∧Below w.heap.size w w':=by
 obtain⟨W1,HW1⟩:∃ W1,Hid (W1=(((w.alloc (.cells #[.string (S s),.slice af nf cf,.slice ab nb cb] 48)).alloc (.cells #[.slice a0 n0 c0,.slice a1 n1 c1] 29)).alloc (.cells #[.int .i64 y.number,.slice b1 m1 d1,.slice b2 m2 d2,.slice b3 m3 d3] 34)).alloc (.cells #[.slice none 0 0,.slice none 0 0] 29)):=⟨_,rfl⟩
 obtain⟨xm,xa,xv,xr,z0⟩:=B5f w (.cells #[.string (S s),.slice af nf cf,.slice ab nb cb] 48) (.cells #[.slice a0 n0 c0,.slice a1 n1 c1] 29) (.cells #[.int .i64 y.number,.slice b1 m1 d1,.slice b2 m2 d2,.slice b3 m3 d3] 34) (.cells #[.slice none 0 0,.slice none 0 0] 29)
 rw[←HW1.out] at xm xa xv xr z0
 have hb1:Below w.heap.size w W1:=by rw[HW1.out];exact((((Below.refl _ _).alloc (Nat.le_refl _) _).alloc (by simp) _).alloc (by simp;omega) _).alloc (by simp;omega) _
 have hz1:w.heap.size+4≤W1.heap.size:=Nat.le_of_eq z0.symm
 obtain⟨C,HC⟩:∃ C,Hid (C=w.heap.size+3):=⟨_,rfl⟩
 have hC1:C≤w.heap.size+3:=Nat.le_of_eq HC.out
 have hC2:w.heap.size+3≤C:=Nat.le_of_eq HC.out.symm
 have hcl:∀ V,Below C W1 V→(V.cell? ⟨w.heap.size,0,none⟩=some (.string (S s))∧V.cell? ⟨w.heap.size,1,none⟩=some (.slice af nf cf)∧V.cell? ⟨w.heap.size,2,none⟩=some (.slice ab nb cb))∧(V.cell? ⟨w.heap.size+1,0,none⟩=some (.slice a0 n0 c0)∧V.cell? ⟨w.heap.size+1,1,none⟩=some (.slice a1 n1 c1))∧(V.cell? ⟨w.heap.size+2,0,none⟩=some (.int .i64 y.number)∧V.cell? ⟨w.heap.size+2,1,none⟩=some (.slice b1 m1 d1)∧V.cell? ⟨w.heap.size+2,2,none⟩=some (.slice b2 m2 d2)∧V.cell? ⟨w.heap.size+2,3,none⟩=some (.slice b3 m3 d3)):=fun V hV=>
  ⟨A6o ((hV.block _ (by omega)).trans xm),A0x ((hV.block _ (by omega)).trans xa),A3k ((hV.block _ (by omega)).trans xv)⟩
 have hD:Below C W1 W1.drew:=(Below.refl _ _).drew
 have hDD:Below W1.heap.size W1 W1.drew:=(Below.refl _ _).drew
 have hwD:Below w.heap.size w W1.drew:=BTr hb1 hDD
 have hown:=A7m (d+1) W1.drew W1.heap.size a0 n0 c0 a1 n1 c1 b (Nat.le_refl _) (hq.below hwD) hok
 have hov:∀ V,Below W1.heap.size W1 V→Calls Tryz.prog 30 #[.agg #[.int .i64 y.number,.slice b1 m1 d1,.slice b2 m2 d2,.slice b3 m3 d3]] V fun e w'=>∃ (yv:VL (LB d)) (q0:Int) (x1:Option Addr) (y1 z1:Nat) (x2:Option Addr) (y2 z2:Nat) (x3:Option Addr) (y3 z3:Nat),(ekV (LB d)).enc yv = [.int .i64 q0,.slice x1 y1 z1,.slice x2 y2 z2,.slice x3 y3 z3]∧e = .returned (.agg #[.int .i64 q0,.slice x1 y1 z1,.slice x2 y2 z2,.slice x3 y3 z3])∧VL.pl (LB.pl d) yv=y∧OwnV (ekB d) (OwnB W1.heap.size d) w' W1.heap.size yv∧(∀ k∈VL.fp (LB.fp d) yv,V.heap.size≤k)∧(VL.fp (LB.fp d) yv).Nodup∧Below V.heap.size V w':=fun V hV=>B2l d V W1.heap.size y b1 m1 d1 b2 m2 d2 b3 m3 d3 hV.size (r1.below UAt.stays (BTr hb1 hV)) (r2.below ZAt.stays (BTr hb1 hV)) (r3.below (BAt.stays d) (BTr hb1 hV)) hy
 have hput:∀ (V2 V3:World) (yb:BL (LB d)) (yv:VL (LB d)),Below W1.heap.size W1 V2→Below V2.heap.size V2 V3→LB.pl (d+1) yb=b→OwnB W1.heap.size (d+1) V2 yb→(LB.fp (d+1) yb).Nodup→VL.pl (LB.pl d) yv=y→OwnV (ekB d) (OwnB W1.heap.size d) V3 W1.heap.size yv→(∀ k∈VL.fp (LB.fp d) yv,V2.heap.size≤k)→(VL.fp (LB.fp d) yv).Nodup→
   Calls Tryz.prog 43 #[.agg #[.string (S s),.slice af nf cf,.slice ab nb cb],.agg #[yb.q0.v,yb.q1.v],.agg #[.int .i64 yv.number,yv.p1.v,yv.p2.v,yv.p3.v]] V3 fun e w'=>∃ (l:List (VL (LB d))) (a':Option Addr) (n' c':Nat),e = .returned (.agg #[.slice a' n' c',yb.q1.v])∧(∀ V',FrB [w.heap.size+3] w' V'→OwnB W1.heap.size (d+1) V' (⟨l,yb.unk,(a',n',c'),yb.q1⟩:BL (LB d)))∧LB.pl (d+1) (⟨l,yb.unk,(a',n',c'),yb.q1⟩:BL (LB d))=(⟨A6d fs x (BO.vals b) y,BO.unk b⟩:BO (BI d))∧(LB.fp (d+1) (⟨l,yb.unk,(a',n',c'),yb.q1⟩:BL (LB d))).Nodup∧Below W1.heap.size W1 w':=by
  intro V2 V3 yb yv h2 h3 hpl hob hnd hplv hoy hge hyn
  have hB3:Below W1.heap.size W1 V3:=BTr h2 h3
  have hob3:OwnL (ekB d) (OwnB W1.heap.size d) V3 W1.heap.size yb:=OwnB.below hob h3
  have hinb:=OwnB.inB (d+1) hob
  have hpn:yv.number=y.number:=by rw[←hplv];rfl
  have hpv:yb.vals.map (VL.pl (LB.pl d))=BO.vals b:=congrArg BO.vals hpl
  have hpu:yb.unk.map Prod.fst=BO.unk b:=congrArg BO.unk hpl
  obtain⟨y1,y2,y3,y4,y5,y6,y7⟩:=hy
  unfold reachBytes at y3 y5 y7
  have e1:yv.bits=y.bits:=by rw[←hplv];rfl
  have e2:yv.bytes.length=y.bytes.length:=by rw[←hplv];simp[VL.pl]
  have e3:yv.subs.length=y.subs.length:=by rw[←hplv];simp[VL.pl]
  refine(B8c (x:=x) (hf.below FAt.stays (BTr hb1 hB3)) fok fl ⟨_,_,_,rfl⟩ ⟨_,rfl⟩ hob3 hnd hoy hyn (fun k hk hm=>?_) (fun a ha=>?_) ?_ hB3.size (by rw[hpn];exact hx) (by rw[e1];omega) (by rw[e2];omega) (by rw[e3];omega) (by rw[hpn];exact y1)).mono ?_
  ·have:=(hinb k hk).2
   have:=hge k hm
   omega
  ·have:VL.pl (LB.pl d) a∈BO.vals b:=by rw[←hpv];exact List.mem_map_of_mem ha
   exact(hok.1 _ this).1
  ·have:yb.vals.length=(BO.vals b).length:=by rw[←hpv,List.length_map]
   rw[this];exact hlen
  ·rintro e w' ⟨l,a',n',c',rfl,hmap,hol,hnl,hfr⟩
   refine⟨l,a',n',c',rfl,fun V' hV'=>?_,?_,hnl,?_⟩
   ·have hlo:∀ k∈LB.fp (d+1) (⟨l,yb.unk,(a',n',c'),yb.q1⟩:BL (LB d)),W1.heap.size≤k:=fun k hk=>(OwnB.inB (d+1) (w:=w') (b:=(⟨l,yb.unk,(a',n',c'),yb.q1⟩:BL (LB d))) hol k hk).1
    exact OwnB.fr (d+1) [w.heap.size+3] w' V' (⟨l,yb.unk,(a',n',c'),yb.q1⟩:BL (LB d)) hol hV' (fun k hk hm=>by have:=hlo k hk;rw[List.mem_singleton.1 hm] at this;omega)
   ·show(⟨l.map (VL.pl (LB.pl d)),yb.unk.map Prod.fst⟩:BO (BI d))=_
    rw[hmap,hpu,hpv,hplv]
   ·exact hB3.trans (hfr.below hB3.size (fun k hk=>(hob3.r0.own1 k hk).1))
 obtain⟨⟨q0,q1,q2⟩,⟨q3,q4⟩,⟨q5,q6,q7,q8⟩⟩:=hcl W1.drew hD
 clear hf fok fl hq hok hx r1 r2 r3 hy hlen xm xa xv z0
 go_enter Tryz.func19,Tryz.ntmps19
 go_upto_region 1 with fail
 rw[←HW1.out]
 refine wp_region_held_drew (S:=fun V=>Below C W1 V) (by kernel_rfl) hD (fun hHeld=>?_)
 refine tK (i:=0) (v:=?vo1) rfl (fun _ _ _ h=>h) ⟨by rfl,?hyo1⟩ (by assumption) ?_
 case hyo1=>(intro W hSw;obtain⟨⟨o1,o2,o3⟩,⟨o4,o5⟩,⟨o6,o7,o8,o9⟩⟩:=hcl W hSw;go_simp;first|done|with_reducible rfl)
 try simp only[pT,Act.put]
 refine tK (i:=1) (v:=?vo2) rfl (fun _ _ _ h=>h) ⟨by rfl,?hyo2⟩ (by assumption) ?_
 case hyo2=>(intro W hSw;obtain⟨⟨o1,o2,o3⟩,⟨o4,o5⟩,⟨o6,o7,o8,o9⟩⟩:=hcl W hSw;go_simp;first|done|with_reducible rfl)
 try simp only[pT,Act.put]
 refine tK (i:=3) (v:=?vo3) rfl (fun _ _ _ h=>h) ⟨by rfl,?hyo3⟩ (by assumption) ?_
 case hyo3=>(intro W hSw;obtain⟨⟨o1,o2,o3⟩,⟨o4,o5⟩,⟨o6,o7,o8,o9⟩⟩:=hcl W hSw;go_simp;first|done|with_reducible rfl)
 try simp only[pT,Act.put]
 refine wpAnyH_ready (rs:=[2]) (by kernel_rfl) (by simp) ?_
 refine AllReadyH.cons rfl (fun K hK=>?_) AllReadyH.nil
 go_simp
 refine hown.mono ?_
 rintro r w2 ⟨yb,i0,j0,l0,i1,j1,l1,henc,rfl,hpl,hob,hge2,hnd,hb2⟩
 have hB2:Below W1.heap.size W1 w2:=BTr hDD hb2
 have hS2:Below C W1 w2:=hB2.mono (by omega)
 have hov2:=hov w2 hB2
 refine hK.out _ _ ?_ (fun hHeld=>?_)
 ·(try dsimp only);first|with_reducible exact hD|with_reducible exact hS2|with_reducible exact hS3|with_reducible exact hS4|exact A0f (A0f hS4 (by omega)) (by omega)
 clear hK K
 try simp only[pT,Act.put]
 refine wpAnyH_ready (rs:=[4]) (by kernel_rfl) (by simp) ?_
 refine AllReadyH.cons rfl (fun K hK=>?_) AllReadyH.nil
 go_simp
 refine hov2.mono ?_
 rintro r w3 ⟨yv,t0,i2,j2,l2,i3,j3,l3,i4,j4,l4,henv,rfl,hplv,hoy,hge3,hnd3,hb3⟩
 have hB3:Below W1.heap.size W1 w3:=BTr hB2 hb3
 have hS3:Below C W1 w3:=hB3.mono (by omega)
 have hput3:=hput w2 w3 yb yv hB2 hb3 hpl hob hnd hplv hoy hge3 hnd3
 obtain⟨e0,e1⟩:(BL.q0 yb).v = .slice i0 j0 l0∧(BL.q1 yb).v = .slice i1 j1 l1:=by
  have h8 : [(BL.q0 yb).v,(BL.q1 yb).v] = [.slice i0 j0 l0,.slice i1 j1 l1]:=henc
  simpa using h8
 obtain⟨e2,e3,e4,e5⟩:yv.number=t0∧yv.p1.v = .slice i2 j2 l2∧yv.p2.v = .slice i3 j3 l3∧yv.p3.v = .slice i4 j4 l4:=by
  have h8 : [Value.int .i64 yv.number,yv.p1.v,yv.p2.v,yv.p3.v] = [.int .i64 t0,.slice i2 j2 l2,.slice i3 j3 l3,.slice i4 j4 l4]:=henv
  simpa using h8
 have HE1:Hid ((BL.q1 yb).v = .slice i1 j1 l1):=e1
 rw[e0,e1,e2,e3,e4,e5] at hput3
 clear e0 e1 e2 e3 e4 e5 henc henv hpl hob hge2 hnd hplv hoy hge3 hnd3
 refine hK.out _ _ ?_ (fun hHeld=>?_)
 ·(try dsimp only);first|with_reducible exact hD|with_reducible exact hS2|with_reducible exact hS3|with_reducible exact hS4|exact A0f (A0f hS4 (by omega)) (by omega)
 clear hK K
 try simp only[pT,Act.put]
 refine wpAnyH_ready (rs:=[5]) (by kernel_rfl) (by simp) ?_
 refine AllReadyH.cons rfl (fun K hK=>?_) AllReadyH.nil
 go_simp
 refine hput3.mono ?_
 rintro r w4 ⟨ll,a',n',c',rfl,hR4,hP4,hN4,hB4⟩
 have hS4:Below C W1 w4:=hB4.mono (by omega)
 have x4:=(hB4.block _ (by omega)).trans xr
 obtain⟨g0,g1⟩:=A0x x4
 have fr4:=A0b x4
 refine hK.out _ _ ?_ (fun hHeld=>?_)
 ·(try dsimp only);first|with_reducible exact hD|with_reducible exact hS2|with_reducible exact hS3|with_reducible exact hS4|exact A0f (A0f hS4 (by omega)) (by omega)
 clear hK K
 try simp only[pT,Act.put]
 refine wpAnyH_ready (rs:=[6]) (by kernel_rfl) (by simp) ?_
 refine AllReadyH.cons rfl (fun K hK=>?_) AllReadyH.nil
 go_simp
 refine hK.out _ _ ?_ (fun hHeld=>?_)
 ·(try dsimp only);first|with_reducible exact hD|with_reducible exact hS2|with_reducible exact hS3|with_reducible exact hS4|exact A0f (A0f hS4 (by omega)) (by omega)
 clear hK K
 try simp only[pT,Act.put]
 refine wpAnyH_done (by kernel_rfl) ?_ _
 go_wp2_with fail
 refine bodyPost_ret (v:=.agg #[.slice a' n' c',.slice i1 j1 l1]) (by simp[results,Tryz.results19,go_sem, *]) rfl ?_
 exact⟨_,a',n',c',i1,j1,l1,by show [_,_]=_;rw[HE1.out];rfl,rfl,hP4,OwnB.mono (d+1) (hR4 _ (fr2 x4)) (by omega),hN4,A0f (A0f (BTr hb1 hB4) (by omega)) (by omega)⟩
theorem B8d {d:Nat}{w:World}{fs:List FI}{s:List UInt8}{af ab:Option Addr}{nf cf nb cb:Nat}(hf:RdL 6 FAt w (.slice af nf cf) fs) (fok:∀ f∈fs,I64 f.number∧I64 f.choice) (fl:fs.length≤140737488355328){a0 a1:Option Addr}{n0 c0 n1 c1:Nat}{b:BI (d+1)}(hq:BRd d w (.slice a0 n0 c0) (.slice a1 n1 c1) b) (hok:BOk (d+1) b){y:VI (BI d)}{x:FI}(hx:fs.find? (isF y.number)=some x){b1 b2 b3:Option Addr}{m1 d1 m2 d2 m3 d3:Nat}(r1:RdL 1 UAt w (.slice b1 m1 d1) y.bits) (r2:RdL 1 ZAt w (.slice b2 m2 d2) y.bytes) (r3:RdL 2 (BAt d) w (.slice b3 m3 d3) y.subs) (hy:VOk (BOk d) y) (hlen:((BO.vals b).length+1)*80≤140737488355328) :
  Calls Tryz.prog 19 #[.agg #[.string (S s),.slice af nf cf,.slice ab nb cb],.agg #[.slice a0 n0 c0,.slice a1 n1 c1],.agg #[.int .i64 y.number,.slice b1 m1 d1,.slice b2 m2 d2,.slice b3 m3 d3]] w fun e w'=>∃ (i0:Option Addr) (j0 l0:Nat) (i1:Option Addr) (j1 l1:Nat),e = .returned (.agg #[.slice i0 j0 l0,.slice i1 j1 l1])∧BRd d w' (.slice i0 j0 l0) (.slice i1 j1 l1) ⟨A6d fs x (BO.vals b) y,BO.unk b⟩∧Below w.heap.size w w':=by
 refine(B8e (s:=s) (ab:=ab) (nb:=nb) (cb:=cb) hf fok fl hq hok hx r1 r2 r3 hy hlen).mono ?_
 rintro e w' ⟨c,i0,j0,l0,i1,j1,l1,henc,rfl,hpl,hown,_,hb⟩
 refine⟨i0,j0,l0,i1,j1,l1,rfl,?_,hb⟩
 have h5:=OwnB.rd hown
 obtain⟨h6,h7⟩:(BL.q0 c).v = .slice i0 j0 l0∧(BL.q1 c).v = .slice i1 j1 l1:=by
  have h8 : [(BL.q0 c).v,(BL.q1 c).v] = [.slice i0 j0 l0,.slice i1 j1 l1]:=henc
  simpa using h8
 rw[h6,h7,hpl] at h5
 exact h5
end L
end Go.Proofs.YtelmjekjohbmjaaGreatDoor
