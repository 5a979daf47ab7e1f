import Derived.Test.YtcagbdokbnpdfaaGreatDoorZ20
import Derived.Test.YtcagbdokbnpdfaaGreatDoorZ05
import Derived.Test.YtcagbdokbnpdfaaGreatDoorZ24
import Derived.Deep.RegionHeld3
import Derived.Deep.CutRange
import Derived.Deep.DeepCutAuto
import Derived.Test.YtcagbdokbnpdfaaGreatDoorZ01
import Derived.Test.YtcagbdokbnpdfaaGreatDoorZ12
import Derived.Test.YtcagbdokbnpdfaaGreatDoorZ02
namespace Go.Proofs.YtcagbdokbnpdfaaGreatDoor
namespace L
open Go.RowKit
set_option linter.unusedVariables false
theorem C8d {d:Nat}{w:World}{base:Nat}{fs:List FI}{vf vb nm:Value}{b:BL (LB d)}{y:VL (LB d)}{x:FI}(hf:RdL 6 FAt w vf fs) (fok:∀ f∈fs,I64 f.number∧I64 f.choice) (fl:fs.length≤140737488355328) (hvb:∃ ao n cap,vb = .slice ao n cap) (hnm:∃ s:List UInt8,nm = .string (S s)) (hb:OwnL (ekB d) (OwnB base d) w base b) (hnd:(LB.fp (d+1) b).Nodup) (hy:OwnV (ekB d) (OwnB base d) w base y) (hyn:(VL.fp (LB.fp d) y).Nodup) (hap:∀ k∈LB.fp (d+1) b,k∉VL.fp (LB.fp d) y) (hnum:∀ a∈b.vals,I64 a.number) (hlen:(b.vals.length+1)*80≤140737488355328) (hB:base≤w.heap.size) (hx:fs.find? (isF y.number)=some x) (hl1:y.bits.length≤140737488355328) (hl2:y.bytes.length≤140737488355328) (hl3:y.subs.length≤140737488355328) (hnu:I64 y.number) :
  Calls Tryz.prog 81 #[.agg #[nm,vf,vb],.agg #[b.q0.v,b.q1.v],.agg #[.int .i64 y.number,y.p1.v,y.p2.v,y.p3.v]] w fun e w'=>
   ∃ (l:List (VL (LB d))) (a':Option Addr) (n' c':Nat),e = .returned (.agg #[.slice a' n' c',b.q1.v])∧l.map (VL.pl (LB.pl d))=A1x fs x (b.vals.map (VL.pl (LB.pl d))) (VL.pl (LB.pl d) y)∧OwnL (ekB d) (OwnB base d) w' base ⟨l,b.unk,(a',n',c'),b.q1⟩∧(LB.fp (d+1) (⟨l,b.unk,(a',n',c'),b.q1⟩:BL (LB d))).Nodup∧FrB (own1 b.q0) w w':=by
 have on:∀ k,(own1 b.q0).count k+(own1 b.q1).count k+(b.vals.flatMap (VL.fp (LB.fp d))).count k≤1:=fun k=>by
  have h:=List.nodup_iff_count.1 hnd k
  have e:LB.fp (d+1) b=own1 b.q0++own1 b.q1++b.vals.flatMap (VL.fp (LB.fp d)):=rfl
  rw[e,List.count_append,List.count_append] at h
  exact h
 have inb:∀ k,k∈own1 b.q0→k∈LB.fp (d+1) b:=fun k hk=>by
  show k∈own1 b.q0++own1 b.q1++b.vals.flatMap (VL.fp (LB.fp d))
  exact List.mem_append_left _ (List.mem_append_left _ hk)
 have hin:PutIn d w base fs vf b y:=⟨hf,fok,fl,hb.shy,hy.shy,fun k hk=>⟨fun hm=>?_,fun a ha hm=>?_,fun hm=>hap k (inb k hk) (D3b hm)⟩,hnum,hlen,hB⟩
 ·have hk':∃ k,fs.findIdx? (fun f=>decide (f.number=y.number))=some k∧fs[k]?=some x:=by
   have hx':fs.find? (fun f=>decide (f.number=y.number))=some x:=hx
   rw[List.find?_eq_getElem?_findIdx] at hx'
   have hlt:fs.findIdx (fun f=>decide (f.number=y.number)) < fs.length:=(List.getElem?_eq_some_iff.1 hx').1
   exact⟨_,List.findIdx?_eq_some_iff_findIdx_eq.2 ⟨hlt,rfl⟩,hx'⟩
  obtain⟨k,hk1,hk2⟩:=hk'
  refine(C0h hin hvb hnm hk1 hk2 hl1 hl2 hl3 hnu).mono ?_
  rintro e w' ⟨⟨a',n',c'⟩,rfl,hq,hrow,hfr⟩
  refine⟨_,a',n',c',rfl,C6c fs x b.vals y,⟨hrow,fun a ha=>?_,Row.frB (p:=b.q1) hb.r1 hfr fun k hk hm=>?_,fun r hr=>(hb.r1y r hr).frY hfr⟩,List.nodup_iff_count.2 fun k=>?_,hfr⟩
  ·rcases B9v ha with rfl|⟨ha,ho⟩
   ·exact OwnV.fr (OwnB.fr d) hy hfr fun k hk hm=>hap k (inb k hm) hk
   ·refine OwnV.fr (OwnB.fr d) (hb.r0v a ha) hfr fun k hk hm=>?_
    have h1:=List.count_pos_iff.2 hm
    have h2:=List.count_pos_iff.2 (List.mem_flatMap.2 ⟨a,ha,hk⟩)
    have:=on k
    omega
  ·have h1:=List.count_pos_iff.2 hm
   have h2:=List.count_pos_iff.2 hk
   have:=on k
   omega
  ·show(own1 (a',n',c')++own1 b.q1++List.flatMap (VL.fp (LB.fp d)) _).count k≤1
   rw[List.count_append,List.count_append]
   dsimp only
   have hc:=B2d (VL.fp (LB.fp d)) (p:=fun a=>!A0o fs x a.number) (A0j x (VL.pl (LB.pl d) y)) b.vals (A1f y.number ((b.vals.filter fun a=>!A0o fs x a.number).map (VL.pl (LB.pl d)))) y k
   have hcf:=A2w (VL.fp (LB.fp d)) (fun a=>!A0o fs x a.number) k b.vals
   have o1:=A2z (a',n',c') k
   have o2:0 < (own1 (a',n',c')).count k→0 < (own1 b.q0).count k∨w.heap.size≤k:=fun h'=>(hq k (A0i h')).imp List.count_pos_iff.2 id
   have o3:=on k
   have o4:=List.nodup_iff_count.1 hyn k
   have l0:0 < (own1 b.q0).count k→k∈LB.fp (d+1) b:=fun h'=>inb k (A0i h')
   have l1:0 < (own1 b.q1).count k→k∈LB.fp (d+1) b∧k < w.heap.size:=fun h'=>⟨by
    show k∈own1 b.q0++own1 b.q1++b.vals.flatMap (VL.fp (LB.fp d))
    exact List.mem_append_left _ (List.mem_append_right _ (A0i h')),(hb.r1.own1 k (A0i h')).2⟩
   have l2:0 < (b.vals.flatMap (VL.fp (LB.fp d))).count k→k∈LB.fp (d+1) b∧k < w.heap.size:=fun h'=>⟨by
    show k∈own1 b.q0++own1 b.q1++b.vals.flatMap (VL.fp (LB.fp d))
    exact List.mem_append_right _ (A0i h'),by
    obtain⟨v,hv,hk⟩:=List.mem_flatMap.1 (A0i h')
    exact((hb.r0v v hv).lt k hk).2⟩
   have l3:0 < (VL.fp (LB.fp d) y).count k→k∉LB.fp (d+1) b∧k < w.heap.size:=fun h'=>⟨fun hm=>hap k hm (A0i h'),(hy.lt k (A0i h')).2⟩
   by_cases hb':k∈LB.fp (d+1) b
   ·have z1:(VL.fp (LB.fp d) y).count k=0:=Nat.eq_zero_of_not_pos fun h=>(l3 h).1 hb'
    omega
   ·have z1:(own1 b.q0).count k=0:=Nat.eq_zero_of_not_pos fun h=>hb' (l0 h)
    have z2:(own1 b.q1).count k=0:=Nat.eq_zero_of_not_pos fun h=>hb' (l1 h).1
    have z3:(b.vals.flatMap (VL.fp (LB.fp d))).count k=0:=Nat.eq_zero_of_not_pos fun h=>hb' (l2 h).1
    omega
 ·have h1:=List.count_pos_iff.2 hm
  have h2:=List.count_pos_iff.2 hk
  have:=on k
  omega
 ·have h1:=List.count_pos_iff.2 hk
  have h2:=List.count_pos_iff.2 (List.mem_flatMap.2 ⟨a,ha,D3b hm⟩)
  have:=on k
  omega
set_option maxHeartbeats 8000000 in
set_option maxRecDepth 100000 in
theorem C8e {d:Nat}{w:World}{fs:List FI}{s:List UInt8}{af ab:Option Addr}{nf cf nb cb:Nat}(hf:RdL 6 FAt w (.slice af nf cf) fs) (fok:∀ f∈fs,I64 f.number∧I64 f.choice) (fl:fs.length≤140737488355328){a0 a1:Option Addr}{n0 c0 n1 c1:Nat}{b:BI (d+1)}(hq:BRd d w (.slice a0 n0 c0) (.slice a1 n1 c1) b) (hok:BOk (d+1) b){y:VI (BI d)}{x:FI}(hx:fs.find? (isF y.number)=some x){b1 b2 b3:Option Addr}{m1 d1 m2 d2 m3 d3:Nat}(r1:RdL 1 UAt w (.slice b1 m1 d1) y.bits) (r2:RdL 1 ZAt w (.slice b2 m2 d2) y.bytes) (r3:RdL 2 (BAt d) w (.slice b3 m3 d3) y.subs) (hy:VOk (BOk d) y) (hlen:((BO.vals b).length+1)*80≤140737488355328) :
  Calls Tryz.prog 130 #[.agg #[.string (S s),.slice af nf cf,.slice ab nb cb],.agg #[.slice a0 n0 c0,.slice a1 n1 c1],.agg #[.int .i64 y.number,.slice b1 m1 d1,.slice b2 m2 d2,.slice b3 m3 d3]] w fun e w'=>∃ (c:LB (d+1)) (i0:Option Addr) (j0 l0:Nat) (i1:Option Addr) (j1 l1:Nat),A6t (d+1) c = [.slice i0 j0 l0,.slice i1 j1 l1]∧e = .returned (.agg #[.slice i0 j0 l0,.slice i1 j1 l1])∧LB.pl (d+1) c=(⟨A1x fs x (BO.vals b) y,BO.unk b⟩:BO (BI d))∧OwnB w.heap.size (d+1) w' c∧(LB.fp (d+1) c).Nodup∧Below w.heap.size w w':=by
 obtain⟨W1,HW1⟩:∃ W1,Hid (W1=(((w.alloc (.cells #[.string (S s),.slice af nf cf,.slice ab nb cb] 35)).alloc (.cells #[.slice a0 n0 c0,.slice a1 n1 c1] 29)).alloc (.cells #[.int .i64 y.number,.slice b1 m1 d1,.slice b2 m2 d2,.slice b3 m3 d3] 54)).alloc (.cells #[.slice none 0 0,.slice none 0 0] 29)):=⟨_,rfl⟩
 obtain⟨xm,xa,xv,xr,z0⟩:=B9g w (.cells #[.string (S s),.slice af nf cf,.slice ab nb cb] 35) (.cells #[.slice a0 n0 c0,.slice a1 n1 c1] 29) (.cells #[.int .i64 y.number,.slice b1 m1 d1,.slice b2 m2 d2,.slice b3 m3 d3] 54) (.cells #[.slice none 0 0,.slice none 0 0] 29)
 rw[←HW1.out] at xm xa xv xr z0
 have hb1:Below w.heap.size w W1:=by rw[HW1.out];exact((((Below.refl _ _).alloc (Nat.le_refl _) _).alloc (by simp) _).alloc (by simp;omega) _).alloc (by simp;omega) _
 have hz1:w.heap.size+4≤W1.heap.size:=Nat.le_of_eq z0.symm
 obtain⟨C,HC⟩:∃ C,Hid (C=w.heap.size+3):=⟨_,rfl⟩
 have hC1:C≤w.heap.size+3:=Nat.le_of_eq HC.out
 have hC2:w.heap.size+3≤C:=Nat.le_of_eq HC.out.symm
 have hcl:∀ V,Below C W1 V→(V.cell? ⟨w.heap.size,0,none⟩=some (.string (S s))∧V.cell? ⟨w.heap.size,1,none⟩=some (.slice af nf cf)∧V.cell? ⟨w.heap.size,2,none⟩=some (.slice ab nb cb))∧(V.cell? ⟨w.heap.size+1,0,none⟩=some (.slice a0 n0 c0)∧V.cell? ⟨w.heap.size+1,1,none⟩=some (.slice a1 n1 c1))∧(V.cell? ⟨w.heap.size+2,0,none⟩=some (.int .i64 y.number)∧V.cell? ⟨w.heap.size+2,1,none⟩=some (.slice b1 m1 d1)∧V.cell? ⟨w.heap.size+2,2,none⟩=some (.slice b2 m2 d2)∧V.cell? ⟨w.heap.size+2,3,none⟩=some (.slice b3 m3 d3)):=fun V hV=>
  ⟨B3e ((hV.block _ (by omega)).trans xm),A0v ((hV.block _ (by omega)).trans xa),A1r ((hV.block _ (by omega)).trans xv)⟩
 have hD:Below C W1 W1.drew:=(Below.refl _ _).drew
 have hDD:Below W1.heap.size W1 W1.drew:=(Below.refl _ _).drew
 have hwD:Below w.heap.size w W1.drew:=BTr hb1 hDD
 have hown:=B4f (d+1) W1.drew W1.heap.size a0 n0 c0 a1 n1 c1 b (Nat.le_refl _) (hq.below hwD) hok
 have hov:∀ V,Below W1.heap.size W1 V→Calls Tryz.prog 83 #[.agg #[.int .i64 y.number,.slice b1 m1 d1,.slice b2 m2 d2,.slice b3 m3 d3]] V fun e w'=>∃ (yv:VL (LB d)) (q0:Int) (x1:Option Addr) (y1 z1:Nat) (x2:Option Addr) (y2 z2:Nat) (x3:Option Addr) (y3 z3:Nat),(ekV (LB d)).enc yv = [.int .i64 q0,.slice x1 y1 z1,.slice x2 y2 z2,.slice x3 y3 z3]∧e = .returned (.agg #[.int .i64 q0,.slice x1 y1 z1,.slice x2 y2 z2,.slice x3 y3 z3])∧VL.pl (LB.pl d) yv=y∧OwnV (ekB d) (OwnB W1.heap.size d) w' W1.heap.size yv∧(∀ k∈VL.fp (LB.fp d) yv,V.heap.size≤k)∧(VL.fp (LB.fp d) yv).Nodup∧Below V.heap.size V w':=fun V hV=>C0c d V W1.heap.size y b1 m1 d1 b2 m2 d2 b3 m3 d3 hV.size (r1.below UAt.stays (BTr hb1 hV)) (r2.below ZAt.stays (BTr hb1 hV)) (r3.below (BAt.stays d) (BTr hb1 hV)) hy
 have hput:∀ (V2 V3:World) (yb:BL (LB d)) (yv:VL (LB d)),Below W1.heap.size W1 V2→Below V2.heap.size V2 V3→LB.pl (d+1) yb=b→OwnB W1.heap.size (d+1) V2 yb→(LB.fp (d+1) yb).Nodup→VL.pl (LB.pl d) yv=y→OwnV (ekB d) (OwnB W1.heap.size d) V3 W1.heap.size yv→(∀ k∈VL.fp (LB.fp d) yv,V2.heap.size≤k)→(VL.fp (LB.fp d) yv).Nodup→
   Calls Tryz.prog 81 #[.agg #[.string (S s),.slice af nf cf,.slice ab nb cb],.agg #[yb.q0.v,yb.q1.v],.agg #[.int .i64 yv.number,yv.p1.v,yv.p2.v,yv.p3.v]] V3 fun e w'=>∃ (l:List (VL (LB d))) (a':Option Addr) (n' c':Nat),e = .returned (.agg #[.slice a' n' c',yb.q1.v])∧(∀ V',FrB [w.heap.size+3] w' V'→OwnB W1.heap.size (d+1) V' (⟨l,yb.unk,(a',n',c'),yb.q1⟩:BL (LB d)))∧LB.pl (d+1) (⟨l,yb.unk,(a',n',c'),yb.q1⟩:BL (LB d))=(⟨A1x fs x (BO.vals b) y,BO.unk b⟩:BO (BI d))∧(LB.fp (d+1) (⟨l,yb.unk,(a',n',c'),yb.q1⟩:BL (LB d))).Nodup∧Below W1.heap.size W1 w':=by
  intro V2 V3 yb yv h2 h3 hpl hob hnd hplv hoy hge hyn
  have hB3:Below W1.heap.size W1 V3:=BTr h2 h3
  have hob3:OwnL (ekB d) (OwnB W1.heap.size d) V3 W1.heap.size yb:=OwnB.below hob h3
  have hinb:=OwnB.inB (d+1) hob
  have hpn:yv.number=y.number:=by rw[←hplv];rfl
  have hpv:yb.vals.map (VL.pl (LB.pl d))=BO.vals b:=congrArg BO.vals hpl
  have hpu:yb.unk.map Prod.fst=BO.unk b:=congrArg BO.unk hpl
  obtain⟨y1,y2,y3,y4,y5,y6,y7⟩:=hy
  unfold reachBytes at y3 y5 y7
  have e1:yv.bits=y.bits:=by rw[←hplv];rfl
  have e2:yv.bytes.length=y.bytes.length:=by rw[←hplv];simp[VL.pl]
  have e3:yv.subs.length=y.subs.length:=by rw[←hplv];simp[VL.pl]
  refine(C8d (x:=x) (hf.below FAt.stays (BTr hb1 hB3)) fok fl ⟨_,_,_,rfl⟩ ⟨_,rfl⟩ hob3 hnd hoy hyn (fun k hk hm=>?_) (fun a ha=>?_) ?_ hB3.size (by rw[hpn];exact hx) (by rw[e1];omega) (by rw[e2];omega) (by rw[e3];omega) (by rw[hpn];exact y1)).mono ?_
  ·have:=(hinb k hk).2
   have:=hge k hm
   omega
  ·have:VL.pl (LB.pl d) a∈BO.vals b:=by rw[←hpv];exact List.mem_map_of_mem ha
   exact(hok.1 _ this).1
  ·have:yb.vals.length=(BO.vals b).length:=by rw[←hpv,List.length_map]
   rw[this];exact hlen
  ·rintro e w' ⟨l,a',n',c',rfl,hmap,hol,hnl,hfr⟩
   refine⟨l,a',n',c',rfl,fun V' hV'=>?_,?_,hnl,?_⟩
   ·have hlo:∀ k∈LB.fp (d+1) (⟨l,yb.unk,(a',n',c'),yb.q1⟩:BL (LB d)),W1.heap.size≤k:=fun k hk=>(OwnB.inB (d+1) (w:=w') (b:=(⟨l,yb.unk,(a',n',c'),yb.q1⟩:BL (LB d))) hol k hk).1
    exact OwnB.fr (d+1) [w.heap.size+3] w' V' (⟨l,yb.unk,(a',n',c'),yb.q1⟩:BL (LB d)) hol hV' (fun k hk hm=>by have:=hlo k hk;rw[List.mem_singleton.1 hm] at this;omega)
   ·show(⟨l.map (VL.pl (LB.pl d)),yb.unk.map Prod.fst⟩:BO (BI d))=_
    rw[hmap,hpu,hpv,hplv]
   ·exact hB3.trans (hfr.below hB3.size (fun k hk=>(hob3.r0.own1 k hk).1))
 obtain⟨⟨q0,q1,q2⟩,⟨q3,q4⟩,⟨q5,q6,q7,q8⟩⟩:=hcl W1.drew hD
 clear hf fok fl hq hok hx r1 r2 r3 hy hlen xm xa xv z0
 go_enter Tryz.func130,Tryz.ntmps130
 go_upto_region 1 with fail
 rw[←HW1.out]
 refine wp_region_held_drew (S:=fun V=>Below C W1 V) (by kernel_rfl) hD (fun hHeld=>?_)
 refine tK (i:=0) (v:=?vo1) rfl (fun _ _ _ h=>h) ⟨by rfl,?hyo1⟩ (by assumption) ?_
 case hyo1=>(intro W hSw;obtain⟨⟨o1,o2,o3⟩,⟨o4,o5⟩,⟨o6,o7,o8,o9⟩⟩:=hcl W hSw;go_simp;first|done|with_reducible rfl)
 try simp only[pT,Act.put]
 refine tK (i:=1) (v:=?vo2) rfl (fun _ _ _ h=>h) ⟨by rfl,?hyo2⟩ (by assumption) ?_
 case hyo2=>(intro W hSw;obtain⟨⟨o1,o2,o3⟩,⟨o4,o5⟩,⟨o6,o7,o8,o9⟩⟩:=hcl W hSw;go_simp;first|done|with_reducible rfl)
 try simp only[pT,Act.put]
 refine tK (i:=3) (v:=?vo3) rfl (fun _ _ _ h=>h) ⟨by rfl,?hyo3⟩ (by assumption) ?_
 case hyo3=>(intro W hSw;obtain⟨⟨o1,o2,o3⟩,⟨o4,o5⟩,⟨o6,o7,o8,o9⟩⟩:=hcl W hSw;go_simp;first|done|with_reducible rfl)
 try simp only[pT,Act.put]
 refine wpAnyH_ready (rs:=[2]) (by kernel_rfl) (by simp) ?_
 refine AllReadyH.cons rfl (fun K hK=>?_) AllReadyH.nil
 go_simp
 refine hown.mono ?_
 rintro r w2 ⟨yb,i0,j0,l0,i1,j1,l1,henc,rfl,hpl,hob,hge2,hnd,hb2⟩
 have hB2:Below W1.heap.size W1 w2:=BTr hDD hb2
 have hS2:Below C W1 w2:=hB2.mono (by omega)
 have hov2:=hov w2 hB2
 refine hK.out _ _ ?_ (fun hHeld=>?_)
 ·(try dsimp only);first|with_reducible exact hD|with_reducible exact hS2|with_reducible exact hS3|with_reducible exact hS4|exact A0p (A0p hS4 (by omega)) (by omega)
 clear hK K
 try simp only[pT,Act.put]
 refine wpAnyH_ready (rs:=[4]) (by kernel_rfl) (by simp) ?_
 refine AllReadyH.cons rfl (fun K hK=>?_) AllReadyH.nil
 go_simp
 refine hov2.mono ?_
 rintro r w3 ⟨yv,t0,i2,j2,l2,i3,j3,l3,i4,j4,l4,henv,rfl,hplv,hoy,hge3,hnd3,hb3⟩
 have hB3:Below W1.heap.size W1 w3:=BTr hB2 hb3
 have hS3:Below C W1 w3:=hB3.mono (by omega)
 have hput3:=hput w2 w3 yb yv hB2 hb3 hpl hob hnd hplv hoy hge3 hnd3
 obtain⟨e0,e1⟩:(BL.q0 yb).v = .slice i0 j0 l0∧(BL.q1 yb).v = .slice i1 j1 l1:=by
  have h8 : [(BL.q0 yb).v,(BL.q1 yb).v] = [.slice i0 j0 l0,.slice i1 j1 l1]:=henc
  simpa using h8
 obtain⟨e2,e3,e4,e5⟩:yv.number=t0∧yv.p1.v = .slice i2 j2 l2∧yv.p2.v = .slice i3 j3 l3∧yv.p3.v = .slice i4 j4 l4:=by
  have h8 : [Value.int .i64 yv.number,yv.p1.v,yv.p2.v,yv.p3.v] = [.int .i64 t0,.slice i2 j2 l2,.slice i3 j3 l3,.slice i4 j4 l4]:=henv
  simpa using h8
 have HE1:Hid ((BL.q1 yb).v = .slice i1 j1 l1):=e1
 rw[e0,e1,e2,e3,e4,e5] at hput3
 clear e0 e1 e2 e3 e4 e5 henc henv hpl hob hge2 hnd hplv hoy hge3 hnd3
 refine hK.out _ _ ?_ (fun hHeld=>?_)
 ·(try dsimp only);first|with_reducible exact hD|with_reducible exact hS2|with_reducible exact hS3|with_reducible exact hS4|exact A0p (A0p hS4 (by omega)) (by omega)
 clear hK K
 try simp only[pT,Act.put]
 refine wpAnyH_ready (rs:=[5]) (by kernel_rfl) (by simp) ?_
 refine AllReadyH.cons rfl (fun K hK=>?_) AllReadyH.nil
 go_simp
 refine hput3.mono ?_
 rintro r w4 ⟨ll,a',n',c',rfl,hR4,hP4,hN4,hB4⟩
 have hS4:Below C W1 w4:=hB4.mono (by omega)
 have x4:=(hB4.block _ (by omega)).trans xr
 obtain⟨g0,g1⟩:=A0v x4
 have fr4:=A0b x4
 refine hK.out _ _ ?_ (fun hHeld=>?_)
 ·(try dsimp only);first|with_reducible exact hD|with_reducible exact hS2|with_reducible exact hS3|with_reducible exact hS4|exact A0p (A0p hS4 (by omega)) (by omega)
 clear hK K
 try simp only[pT,Act.put]
 refine wpAnyH_ready (rs:=[6]) (by kernel_rfl) (by simp) ?_
 refine AllReadyH.cons rfl (fun K hK=>?_) AllReadyH.nil
 go_simp
 refine hK.out _ _ ?_ (fun hHeld=>?_)
 ·(try dsimp only);first|with_reducible exact hD|with_reducible exact hS2|with_reducible exact hS3|with_reducible exact hS4|exact A0p (A0p hS4 (by omega)) (by omega)
 clear hK K
 try simp only[pT,Act.put]
 refine wpAnyH_done (by kernel_rfl) ?_ _
 go_wp2_with fail
 refine bodyPost_ret (v:=.agg #[.slice a' n' c',.slice i1 j1 l1]) (by simp[results,Tryz.results130,go_sem, *]) rfl ?_
 exact⟨_,a',n',c',i1,j1,l1,by show [_,_]=_;rw[HE1.out];rfl,rfl,hP4,OwnB.mono (d+1) (hR4 _ (fr2 x4)) (by omega),hN4,A0p (A0p (BTr hb1 hB4) (by omega)) (by omega)⟩
end L
end Go.Proofs.YtcagbdokbnpdfaaGreatDoor
namespace Go.Proofs.YtcagbdokbnpdfaaGreatDoor
namespace L
open Go.RowKit
set_option linter.unusedVariables false
def C2p (g:GI) (t:List UInt8):Int:=A0k (fun m:MI=>decide (m.name=t)) g.msgs
def C2n (g:GI):(d:Nat)→FI→VI (BI d)→VI (BI d)→Except Int (VI (BI d))
 | 0=>fun x a b=>.ok (A2o (jnB g.msgs 0) g.msgs x a b)
 | d+1=>fun x a b=>
  if x.many=false∧x.kind=10 then
   match a.subs,b.subs with
   | s::_,t::_=>if A3g g d (C2p g x.type) s t=0 then .ok (A2o (jnB g.msgs (d+1)) g.msgs x a b) else .error (A3g g d (C2p g x.type) s t)
   | _,_=>.ok (A2o (jnB g.msgs (d+1)) g.msgs x a b)
  else .ok (A2o (jnB g.msgs (d+1)) g.msgs x a b)
theorem A4b (g:GI) (d:Nat) (x:FI) (a b:VI (BI (d+1))):C2n g (d+1) x a b=if x.many=false∧x.kind=10 then
   match a.subs,b.subs with
   | s::_,t::_=>if A3g g d (C2p g x.type) s t=0 then .ok (A2o (jnB g.msgs (d+1)) g.msgs x a b) else .error (A3g g d (C2p g x.type) s t)
   | _,_=>.ok (A2o (jnB g.msgs (d+1)) g.msgs x a b)
  else .ok (A2o (jnB g.msgs (d+1)) g.msgs x a b):=rfl
def A1m (g:GI) (d:Nat) (fs:List FI) (x:FI) (b:BO (BI d)) (v:VI (BI d)):Except Int (BO (BI d)):=
 if A1i v=0 then .ok b
 else match b.vals.find? (isV v.number) with
  | none=>if 60 < A1i v then .error 5 else .ok ⟨A1x fs x b.vals v,b.unk⟩
  | some u=>match C2n g d x u v with
   | .error E=>.error E
   | .ok v'=>if 60 < A1i v' then .error 5 else .ok ⟨A1x fs x b.vals v',b.unk⟩
set_option maxHeartbeats 1000000 in
theorem B5c {w:World}{d:Nat}(v:VI (BI d)){a1 a2 a3:Option Addr}{n1 n2 n3 c1 c2 c3:Nat}(h1:n1=v.bits.length) (h2:n2=v.bytes.length) (h3:n3=v.subs.length) (hl:n1+n2+n3≤1000000000000) (q:Int) :
  Calls Tryz.prog 127 #[.agg #[.int .i64 q,.slice a1 n1 c1,.slice a2 n2 c2,.slice a3 n3 c3]] w fun e w'=>e = .returned (.int .i64 ((A1i v:Nat):Int))∧Below w.heap.size w w':=by
 have hb:Below w.heap.size w (w.alloc (.cells #[.int .i64 q,.slice a1 n1 c1,.slice a2 n2 c2,.slice a3 n3 c3] 54)):=(Below.refl _ _).alloc (Nat.le_refl _) _
 have HN:Hid (((A1i v:Nat):Int)=(n1:Int)+(n2:Int)+(n3:Int)):=by show _=_;unfold A1i;rw[h1,h2,h3];omega
 have hn1:n1≤1000000000000:=by omega
 have hn2:n2≤1000000000000:=by omega
 have hn3:n3≤1000000000000:=by omega
 have e1:IntKind.i64.wrap ((n1:Int)+(n2:Int))=(n1:Int)+(n2:Int):=by rw[IntKind.wrap_i64];omega
 have e2:IntKind.i64.wrap ((n1:Int)+(n2:Int)+(n3:Int))=(n1:Int)+(n2:Int)+(n3:Int):=by rw[IntKind.wrap_i64];omega
 clear h1 h2 h3 hl
 go_enter Tryz.func127,Tryz.ntmps127
 go_wp2_with fail
 go_ret
 exact⟨by rw[HN.out];rfl,hb⟩
end L
end Go.Proofs.YtcagbdokbnpdfaaGreatDoor
namespace Go.Proofs.YtcagbdokbnpdfaaGreatDoor
namespace L
open Go.RowKit
set_option linter.unusedVariables false
theorem C5y {d:Nat}{w:World}{base:Nat}{v:VL (LB d)}(h:OwnV (ekB d) (OwnB base d) w base v):RdL 1 UAt w v.p1.v (VL.pl (LB.pl d) v).bits∧RdL 1 ZAt w v.p2.v (VL.pl (LB.pl d) v).bytes∧RdL 2 (BAt d) w v.p3.v (VL.pl (LB.pl d) v).subs:=
 ⟨h.r1.rdU,h.r2.rdZ h.r2y,RdL.mapB (P:=fun w (x:Addr) (s:LB d)=>∃ g i,x=⟨g,i,none⟩∧∀ j u,(A6t d s)[j]?=some u→w.cell? ⟨g,i+j,none⟩=some u) _ (h.r3.rd _ fun g i a hc=>⟨g,i,rfl,hc⟩) fun _ s hs' ⟨g,i,e,hc⟩=>by rw[e];exact OwnB.at d s g i (h.r3s s hs') hc⟩
def D3c (d:Nat) (w:World) (F:List Nat) (num:Int) (res:Except Int (VI (BI d))) (e:Ending) (w':World):Prop:=
 ∃ (a1:Option Addr) (n1 c1:Nat) (a2:Option Addr) (n2 c2:Nat) (a3:Option Addr) (n3 c3:Nat) (E:Int),e = .returned (.tuple #[.agg #[.int .i64 num,.slice a1 n1 c1,.slice a2 n2 c2,.slice a3 n3 c3],.int .i64 E])∧FrB F w w'∧
  match res with
  | .error E'=>E=E'∧E≠0
  | .ok v=>E=0∧v.number=num∧∀ w'',Apt F w w' w''→RdL 1 UAt w'' (.slice a1 n1 c1) v.bits∧RdL 1 ZAt w'' (.slice a2 n2 c2) v.bytes∧RdL 2 (BAt d) w'' (.slice a3 n3 c3) v.subs
theorem D3g {ms:List MI}{d:Nat}{W0 w:World}{x:FI}{y z:VL (LB d)}{e:Ending}{w':World}(h:B6v ms d W0 w x y z e w') (hn:(A2o (jnB ms d) ms x (VL.pl (LB.pl d) y) (VL.pl (LB.pl d) z)).number=z.number):D3c d w (VL.fp (LB.fp d) y++VL.fp (LB.fp d) z) z.number (.ok (A2o (jnB ms d) ms x (VL.pl (LB.pl d) y) (VL.pl (LB.pl d) z))) e w':=by
 obtain⟨t,rfl,hpl,ho,_,hfm,hf⟩:=h
 have hrd:∀ w'',Apt (VL.fp (LB.fp d) y++VL.fp (LB.fp d) z) w w' w''→RdL 1 UAt w'' t.p1.v (A2o (jnB ms d) ms x (VL.pl (LB.pl d) y) (VL.pl (LB.pl d) z)).bits∧RdL 1 ZAt w'' t.p2.v (A2o (jnB ms d) ms x (VL.pl (LB.pl d) y) (VL.pl (LB.pl d) z)).bytes∧RdL 2 (BAt d) w'' t.p3.v (A2o (jnB ms d) ms x (VL.pl (LB.pl d) y) (VL.pl (LB.pl d) z)).subs:=fun w'' ⟨G,hG,hGF⟩=>by
  rw[←hpl]
  exact C5y (OwnV.fr (OwnB.fr d) ho hG (fun k hk hm=>by
   have h1:=hGF k hm
   rcases hfm.mem hk with h|h
   ·exact h1.2 h
   ·omega))
 have htn:t.number=z.number:=by rw[←hn,←hpl];rfl
 obtain⟨nu,bi,by',su,⟨a1,n1,c1⟩,⟨a2,n2,c2⟩,⟨a3,n3,c3⟩⟩:=t
 have htn:nu=z.number:=htn
 subst htn
 exact⟨a1,n1,c1,a2,n2,c2,a3,n3,c3,0,rfl,hf,rfl,hn,hrd⟩
theorem C8g {g:GI}{d:Nat}{W0 w:World}{y z:VL (LB d)}(h:MetIn d W0 w y z){am:Option Addr}{nm cm:Nat}{ae:Option Addr}{ne ce:Nat}(x:FI) (hnn:y.number=z.number) (hI:∀ j:Nat,j < g.msgs.length→WIn g am nm cm ae ne ce (j:Int) w)
  (hsub:x.many=false→x.kind=10→(∃ M,g.msgs.find? (isN x.type)=some M)∧y.bits = []∧y.bytes = []∧z.bits = []∧z.bytes = []∧∃ s t,y.subs = [s]∧z.subs = [t]∧BOk d (LB.pl d s)∧BOk d (LB.pl d t)) :
  Calls Tryz.prog 129 #[.agg #[.slice am nm cm,.slice ae ne ce],vFI x,.agg #[.int .i64 y.number,y.p1.v,y.p2.v,y.p3.v],.agg #[.int .i64 z.number,z.p1.v,z.p2.v,z.p3.v]] w fun e w'=>D3c d w (VL.fp (LB.fp d) y++VL.fp (LB.fp d) z) z.number (C2n g d x (VL.pl (LB.pl d) y) (VL.pl (LB.pl d) z)) e w':=by
 have hnn':(VL.pl (LB.pl d) y).number=(VL.pl (LB.pl d) z).number:=hnn
 have hmn:(A2o (jnB g.msgs d) g.msgs x (VL.pl (LB.pl d) y) (VL.pl (LB.pl d) z)).number=z.number:=A4p hnn'
 cases hm:x.many with
 | true=>
  have e:C2n g d x (VL.pl (LB.pl d) y) (VL.pl (LB.pl d) z) = .ok (A2o (jnB g.msgs d) g.msgs x (VL.pl (LB.pl d) y) (VL.pl (LB.pl d) z)):=by
   cases d with
   | zero=>rfl
   | succ d=>rw[A4b,if_neg (by rw[hm];simp)]
  rw[e]
  exact(C4h h am nm cm ae ne ce x hm hnn).mono fun e w' ho=>D3g ho hmn
 | false=>
  by_cases hk:x.kind=10
  ·obtain⟨⟨M,hM⟩,q1,q2,q3,q4,s,t,hs,ht,oks,okt⟩:=hsub hm hk
   cases d with
   | zero=>exact(nomatch (s:Empty))
   | succ d=>
    have hfj:∃ j:Nat,g.msgs[j]?=some M∧A0k (fun m:MI=>decide (m.name=x.type)) g.msgs=(j:Int):=by
     have hM':g.msgs.find? (fun m=>decide (m.name=x.type))=some M:=hM
     obtain⟨h1,la,lb,e,h2⟩:=List.find?_eq_some_iff_append.1 hM'
     have hj:g.msgs[la.length]?=some M:=by rw[e];simp
     refine⟨la.length,hj,A5o hj (fun a ha=>?_) h1⟩
     rw[e,List.take_left' rfl] at ha
     simpa using h2 a ha
    obtain⟨j,hj,hfi⟩:=hfj
    have hjl:j < g.msgs.length:=(List.getElem?_eq_some_iff.1 hj).1
    have hab:∀ k∈own1 y.p3,k∉own1 z.p3:=fun k hk1 hk2=>by
     have h1:=h.once k
     rw[A1p,A1p] at h1
     have:=List.count_pos_iff.2 hk1
     have:=List.count_pos_iff.2 hk2
     omega
    have e1:(VL.pl (LB.pl (d+1)) y).subs = [LB.pl (d+1) s]:=by simp[VL.pl,hs]
    have e2:(VL.pl (LB.pl (d+1)) z).subs = [LB.pl (d+1) t]:=by simp[VL.pl,ht]
    have hw:jWB (d+1) (LB.pl (d+1) s)+jWB (d+1) (LB.pl (d+1) t)≤1000000000:=by
     have h1:=h.len
     unfold jW at h1
     rw[e1,e2] at h1
     simp only[List.map_cons,List.map_nil,List.sum_cons,List.sum_nil] at h1
     omega
    have eR:C2n g (d+1) x (VL.pl (LB.pl (d+1)) y) (VL.pl (LB.pl (d+1)) z)=if A3g g d (j:Int) (LB.pl (d+1) s) (LB.pl (d+1) t)=0 then .ok (A2o (jnB g.msgs (d+1)) g.msgs x (VL.pl (LB.pl (d+1)) y) (VL.pl (LB.pl (d+1)) z)) else .error (A3g g d (j:Int) (LB.pl (d+1) s) (LB.pl (d+1) t)):=by
     rw[A4b,if_pos ⟨hm,hk⟩,show C2p g x.type=(j:Int) from hfi,e1,e2]
    refine(C8h h.below h.hy h.hz x hm hk hfi (hI j hjl) hs ht hab oks okt hw).mono ?_
    rintro e w' ⟨rfl,hf,hz0⟩
    rw[eR]
    obtain⟨mu,bj,bz',sv,⟨b1,m1,d1⟩,⟨b2,m2,d2⟩,⟨b3,m3,d3⟩⟩:=z
    refine⟨b1,m1,d1,b2,m2,d2,b3,m3,d3,_,rfl,hf.mono (fun k hk'=>List.mem_append_right _ (by unfold VL.fp;simp[hk'])),?_⟩
    by_cases hz:A3g g d (j:Int) (LB.pl (d+1) s) (LB.pl (d+1) t)=0
    ·rw[if_pos hz]
     obtain⟨M',hM',hrd⟩:=hz0 hz
     rw[hj] at hM'
     cases hM'
     have q3:bj = []:=q3
     have q4:bz' = []:=q4
     subst q3
     subst q4
     have em:A2o (jnB g.msgs (d+1)) g.msgs x (VL.pl (LB.pl (d+1)) y) (VL.pl (LB.pl (d+1)) ⟨mu,[],[],sv,(b1,m1,d1),(b2,m2,d2),(b3,m3,d3)⟩)=⟨y.number,[],[],[jnB g.msgs (d+1) M (LB.pl (d+1) s) (LB.pl (d+1) t)]⟩:=by
      unfold A2o
      rw[hm,if_neg (by simp),if_pos hk,hM,e1,e2]
      show(⟨y.number,y.bits,y.bytes.map Prod.fst,_⟩:VI (BI (d+1)))=_
      rw[q1,q2]
      rfl
     have hr1:Row ekU w W0.heap.size (PV.v (b1,m1,d1)) []:=h.hz.r1
     have hr2:Row ekZ w W0.heap.size (PV.v (b2,m2,d2)) []:=h.hz.r2
     have hn3:∀ k∈own1 (b3,m3,d3),k∉own1 (b1,m1,d1)∧k∉own1 (b2,m2,d2):=fun k hk1=>by
      have h1:=h.once k
      rw[A1p,A1p] at h1
      have h2:=List.count_pos_iff.2 hk1
      dsimp only at h1
      refine⟨fun hm=>?_,fun hm=>?_⟩ <;> (have h3:=List.count_pos_iff.2 hm;omega)
     have hr1':=Row.frB (p:=(b1,m1,d1)) hr1 hf (fun k hk1 hk2=>(hn3 k hk2).1 hk1)
     have hr2':=Row.frB (p:=(b2,m2,d2)) hr2 hf (fun k hk1 hk2=>(hn3 k hk2).2 hk1)
     refine⟨hz,hmn,fun w'' ⟨G,hG,hGF⟩=>?_⟩
     have hnG:∀ k∈VL.fp (LB.fp (d+1)) (⟨mu,[],[],sv,(b1,m1,d1),(b2,m2,d2),(b3,m3,d3)⟩:VL (LB (d+1))),k∉G:=fun k hk hm=>(hGF k hm).2 (List.mem_append_right _ hk)
     have hr1'':=Row.frB (p:=(b1,m1,d1)) hr1' hG (fun k hk1 hk2=>hnG k (by unfold VL.fp;simp[hk1]) hk2)
     have hr2'':=Row.frB (p:=(b2,m2,d2)) hr2' hG (fun k hk1 hk2=>hnG k (by unfold VL.fp;simp[hk1]) hk2)
     refine⟨?_,?_,?_⟩
     ·rw[em];exact hr1''.rdU
     ·rw[em]
      have:=hr2''.rdZ (fun z hz=>(List.not_mem_nil hz).elim)
      exact this
     ·rw[em];exact hrd w'' ⟨G,hG,fun k hm=>⟨(hGF k hm).1,fun hk=>hnG k (by unfold VL.fp;simp[hk]) hm⟩⟩
    ·rw[if_neg hz]
     exact⟨rfl,hz⟩
  ·have e:C2n g d x (VL.pl (LB.pl d) y) (VL.pl (LB.pl d) z) = .ok (A2o (jnB g.msgs d) g.msgs x (VL.pl (LB.pl d) y) (VL.pl (LB.pl d) z)):=by
    cases d with
    | zero=>rfl
    | succ d=>rw[A4b,if_neg (fun h=>hk h.2)]
   rw[e]
   exact(C4g h am nm cm ae ne ce x hm hk).mono fun e w' ho=>D3g ho hmn
end L
end Go.Proofs.YtcagbdokbnpdfaaGreatDoor
namespace Go.Proofs.YtcagbdokbnpdfaaGreatDoor
namespace L
def A3t (k:Int):Int:=if k=6 then 1 else if k=7 then 5 else if k=8∨k=9∨k=10 then 2 else 0
def D3s (m:MI):List Int:=(m.fields.map FI.number).mergeSort fun x y=>decide (x≤y)
def D5l:FI:=⟨[],0,0,[],false,0⟩
def A1n (l:List FI) (n:Int):FI:=(l.find? fun f=>decide (f.number=n)).getD D5l
theorem C8s {l:List FI}{n:Int}(h:∃ f∈l,f.number=n):∃ k:Nat,A0k (fun f=>decide (f.number=n)) l=(k:Int)∧l[k]?=some (A1n l n)∧(A1n l n).number=n∧A1n l n∈l:=by
 unfold A0k A1n
 induction l with
 | nil=>obtain⟨f,hf,_⟩:=h;cases hf
 | cons a r ih=>
  by_cases ha:a.number=n
  ·refine⟨0,?_,?_,?_,?_⟩ <;> simp[List.findIdx?_cons,ha]
  ·have h':∃ f∈r,f.number=n:=by
    obtain⟨f,hf,hn⟩:=h
    rcases List.mem_cons.1 hf with rfl|hf
    ·exact absurd hn ha
    ·exact⟨f,hf,hn⟩
   obtain⟨k,h1,h2,h3,h4⟩:=ih h'
   have e:(a::r).find? (fun f=>decide (f.number=n))=r.find? fun f=>decide (f.number=n):=by simp[ha]
   rw[e]
   refine⟨k+1,?_,by simpa using h2,h3,List.mem_cons_of_mem _ h4⟩
   rw[List.findIdx?_cons]
   simp only[ha,decide_false,Bool.false_eq_true,if_false]
   cases hx:r.findIdx? (fun f=>decide (f.number=n)) with
   | none=>rw[hx] at h1;simp at h1
   | some j=>rw[hx] at h1;simp at h1 ⊢;omega
end L
end Go.Proofs.YtcagbdokbnpdfaaGreatDoor
namespace Go.Proofs.YtcagbdokbnpdfaaGreatDoor
namespace L
open Go.RowKit
theorem KBT {A V V':World}(h:Below A.heap.size A V) (k:Below V.heap.size V V'):Below A.heap.size A V':=h.trans (k.mono h.size)
theorem A6m {W V:World}{B:Nat}(h:Below B W V) (hB:B≤W.heap.size) (o:Obj):Below B W (V.alloc o):=h.alloc (Nat.le_trans hB h.size) o
theorem D0v {W V V':World}{B:Nat}{r:Option Nat}(h:Below B W V) (hB:B≤W.heap.size) (hg:V.grownBy V' r) (hr:∀ k,r=some k→B≤k):Below B W V':=h.grown hg (Nat.le_trans hB h.size) hr
theorem A7s {α:Type}(E:EK α) (w:World) (y : α):∀ ad,some (⟨w.heap.size,0,none⟩:Addr)=some ad→∀ k z,[y][k]?=some z→∀ j u,(E.enc z)[j]?=some u→(w.alloc (.cells (E.enc y).toArray E.elem)).cell? (ad.add (k*E.size+j))=some u:=by
 intro ad had k z hz j u hu
 cases had
 cases k with
 | succ k=>simp at hz
 | zero=>
  have hz:y=z:=by simpa using hz
  subst hz
  rw[A0f,Nat.zero_mul,Nat.zero_add,Nat.zero_add]
  exact A0a (heap_alloc_new w _) j u (by simpa using hu)
theorem D2i {α β:Type}{sz:Nat}{P:World→Addr→α→Prop}{R:World→Addr→β→Prop}{w:World}{v:Value}{l:List α}(f : α→β) (h:RdL sz P w v l) (hf:∀ x a,a∈l→P w x a→R w x (f a)):RdL sz R w v (l.map f):=by
 obtain⟨ao,n,cap,e,h1,h2,h3,h4,h5⟩:=h
 refine⟨ao,n,cap,e,by simpa using h1,h2,h3,h4,fun x hx k b hb=>?_⟩
 rw[List.getElem?_map] at hb
 cases ha:l[k]? with
 | none=>rw[ha] at hb;simp at hb
 | some a=>
  rw[ha] at hb
  simp at hb
  subst hb
  exact hf _ a (List.mem_of_getElem? ha) (h5 x hx k a ha)
theorem Row.low {α:Type}{E:EK α}{w:World}{base g:Nat}{v:Value}{l:List α}(h:Row E w base v l) (hg:g < base) (i:Nat) (x:Value):Row E (w.setCell ⟨g,i,none⟩ x) base v l:=
 h.other (fun e=>by have:=(h.own g e).1;omega) i x
theorem A0d {W V:World}{B g i:Nat}{x:Value}(h:Below B W V) (hg:B≤g):Below B W (V.setCell ⟨g,i,none⟩ x):=h.setCell (p:=⟨g,i,none⟩) hg x
end L
end Go.Proofs.YtcagbdokbnpdfaaGreatDoor
