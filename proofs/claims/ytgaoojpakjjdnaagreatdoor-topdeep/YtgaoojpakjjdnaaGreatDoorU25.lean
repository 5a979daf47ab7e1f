import Derived.Test.YtgaoojpakjjdnaaGreatDoorU24
import Derived.Test.YtgaoojpakjjdnaaGreatDoorU15
import Derived.Deep.RegionHeld3
import Derived.Deep.CutRange
import Derived.Deep.DeepCutAuto
import Derived.Test.YtgaoojpakjjdnaaGreatDoorU18
import Derived.Test.YtgaoojpakjjdnaaGreatDoorU16
set_option maxHeartbeats 32000000
set_option maxRecDepth 100000
namespace Go.Proofs.YtgaoojpakjjdnaaGreatDoor
namespace L
open Go.RowKit
set_option linter.unusedVariables false
theorem C4f {d:Nat}{w:World}{base:Nat}{fs:List FI}{vf vb nm:Value}{b:BL (LB d)}{y:VL (LB d)}{x:FI}(hf:RdL 6 FAt w vf fs) (fok:∀ f∈fs,I64 f.number∧I64 f.choice) (fl:fs.length≤140737488355328) (bl:∃ ao n cap,vb = .slice ao n cap) (bh:∃ s:List UInt8,nm = .string (S s)) (hb:OwnL (ekB d) (OwnB base d) w base b) (bg:(LB.fp (d+1) b).Nodup) (hy:OwnV (ekB d) (OwnB base d) w base y) (bn:(VL.fp (LB.fp d) y).Nodup) (hap:∀ k∈LB.fp (d+1) b,k∉VL.fp (LB.fp d) y) (ag:∀ a∈b.vals,I64 a.number) (hlen:(b.vals.length+1)*80≤140737488355328) (hB:base≤w.heap.size) (hx:fs.find? (isF y.number)=some x) (ba:y.bits.length≤140737488355328) (hl2:y.bytes.length≤140737488355328) (bc:y.subs.length≤140737488355328) (bk:I64 y.number) :
  Calls Tryz.prog 30 #[.agg #[nm,vf,vb],.agg #[b.q0.v,b.q1.v],.agg #[.int .i64 y.number,y.p1.v,y.p2.v,y.p3.v]] w fun e w'=>
   ∃ (l:List (VL (LB d))) (a':Option Addr) (n' c':Nat),e = .returned (.agg #[.slice a' n' c',b.q1.v])∧l.map (VL.pl (LB.pl d))=B2j fs x (b.vals.map (VL.pl (LB.pl d))) (VL.pl (LB.pl d) y)∧OwnL (ekB d) (OwnB base d) w' base ⟨l,b.unk,(a',n',c'),b.q1⟩∧(LB.fp (d+1) (⟨l,b.unk,(a',n',c'),b.q1⟩:BL (LB d))).Nodup∧FrB (own1 b.q0) w w':=by
 have on:∀ k,(own1 b.q0).count k+(own1 b.q1).count k+(b.vals.flatMap (VL.fp (LB.fp d))).count k≤1:=fun k=>by
  have h:=List.nodup_iff_count.1 bg k
  have e:LB.fp (d+1) b=own1 b.q0++own1 b.q1++b.vals.flatMap (VL.fp (LB.fp d)):=rfl
  rw[e,List.count_append,List.count_append] at h
  exact h
 have aj:∀ k,k∈own1 b.q0→k∈LB.fp (d+1) b:=fun k hk=>by
  show k∈own1 b.q0++own1 b.q1++b.vals.flatMap (VL.fp (LB.fp d))
  exact List.mem_append_left _ (List.mem_append_left _ hk)
 have ak:PutIn d w base fs vf b y:=⟨hf,fok,fl,hb.shy,hy.shy,fun k hk=>⟨fun hm=>?_,fun a ha hm=>?_,fun hm=>hap k (aj k hk) (D1s hm)⟩,ag,hlen,hB⟩
 ·have au:∃ k,fs.findIdx? (fun f=>decide (f.number=y.number))=some k∧fs[k]?=some x:=by
   have ah:fs.find? (fun f=>decide (f.number=y.number))=some x:=hx
   rw[List.find?_eq_getElem?_findIdx] at ah
   have hlt:fs.findIdx (fun f=>decide (f.number=y.number)) < fs.length:=(List.getElem?_eq_some_iff.1 ah).1
   exact⟨_,List.findIdx?_eq_some_iff_findIdx_eq.2 ⟨hlt,rfl⟩,ah⟩
  obtain⟨k,aw,hk2⟩:=au
  refine(C6e ak bl bh aw hk2 ba hl2 bc bk).mono ?_
  rintro e w' ⟨⟨a',n',c'⟩,rfl,hq,hrow,ac⟩
  refine⟨_,a',n',c',rfl,C8q fs x b.vals y,⟨hrow,fun a ha=>?_,Row.frB (p:=b.q1) hb.r1 ac fun k hk hm=>?_,fun r hr=>(hb.r1y r hr).frY ac⟩,List.nodup_iff_count.2 fun k=>?_,ac⟩
  ·rcases C5p ha with rfl|⟨ha,ho⟩
   ·exact OwnV.fr (OwnB.fr d) hy ac fun k hk hm=>hap k (aj k hm) hk
   ·refine OwnV.fr (OwnB.fr d) (hb.r0v a ha) ac fun k hk hm=>?_
    have h1:=List.count_pos_iff.2 hm
    have h2:=List.count_pos_iff.2 (List.mem_flatMap.2 ⟨a,ha,hk⟩)
    have:=on k
    omega
  ·have h1:=List.count_pos_iff.2 hm
   have h2:=List.count_pos_iff.2 hk
   have:=on k
   omega
  ·show(own1 (a',n',c')++own1 b.q1++List.flatMap (VL.fp (LB.fp d)) _).count k≤1
   rw[List.count_append,List.count_append]
   dsimp only
   have hc:=B8b (VL.fp (LB.fp d)) (p:=fun a=>!A0p fs x a.number) (A0v x (VL.pl (LB.pl d) y)) b.vals (A1c y.number ((b.vals.filter fun a=>!A0p fs x a.number).map (VL.pl (LB.pl d)))) y k
   have bp:=A4j (VL.fp (LB.fp d)) (fun a=>!A0p fs x a.number) k b.vals
   have o1:=A7h (a',n',c') k
   have o2:0 < (own1 (a',n',c')).count k→0 < (own1 b.q0).count k∨w.heap.size≤k:=fun h'=>(hq k (A0z h')).imp List.count_pos_iff.2 id
   have o3:=on k
   have o4:=List.nodup_iff_count.1 bn k
   have l0:0 < (own1 b.q0).count k→k∈LB.fp (d+1) b:=fun h'=>aj k (A0z h')
   have l1:0 < (own1 b.q1).count k→k∈LB.fp (d+1) b∧k < w.heap.size:=fun h'=>⟨by
    show k∈own1 b.q0++own1 b.q1++b.vals.flatMap (VL.fp (LB.fp d))
    exact List.mem_append_left _ (List.mem_append_right _ (A0z h')),(hb.r1.own1 k (A0z h')).2⟩
   have l2:0 < (b.vals.flatMap (VL.fp (LB.fp d))).count k→k∈LB.fp (d+1) b∧k < w.heap.size:=fun h'=>⟨by
    show k∈own1 b.q0++own1 b.q1++b.vals.flatMap (VL.fp (LB.fp d))
    exact List.mem_append_right _ (A0z h'),by
    obtain⟨v,hv,hk⟩:=List.mem_flatMap.1 (A0z h')
    exact((hb.r0v v hv).lt k hk).2⟩
   have l3:0 < (VL.fp (LB.fp d) y).count k→k∉LB.fp (d+1) b∧k < w.heap.size:=fun h'=>⟨fun hm=>hap k hm (A0z h'),(hy.lt k (A0z h')).2⟩
   by_cases hb':k∈LB.fp (d+1) b
   ·have z1:(VL.fp (LB.fp d) y).count k=0:=Nat.eq_zero_of_not_pos fun h=>(l3 h).1 hb'
    omega
   ·have z1:(own1 b.q0).count k=0:=Nat.eq_zero_of_not_pos fun h=>hb' (l0 h)
    have z2:(own1 b.q1).count k=0:=Nat.eq_zero_of_not_pos fun h=>hb' (l1 h).1
    have z3:(b.vals.flatMap (VL.fp (LB.fp d))).count k=0:=Nat.eq_zero_of_not_pos fun h=>hb' (l2 h).1
    omega
 ·have h1:=List.count_pos_iff.2 hm
  have h2:=List.count_pos_iff.2 hk
  have:=on k
  omega
 ·have h1:=List.count_pos_iff.2 hk
  have h2:=List.count_pos_iff.2 (List.mem_flatMap.2 ⟨a,ha,D1s hm⟩)
  have:=on k
  omega
theorem C4g {d:Nat}{w:World}{fs:List FI}{s:List UInt8}{af ab:Option Addr}{nf cf nb cb:Nat}(hf:RdL 6 FAt w (.slice af nf cf) fs) (fok:∀ f∈fs,I64 f.number∧I64 f.choice) (fl:fs.length≤140737488355328){a0 a1:Option Addr}{n0 c0 n1 c1:Nat}{b:BI (d+1)}(hq:BRd d w (.slice a0 n0 c0) (.slice a1 n1 c1) b) (bw:BOk (d+1) b){y:VI (BI d)}{x:FI}(hx:fs.find? (isF y.number)=some x){b1 b2 b3:Option Addr}{m1 d1 m2 d2 m3 d3:Nat}(r1:RdL 1 UAt w (.slice b1 m1 d1) y.bits) (r2:RdL 1 ZAt w (.slice b2 m2 d2) y.bytes) (r3:RdL 2 (BAt d) w (.slice b3 m3 d3) y.subs) (hy:VOk (BOk d) y) (hlen:((BO.vals b).length+1)*80≤140737488355328) :
  Calls Tryz.prog 17 #[.agg #[.string (S s),.slice af nf cf,.slice ab nb cb],.agg #[.slice a0 n0 c0,.slice a1 n1 c1],.agg #[.int .i64 y.number,.slice b1 m1 d1,.slice b2 m2 d2,.slice b3 m3 d3]] w fun e w'=>∃ (c:LB (d+1)) (i0:Option Addr) (j0 l0:Nat) (i1:Option Addr) (j1 l1:Nat),B5e (d+1) c = [.slice i0 j0 l0,.slice i1 j1 l1]∧e = .returned (.agg #[.slice i0 j0 l0,.slice i1 j1 l1])∧LB.pl (d+1) c=(⟨B2j fs x (BO.vals b) y,BO.unk b⟩:BO (BI d))∧OwnB w.heap.size (d+1) w' c∧(LB.fp (d+1) c).Nodup∧Below w.heap.size w w':=by
 obtain⟨W1,br⟩:∃ W1,Hid (W1=(((w.alloc (.cells #[.string (S s),.slice af nf cf,.slice ab nb cb] 38)).alloc (.cells #[.slice a0 n0 c0,.slice a1 n1 c1] 29)).alloc (.cells #[.int .i64 y.number,.slice b1 m1 d1,.slice b2 m2 d2,.slice b3 m3 d3] 62)).alloc (.cells #[.slice none 0 0,.slice none 0 0] 29)):=⟨_,rfl⟩
 obtain⟨xm,xa,xv,xr,z0⟩:=B6c w (.cells #[.string (S s),.slice af nf cf,.slice ab nb cb] 38) (.cells #[.slice a0 n0 c0,.slice a1 n1 c1] 29) (.cells #[.int .i64 y.number,.slice b1 m1 d1,.slice b2 m2 d2,.slice b3 m3 d3] 62) (.cells #[.slice none 0 0,.slice none 0 0] 29)
 rw[←br.out] at xm xa xv xr z0
 have hb1:Below w.heap.size w W1:=by rw[br.out];exact((((Below.refl _ _).alloc (Nat.le_refl _) _).alloc (by simp) _).alloc (by simp;omega) _).alloc (by simp;omega) _
 have hz1:w.heap.size+4≤W1.heap.size:=Nat.le_of_eq z0.symm
 obtain⟨C,HC⟩:∃ C,Hid (C=w.heap.size+3):=⟨_,rfl⟩
 have dz:C≤w.heap.size+3:=Nat.le_of_eq HC.out
 have d9:w.heap.size+3≤C:=Nat.le_of_eq HC.out.symm
 have bn:∀ V,Below C W1 V→(V.cell? ⟨w.heap.size,0,none⟩=some (.string (S s))∧V.cell? ⟨w.heap.size,1,none⟩=some (.slice af nf cf)∧V.cell? ⟨w.heap.size,2,none⟩=some (.slice ab nb cb))∧(V.cell? ⟨w.heap.size+1,0,none⟩=some (.slice a0 n0 c0)∧V.cell? ⟨w.heap.size+1,1,none⟩=some (.slice a1 n1 c1))∧(V.cell? ⟨w.heap.size+2,0,none⟩=some (.int .i64 y.number)∧V.cell? ⟨w.heap.size+2,1,none⟩=some (.slice b1 m1 d1)∧V.cell? ⟨w.heap.size+2,2,none⟩=some (.slice b2 m2 d2)∧V.cell? ⟨w.heap.size+2,3,none⟩=some (.slice b3 m3 d3)):=fun V hV=>
  ⟨A4e ((hV.block _ (by omega)).trans xm),A0s ((hV.block _ (by omega)).trans xa),A3c ((hV.block _ (by omega)).trans xv)⟩
 have hD:Below C W1 W1.drew:=(Below.refl _ _).drew
 have cu:Below W1.heap.size W1 W1.drew:=(Below.refl _ _).drew
 have dx:Below w.heap.size w W1.drew:=BTr hb1 cu
 have hown:=B5m (d+1) W1.drew W1.heap.size a0 n0 c0 a1 n1 c1 b (Nat.le_refl _) (hq.below dx) bw
 have dv:∀ V,Below W1.heap.size W1 V→Calls Tryz.prog 32 #[.agg #[.int .i64 y.number,.slice b1 m1 d1,.slice b2 m2 d2,.slice b3 m3 d3]] V fun e w'=>∃ (yv:VL (LB d)) (q0:Int) (x1:Option Addr) (y1 z1:Nat) (x2:Option Addr) (y2 z2:Nat) (x3:Option Addr) (y3 z3:Nat),(ekV (LB d)).enc yv = [.int .i64 q0,.slice x1 y1 z1,.slice x2 y2 z2,.slice x3 y3 z3]∧e = .returned (.agg #[.int .i64 q0,.slice x1 y1 z1,.slice x2 y2 z2,.slice x3 y3 z3])∧VL.pl (LB.pl d) yv=y∧OwnV (ekB d) (OwnB W1.heap.size d) w' W1.heap.size yv∧(∀ k∈VL.fp (LB.fp d) yv,V.heap.size≤k)∧(VL.fp (LB.fp d) yv).Nodup∧Below V.heap.size V w':=fun V hV=>B6r d V W1.heap.size y b1 m1 d1 b2 m2 d2 b3 m3 d3 hV.size (r1.below UAt.stays (BTr hb1 hV)) (r2.below ZAt.stays (BTr hb1 hV)) (r3.below (BAt.stays d) (BTr hb1 hV)) hy
 have hput:∀ (V2 V3:World) (yb:BL (LB d)) (yv:VL (LB d)),Below W1.heap.size W1 V2→Below V2.heap.size V2 V3→LB.pl (d+1) yb=b→OwnB W1.heap.size (d+1) V2 yb→(LB.fp (d+1) yb).Nodup→VL.pl (LB.pl d) yv=y→OwnV (ekB d) (OwnB W1.heap.size d) V3 W1.heap.size yv→(∀ k∈VL.fp (LB.fp d) yv,V2.heap.size≤k)→(VL.fp (LB.fp d) yv).Nodup→
   Calls Tryz.prog 30 #[.agg #[.string (S s),.slice af nf cf,.slice ab nb cb],.agg #[yb.q0.v,yb.q1.v],.agg #[.int .i64 yv.number,yv.p1.v,yv.p2.v,yv.p3.v]] V3 fun e w'=>∃ (l:List (VL (LB d))) (a':Option Addr) (n' c':Nat),e = .returned (.agg #[.slice a' n' c',yb.q1.v])∧(∀ V',FrB [w.heap.size+3] w' V'→OwnB W1.heap.size (d+1) V' (⟨l,yb.unk,(a',n',c'),yb.q1⟩:BL (LB d)))∧LB.pl (d+1) (⟨l,yb.unk,(a',n',c'),yb.q1⟩:BL (LB d))=(⟨B2j fs x (BO.vals b) y,BO.unk b⟩:BO (BI d))∧(LB.fp (d+1) (⟨l,yb.unk,(a',n',c'),yb.q1⟩:BL (LB d))).Nodup∧Below W1.heap.size W1 w':=by
  intro V2 V3 yb yv h2 h3 hpl bc bp ac bq dp dy
  have aj:Below W1.heap.size W1 V3:=BTr h2 h3
  have bg:OwnL (ekB d) (OwnB W1.heap.size d) V3 W1.heap.size yb:=OwnB.below bc h3
  have bv:=OwnB.inB (d+1) bc
  have df:yv.number=y.number:=by rw[←ac];rfl
  have cj:yb.vals.map (VL.pl (LB.pl d))=BO.vals b:=congrArg BO.vals hpl
  have dw:yb.unk.map Prod.fst=BO.unk b:=congrArg BO.unk hpl
  obtain⟨y1,y2,y3,y4,y5,y6,y7⟩:=hy
  unfold reachBytes at y3 y5 y7
  have e1:yv.bits=y.bits:=by rw[←ac];rfl
  have e2:yv.bytes.length=y.bytes.length:=by rw[←ac];simp[VL.pl]
  have e3:yv.subs.length=y.subs.length:=by rw[←ac];simp[VL.pl]
  refine(C4f (x:=x) (hf.below FAt.stays (BTr hb1 aj)) fok fl ⟨_,_,_,rfl⟩ ⟨_,rfl⟩ bg bp bq dy (fun k hk hm=>?_) (fun a ha=>?_) ?_ aj.size (by rw[df];exact hx) (by rw[e1];omega) (by rw[e2];omega) (by rw[e3];omega) (by rw[df];exact y1)).mono ?_
  ·have:=(bv k hk).2
   have:=dp k hm
   omega
  ·have:VL.pl (LB.pl d) a∈BO.vals b:=by rw[←cj];exact List.mem_map_of_mem ha
   exact(bw.1 _ this).1
  ·have:yb.vals.length=(BO.vals b).length:=by rw[←cj,List.length_map]
   rw[this];exact hlen
  ·rintro e w' ⟨l,a',n',c',rfl,hmap,cw,dt,dn⟩
   refine⟨l,a',n',c',rfl,fun V' dm=>?_,?_,dt,?_⟩
   ·have dr:∀ k∈LB.fp (d+1) (⟨l,yb.unk,(a',n',c'),yb.q1⟩:BL (LB d)),W1.heap.size≤k:=fun k hk=>(OwnB.inB (d+1) (w:=w') (b:=(⟨l,yb.unk,(a',n',c'),yb.q1⟩:BL (LB d))) cw k hk).1
    exact OwnB.fr (d+1) [w.heap.size+3] w' V' (⟨l,yb.unk,(a',n',c'),yb.q1⟩:BL (LB d)) cw dm (fun k hk hm=>by have:=dr k hk;rw[List.mem_singleton.1 hm] at this;omega)
   ·show(⟨l.map (VL.pl (LB.pl d)),yb.unk.map Prod.fst⟩:BO (BI d))=_
    rw[hmap,dw,cj,ac]
   ·exact aj.trans (dn.below aj.size (fun k hk=>(bg.r0.own1 k hk).1))
 obtain⟨⟨q0,q1,q2⟩,⟨q3,q4⟩,⟨q5,q6,q7,q8⟩⟩:=bn W1.drew hD
 clear hf fok fl hq bw hx r1 r2 r3 hy hlen xm xa xv z0
 go_enter Tryz.func17,Tryz.ntmps17
 go_upto_region 1 with fail
 rw[←br.out]
 refine wp_region_held_drew (S:=fun V=>Below C W1 V) (by kernel_rfl) hD (fun hHeld=>?_)
 refine tK (i:=0) (v:=?vo1) rfl ⟨by rfl,?hyo1⟩ ?_
 case hyo1=>(intro W h;have:=bn W h;go_simp;first|done|with_reducible rfl)
 try simp only[pT,Act.put]
 refine tK (i:=1) (v:=?vo2) rfl ⟨by rfl,?hyo2⟩ ?_
 case hyo2=>(intro W h;have:=bn W h;go_simp;first|done|with_reducible rfl)
 try simp only[pT,Act.put]
 refine tK (i:=3) (v:=?vo3) rfl ⟨by rfl,?hyo3⟩ ?_
 case hyo3=>(intro W h;have:=bn W h;go_simp;first|done|with_reducible rfl)
 try simp only[pT,Act.put]
 refine rA (i:=2) rfl fun K hK=>?_
 go_simp
 refine hown.mono ?_
 rintro r w2 ⟨yb,i0,j0,l0,i1,j1,l1,ak,rfl,hpl,bc,bu,bp,hb2⟩
 have bh:Below W1.heap.size W1 w2:=BTr cu hb2
 have bk:Below C W1 w2:=bh.mono (by omega)
 have cg:=dv w2 bh
 refine hK.out _ _ ?_ (fun hHeld=>?_)
 ·(try dsimp only);first|with_reducible exact hD|with_reducible exact bk|with_reducible exact bl|with_reducible exact ag|exact A2a (A2a ag (by omega)) (by omega)
 clear hK K
 try simp only[pT,Act.put]
 refine rA (i:=4) rfl fun K hK=>?_
 go_simp
 refine cg.mono ?_
 rintro r w3 ⟨yv,t0,i2,j2,l2,i3,j3,l3,i4,j4,l4,au,rfl,ac,bq,aw,ba,hb3⟩
 have aj:Below W1.heap.size W1 w3:=BTr bh hb3
 have bl:Below C W1 w3:=aj.mono (by omega)
 have ah:=hput w2 w3 yb yv bh hb3 hpl bc bp ac bq aw ba
 obtain⟨e0,e1⟩:(BL.q0 yb).v = .slice i0 j0 l0∧(BL.q1 yb).v = .slice i1 j1 l1:=by
  have h8 : [(BL.q0 yb).v,(BL.q1 yb).v] = [.slice i0 j0 l0,.slice i1 j1 l1]:=ak
  simpa using h8
 obtain⟨e2,e3,e4,e5⟩:yv.number=t0∧yv.p1.v = .slice i2 j2 l2∧yv.p2.v = .slice i3 j3 l3∧yv.p3.v = .slice i4 j4 l4:=by
  have h8 : [Value.int .i64 yv.number,yv.p1.v,yv.p2.v,yv.p3.v] = [.int .i64 t0,.slice i2 j2 l2,.slice i3 j3 l3,.slice i4 j4 l4]:=au
  simpa using h8
 have dg:Hid ((BL.q1 yb).v = .slice i1 j1 l1):=e1
 rw[e0,e1,e2,e3,e4,e5] at ah
 clear e0 e1 e2 e3 e4 e5 ak au hpl bc bu bp ac bq aw ba
 refine hK.out _ _ ?_ (fun hHeld=>?_)
 ·(try dsimp only);first|with_reducible exact hD|with_reducible exact bk|with_reducible exact bl|with_reducible exact ag|exact A2a (A2a ag (by omega)) (by omega)
 clear hK K
 try simp only[pT,Act.put]
 refine rA (i:=5) rfl fun K hK=>?_
 go_simp
 refine ah.mono ?_
 rintro r w4 ⟨ll,a',n',c',rfl,dl,di,dh,bt⟩
 have ag:Below C W1 w4:=bt.mono (by omega)
 have x4:=(bt.block _ (by omega)).trans xr
 obtain⟨g0,g1⟩:=A0s x4
 have fr4:=A0b x4
 refine hK.out _ _ ?_ (fun hHeld=>?_)
 ·(try dsimp only);first|with_reducible exact hD|with_reducible exact bk|with_reducible exact bl|with_reducible exact ag|exact A2a (A2a ag (by omega)) (by omega)
 clear hK K
 try simp only[pT,Act.put]
 refine rA (i:=6) rfl fun K hK=>?_
 go_simp
 refine hK.out _ _ ?_ (fun hHeld=>?_)
 ·(try dsimp only);first|with_reducible exact hD|with_reducible exact bk|with_reducible exact bl|with_reducible exact ag|exact A2a (A2a ag (by omega)) (by omega)
 clear hK K
 try simp only[pT,Act.put]
 refine wpAnyH_done (by kernel_rfl) ?_ _
 go_wp2_with fail
 refine bodyPost_ret (v:=.agg #[.slice a' n' c',.slice i1 j1 l1]) (by simp[results,Tryz.results17,go_sem, *]) rfl ?_
 exact⟨_,a',n',c',i1,j1,l1,by show [_,_]=_;rw[dg.out];rfl,rfl,di,OwnB.mono (d+1) (dl _ (fr2 x4)) (by omega),dh,A2a (A2a (BTr hb1 bt) (by omega)) (by omega)⟩
open Go.RowKit
set_option linter.unusedVariables false
def D0r (g:GI) (t:List UInt8):Int:=A0m (fun m:MI=>decide (m.name=t)) g.msgs
def C5q (g:GI):(d:Nat)→FI→VI (BI d)→VI (BI d)→Except Int (VI (BI d))
 | 0=>fun x a b=>.ok (A6r (jnB g.msgs 0) g.msgs x a b)
 | d+1=>fun x a b=>
  if x.many=false∧x.kind=10 then
   match a.subs,b.subs with
   | s::_,t::_=>if C5f g d (D0r g x.type) s t=0 then .ok (A6r (jnB g.msgs (d+1)) g.msgs x a b) else .error (C5f g d (D0r g x.type) s t)
   | _,_=>.ok (A6r (jnB g.msgs (d+1)) g.msgs x a b)
  else .ok (A6r (jnB g.msgs (d+1)) g.msgs x a b)
theorem A9o (g:GI) (d:Nat) (x:FI) (a b:VI (BI (d+1))):C5q g (d+1) x a b=if x.many=false∧x.kind=10 then
   match a.subs,b.subs with
   | s::_,t::_=>if C5f g d (D0r g x.type) s t=0 then .ok (A6r (jnB g.msgs (d+1)) g.msgs x a b) else .error (C5f g d (D0r g x.type) s t)
   | _,_=>.ok (A6r (jnB g.msgs (d+1)) g.msgs x a b)
  else .ok (A6r (jnB g.msgs (d+1)) g.msgs x a b):=rfl
def A6n (g:GI) (d:Nat) (fs:List FI) (x:FI) (b:BO (BI d)) (v:VI (BI d)):Except Int (BO (BI d)):=
 if A3e v=0 then .ok b
 else match b.vals.find? (isV v.number) with
  | none=>if 60 < A3e v then .error 5 else .ok ⟨B2j fs x b.vals v,b.unk⟩
  | some u=>match C5q g d x u v with
   | .error E=>.error E
   | .ok v'=>if 60 < A3e v' then .error 5 else .ok ⟨B2j fs x b.vals v',b.unk⟩
theorem B3b {w:World}{d:Nat}(v:VI (BI d)){a1 a2 a3:Option Addr}{n1 n2 n3 c1 c2 c3:Nat}(h1:n1=v.bits.length) (h2:n2=v.bytes.length) (h3:n3=v.subs.length) (hl:n1+n2+n3≤1000000000000) (q:Int) :
  Calls Tryz.prog 105 #[.agg #[.int .i64 q,.slice a1 n1 c1,.slice a2 n2 c2,.slice a3 n3 c3]] w fun e w'=>e = .returned (.int .i64 ((A3e v:Nat):Int))∧Below w.heap.size w w':=by
 have hb:Below w.heap.size w (w.alloc (.cells #[.int .i64 q,.slice a1 n1 c1,.slice a2 n2 c2,.slice a3 n3 c3] 62)):=(Below.refl _ _).alloc (Nat.le_refl _) _
 have HN:Hid (((A3e v:Nat):Int)=(n1:Int)+(n2:Int)+(n3:Int)):=by show _=_;unfold A3e;rw[h1,h2,h3];omega
 have ac:n1≤1000000000000:=by omega
 have ag:n2≤1000000000000:=by omega
 have ah:n3≤1000000000000:=by omega
 have e1:IntKind.i64.wrap ((n1:Int)+(n2:Int))=(n1:Int)+(n2:Int):=by rw[IntKind.wrap_i64];omega
 have e2:IntKind.i64.wrap ((n1:Int)+(n2:Int)+(n3:Int))=(n1:Int)+(n2:Int)+(n3:Int):=by rw[IntKind.wrap_i64];omega
 clear h1 h2 h3 hl
 go_enter Tryz.func105,Tryz.ntmps105
 go_wp2_with fail
 go_ret
 exact⟨by rw[HN.out];rfl,hb⟩
open Go.RowKit
set_option linter.unusedVariables false
theorem C2e {d:Nat}{w:World}{base:Nat}{v:VL (LB d)}(h:OwnV (ekB d) (OwnB base d) w base v):RdL 1 UAt w v.p1.v (VL.pl (LB.pl d) v).bits∧RdL 1 ZAt w v.p2.v (VL.pl (LB.pl d) v).bytes∧RdL 2 (BAt d) w v.p3.v (VL.pl (LB.pl d) v).subs:=
 ⟨h.r1.rdU,h.r2.rdZ h.r2y,RdL.mapB (P:=fun w (x:Addr) (s:LB d)=>∃ g i,x=⟨g,i,none⟩∧∀ j u,(B5e d s)[j]?=some u→w.cell? ⟨g,i+j,none⟩=some u) _ (h.r3.rd _ fun g i a hc=>⟨g,i,rfl,hc⟩) fun _ s hs' ⟨g,i,e,hc⟩=>by rw[e];exact OwnB.at d s g i (h.r3s s hs') hc⟩
def C7v (d:Nat) (w:World) (F:List Nat) (num:Int) (res:Except Int (VI (BI d))) (e:Ending) (w':World):Prop:=
 ∃ (a1:Option Addr) (n1 c1:Nat) (a2:Option Addr) (n2 c2:Nat) (a3:Option Addr) (n3 c3:Nat) (E:Int),e = .returned (.tuple #[.agg #[.int .i64 num,.slice a1 n1 c1,.slice a2 n2 c2,.slice a3 n3 c3],.int .i64 E])∧FrB F w w'∧
  match res with
  | .error E'=>E=E'∧E≠0
  | .ok v=>E=0∧v.number=num∧∀ w'',Apt F w w' w''→RdL 1 UAt w'' (.slice a1 n1 c1) v.bits∧RdL 1 ZAt w'' (.slice a2 n2 c2) v.bytes∧RdL 2 (BAt d) w'' (.slice a3 n3 c3) v.subs
theorem C9p {ms:List MI}{d:Nat}{W0 w:World}{x:FI}{y z:VL (LB d)}{e:Ending}{w':World}(h:B4p ms d W0 w x y z e w') (hn:(A6r (jnB ms d) ms x (VL.pl (LB.pl d) y) (VL.pl (LB.pl d) z)).number=z.number):C7v d w (VL.fp (LB.fp d) y++VL.fp (LB.fp d) z) z.number (.ok (A6r (jnB ms d) ms x (VL.pl (LB.pl d) y) (VL.pl (LB.pl d) z))) e w':=by
 obtain⟨t,rfl,hpl,ho,_,ah,hf⟩:=h
 have aj:∀ w'',Apt (VL.fp (LB.fp d) y++VL.fp (LB.fp d) z) w w' w''→RdL 1 UAt w'' t.p1.v (A6r (jnB ms d) ms x (VL.pl (LB.pl d) y) (VL.pl (LB.pl d) z)).bits∧RdL 1 ZAt w'' t.p2.v (A6r (jnB ms d) ms x (VL.pl (LB.pl d) y) (VL.pl (LB.pl d) z)).bytes∧RdL 2 (BAt d) w'' t.p3.v (A6r (jnB ms d) ms x (VL.pl (LB.pl d) y) (VL.pl (LB.pl d) z)).subs:=fun w'' ⟨G,hG,ag⟩=>by
  rw[←hpl]
  exact C2e (OwnV.fr (OwnB.fr d) ho hG (fun k hk hm=>by
   have h1:=ag k hm
   rcases ah.mem hk with h|h
   ·exact h1.2 h
   ·omega))
 have ac:t.number=z.number:=by rw[←hn,←hpl];rfl
 obtain⟨nu,bi,ak,su,⟨a1,n1,c1⟩,⟨a2,n2,c2⟩,⟨a3,n3,c3⟩⟩:=t
 have ac:nu=z.number:=ac
 subst ac
 exact⟨a1,n1,c1,a2,n2,c2,a3,n3,c3,0,rfl,hf,rfl,hn,aj⟩
def A7s (g:GI) (x:FI):Prop:=∀ (d:Nat) (W0 w:World) (y z:VL (LB d)),MetIn d W0 w y z→∀ (am:Option Addr) (nm cm:Nat) (ae:Option Addr) (ne ce:Nat),y.number=z.number→(∀ j:Nat,j < g.msgs.length→WIn g am nm cm ae ne ce (j:Int) w)→(x.many=false→x.kind=10→(∃ M,g.msgs.find? (isN x.type)=some M)∧y.bits = []∧y.bytes = []∧z.bits = []∧z.bytes = []∧∃ s t,y.subs = [s]∧z.subs = [t]∧BOk d (LB.pl d s)∧BOk d (LB.pl d t))→
  Calls Tryz.prog 106 #[.agg #[.slice am nm cm,.slice ae ne ce],vFI x,.agg #[.int .i64 y.number,y.p1.v,y.p2.v,y.p3.v],.agg #[.int .i64 z.number,z.p1.v,z.p2.v,z.p3.v]] w fun e w'=>C7v d w (VL.fp (LB.fp d) y++VL.fp (LB.fp d) z) z.number (C5q g d x (VL.pl (LB.pl d) y) (VL.pl (LB.pl d) z)) e w'
theorem C4i {g:GI}{d:Nat}{W0 w:World}{y z:VL (LB d)}(h:MetIn d W0 w y z){am:Option Addr}{nm cm:Nat}{ae:Option Addr}{ne ce:Nat}(x:FI) (hS:x.many=false→x.kind=10→A7s g x) (ac:y.number=z.number) (hI:∀ j:Nat,j < g.msgs.length→WIn g am nm cm ae ne ce (j:Int) w)
  (ah:x.many=false→x.kind=10→(∃ M,g.msgs.find? (isN x.type)=some M)∧y.bits = []∧y.bytes = []∧z.bits = []∧z.bytes = []∧∃ s t,y.subs = [s]∧z.subs = [t]∧BOk d (LB.pl d s)∧BOk d (LB.pl d t)) :
  Calls Tryz.prog 106 #[.agg #[.slice am nm cm,.slice ae ne ce],vFI x,.agg #[.int .i64 y.number,y.p1.v,y.p2.v,y.p3.v],.agg #[.int .i64 z.number,z.p1.v,z.p2.v,z.p3.v]] w fun e w'=>C7v d w (VL.fp (LB.fp d) y++VL.fp (LB.fp d) z) z.number (C5q g d x (VL.pl (LB.pl d) y) (VL.pl (LB.pl d) z)) e w':=by
 have ag:(VL.pl (LB.pl d) y).number=(VL.pl (LB.pl d) z).number:=ac
 have aj:(A6r (jnB g.msgs d) g.msgs x (VL.pl (LB.pl d) y) (VL.pl (LB.pl d) z)).number=z.number:=C1v ag
 cases hm:x.many with
 | true=>
  have e:C5q g d x (VL.pl (LB.pl d) y) (VL.pl (LB.pl d) z) = .ok (A6r (jnB g.msgs d) g.msgs x (VL.pl (LB.pl d) y) (VL.pl (LB.pl d) z)):=by
   cases d with
   | zero=>rfl
   | succ d=>rw[A9o,if_neg (by rw[hm];simp)]
  rw[e]
  exact(C0n h am nm cm ae ne ce x hm ac).mono fun e w' ho=>C9p ho aj
 | false=>
  by_cases hk:x.kind=10
  ·exact hS hm hk d W0 w y z h am nm cm ae ne ce ac hI ah
  ·have e:C5q g d x (VL.pl (LB.pl d) y) (VL.pl (LB.pl d) z) = .ok (A6r (jnB g.msgs d) g.msgs x (VL.pl (LB.pl d) y) (VL.pl (LB.pl d) z)):=by
    cases d with
    | zero=>rfl
    | succ d=>rw[A9o,if_neg (fun h=>hk h.2)]
   rw[e]
   exact(C0m h am nm cm ae ne ce x hm hk).mono fun e w' ho=>C9p ho aj
end L
end Go.Proofs.YtgaoojpakjjdnaaGreatDoor
