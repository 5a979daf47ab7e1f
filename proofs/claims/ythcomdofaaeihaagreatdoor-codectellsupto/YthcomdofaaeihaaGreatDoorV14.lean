import Derived.Test.YthcomdofaaeihaaGreatDoorV11
set_option maxHeartbeats 32000000
set_option maxRecDepth 100000
set_option linter.unusedVariables false
namespace Go.Proofs.YthcomdofaaeihaaGreatDoor
namespace L
open Go.RowKit
variable{x:FI}{fs:List FI}{d:Nat}{w:World}
theorem D3b {base:Nat}{vf vb nm:Value}{b:BL (LB d)}{y:VL (LB d)}(hf:RdL 6 FAt w vf fs)(fok:∀ f∈fs,I64 f.nU∧I64 f.cE)(fl:fs.length≤140737488355328)(bk:∃ ao n cap,vb = .slice ao n cap)(bg:∃ s:List UInt8,nm = .string (S s))(hb:OwnL (ekB d) (OwnB base d) w base b)(bc:(LB.fp (d+1) b).Nodup)(hy:OwnV (ekB d) (OwnB base d) w base y)(bl:(VL.fp (LB.fp d) y).Nodup)(hap:∀ k∈LB.fp (d+1) b,k∉VL.fp (LB.fp d) y)(ag:∀ a∈b.vals,I64 a.nU)(hlen:(b.vals.length+1)*80≤140737488355328)(hB:base≤w.heap.size)(hx:fs.find? (isF y.nU)=some x)(aw:y.bits.length≤140737488355328)(hl2:y.bytes.length≤140737488355328)(ba:y.subs.length≤140737488355328)(bh:I64 y.nU) :
  Calls Tryz.prog 182 #[.agg #[nm,vf,vb],.agg #[b.q0.v,b.q1.v],.agg #[.int .i64 y.nU,y.p1.v,y.p2.v,y.p3.v]] w fun e w'=>
   ∃ (l:List (VL (LB d))) (a':Option Addr) (n' c':Nat),e = .returned (.agg #[.slice a' n' c',b.q1.v])∧l.map (VL.pl (LB.pl d))=putN fs x (b.vals.map (VL.pl (LB.pl d))) (VL.pl (LB.pl d) y)∧OwnL (ekB d) (OwnB base d) w' base ⟨l,b.unk,(a',n',c'),b.q1⟩∧(LB.fp (d+1) (⟨l,b.unk,(a',n',c'),b.q1⟩:BL (LB d))).Nodup∧FrB (own1 b.q0) w w':=by
 have on:∀ k,(own1 b.q0).count k+(own1 b.q1).count k+(b.vals.flatMap (VL.fp (LB.fp d))).count k≤1:=fun k=>by
  have h:=mR.1 bc k;have e:LB.fp (d+1) b=own1 b.q0++own1 b.q1++b.vals.flatMap (VL.fp (LB.fp d)):=rfl;rw[e,tR,tR] at h;exact h
 have aj:∀ k,k∈own1 b.q0→k∈LB.fp (d+1) b:=fun k hk=>by
  show k∈own1 b.q0++own1 b.q1++b.vals.flatMap (VL.fp (LB.fp d));exact vU _ (vU _ hk)
 have ak:PutIn d w base fs vf b y:=⟨hf,fok,fl,hb.shy,hy.shy,fun k hk=>⟨fun hm=>?_,fun a ha hm=>?_,fun hm=>hap k (aj k hk) (gX hm)⟩,ag,hlen,hB⟩
 ·have au:∃ k,fs.findIdx? (fun f=>decide (f.nU=y.nU))=some k∧fs[k]?=some x:=by
   have ah:fs.find? (fun f=>decide (f.nU=y.nU))=some x:=hx;rw[bK] at ah;have hlt:=(yG.1 ah).1;exact⟨_,bJ.2 ⟨hlt,rfl⟩,ah⟩
  obtain⟨k,av,hk2⟩:=au;refine(C2v ak bk bg av hk2 aw hl2 ba bh).mono ?_;rintro e w' ⟨⟨a',n',c'⟩,rfl,hq,hrow,ac⟩;refine⟨_,a',n',c',rfl,D0e fs x b.vals y,⟨hrow,fun a ha=>?_,Row.frB (p:=b.q1) hb.r1 ac fun k hk hm=>?_,fun r hr=>(hb.r1y r hr).frY ac⟩,mR.2 fun k=>?_,ac⟩
  ·rcases C2m ha with rfl|⟨ha,ho⟩
   ·exact OwnV.fr (OwnB.fr d) hy ac fun k hk hm=>hap k (aj k hm) hk
   ·refine OwnV.fr (OwnB.fr d) (hb.r0v a ha) ac fun k hk hm=>?_
    have h1:=yD.2 hm;have h2:=yD.2 (vL.2 ⟨a,ha,hk⟩);have:=on k;omega
  ·have h1:=yD.2 hm;have h2:=yD.2 hk;have:=on k;omega
  ·show(own1 (a',n',c')++own1 b.q1++List.flatMap (VL.fp (LB.fp d)) _).count k≤1;rw[tR,tR];dsimp only;have hc:=B4c (VL.fp (LB.fp d)) (p:=fun a=>!uX fs x a.nU) (xQ x (VL.pl (LB.pl d) y)) b.vals (vW y.nU ((b.vals.filter fun a=>!uX fs x a.nU).map (VL.pl (LB.pl d)))) y k;have bn:=XD (VL.fp (LB.fp d)) (fun a=>!uX fs x a.nU) k b.vals;have o1:=mM (a',n',c') k;have o2:0<(own1 (a',n',c')).count k→0<(own1 b.q0).count k∨w.heap.size≤k:=fun h'=>(hq k (wF h')).imp yD.2 id
   have o3:=on k;have o4:=mR.1 bl k;have l0:0<(own1 b.q0).count k→k∈LB.fp (d+1) b:=fun h'=>aj k (wF h')
   have l1:0<(own1 b.q1).count k→k∈LB.fp (d+1) b∧k<w.heap.size:=fun h'=>⟨by
    show k∈own1 b.q0++own1 b.q1++b.vals.flatMap (VL.fp (LB.fp d));exact vU _ (tI _ (wF h')),(hb.r1.own1 k (wF h')).2⟩
   have l2:0<(b.vals.flatMap (VL.fp (LB.fp d))).count k→k∈LB.fp (d+1) b∧k<w.heap.size:=fun h'=>⟨by
    show k∈own1 b.q0++own1 b.q1++b.vals.flatMap (VL.fp (LB.fp d));exact tI _ (wF h'),by
    obtain⟨v,hv,hk⟩:=vL.1 (wF h');exact((hb.r0v v hv).lt k hk).2⟩
   have l3:0<(VL.fp (LB.fp d) y).count k→k∉LB.fp (d+1) b∧k<w.heap.size:=fun h'=>⟨fun hm=>hap k hm (wF h'),(hy.lt k (wF h')).2⟩
   by_cases hb':k∈LB.fp (d+1) b
   ·have z1:=bH fun h=>(l3 h).1 hb'
    omega
   ·have z1:=bH fun h=>hb' (l0 h)
    have z2:=bH fun h=>hb' (l1 h).1
    have z3:=bH fun h=>hb' (l2 h).1
    omega
 ·have h1:=yD.2 hm;have h2:=yD.2 hk;have:=on k;omega
 ·have h1:=yD.2 hk;have h2:=yD.2 (vL.2 ⟨a,ha,gX hm⟩);have:=on k;omega
theorem Qf9{P:Prop}(h:P:=by
 (try dsimp only);first|with_reducible exact hD|with_reducible exact bh|with_reducible exact bk|with_reducible exact ag|exact yL (yL ag (by omega)) (by omega)):P:=h
theorem D3c {s:List UInt8}{af ab:Option Addr}{nf cf nb cb:Nat}(hf:RdL 6 FAt w (.slice af nf cf) fs)(fok:∀ f∈fs,I64 f.nU∧I64 f.cE)(fl:fs.length≤140737488355328){a0 a1:Option Addr}{n0 c0 n1 c1:Nat}{b:BI (d+1)}(hq:BRd d w (.slice a0 n0 c0) (.slice a1 n1 c1) b)(df:BOk (d+1) b){y:VI (BI d)}(hx:fs.find? (isF y.nU)=some x){b1 b2 b3:Option Addr}{m1 d1 m2 d2 m3 d3:Nat}(r1:RdL 1 UAt w (.slice b1 m1 d1) y.bits)(r2:RdL 1 ZAt w (.slice b2 m2 d2) y.bytes)(r3:RdL 2 (BAt d) w (.slice b3 m3 d3) y.subs)(hy:VOk (BOk d) y)(hlen:((BO.vals b).length+1)*80≤140737488355328) :
  Calls Tryz.prog 105 #[.agg #[.string (S s),.slice af nf cf,.slice ab nb cb],.agg #[.slice a0 n0 c0,.slice a1 n1 c1],.agg #[.int .i64 y.nU,.slice b1 m1 d1,.slice b2 m2 d2,.slice b3 m3 d3]] w fun e w'=>∃ (c:LB (d+1)) (i0:Option Addr) (j0 l0:Nat) (i1:Option Addr) (j1 l1:Nat),vO (d+1) c = [.slice i0 j0 l0,.slice i1 j1 l1]∧e = .returned (.agg #[.slice i0 j0 l0,.slice i1 j1 l1])∧LB.pl (d+1) c=(⟨putN fs x (BO.vals b) y,BO.unk b⟩:BO (BI d))∧OwnB w.heap.size (d+1) w' c∧(LB.fp (d+1) c).Nodup∧zB w w':=by
 obtain⟨W1,cg⟩:=zM ((((w.alloc (.cells #[.string (S s),.slice af nf cf,.slice ab nb cb] 35)).alloc (.cells #[.slice a0 n0 c0,.slice a1 n1 c1] 29)).alloc (.cells #[.int .i64 y.nU,.slice b1 m1 d1,.slice b2 m2 d2,.slice b3 m3 d3] 63)).alloc (.cells #[.slice none 0 0,.slice none 0 0] 29));obtain⟨xm,xa,xv,xr,z0⟩:=ZK w (.cells #[.string (S s),.slice af nf cf,.slice ab nb cb] 35) (.cells #[.slice a0 n0 c0,.slice a1 n1 c1] 29) (.cells #[.int .i64 y.nU,.slice b1 m1 d1,.slice b2 m2 d2,.slice b3 m3 d3] 63) (.cells #[.slice none 0 0,.slice none 0 0] 29);rw[←cg.out] at xm xa xv xr z0;have hb1:zB w W1:=by rw[cg.out];exact((((zH _ _).alloc (zG _) _).alloc (by simp) _).alloc (by simp;omega) _).alloc (by simp;omega) _
 have hz1:=xD z0.symm;obtain⟨C,HC⟩:=zM (w.heap.size+3);have eo:=xD HC.out;have eu:=xD HC.out.symm;have bl:∀ V,Below C W1 V→(V.cell? ⟨w.heap.size,0,none⟩=some (.string (S s))∧V.cell? ⟨w.heap.size,1,none⟩=some (.slice af nf cf)∧V.cell? ⟨w.heap.size,2,none⟩=some (.slice ab nb cb))∧(V.cell? ⟨w.heap.size+1,0,none⟩=some (.slice a0 n0 c0)∧V.cell? ⟨w.heap.size+1,1,none⟩=some (.slice a1 n1 c1))∧(V.cell? ⟨w.heap.size+2,0,none⟩=some (.int .i64 y.nU)∧V.cell? ⟨w.heap.size+2,1,none⟩=some (.slice b1 m1 d1)∧V.cell? ⟨w.heap.size+2,2,none⟩=some (.slice b2 m2 d2)∧V.cell? ⟨w.heap.size+2,3,none⟩=some (.slice b3 m3 d3)):=fun V hV=>
  ⟨uG ((zN hV).trans xm),zO ((zN hV).trans xa),wK ((zN hV).trans xv)⟩
 have hD:Below C W1 W1.drew:=(zH _ _).drew;have di:zB W1 W1.drew:=(zH _ _).drew;have eh:=zP hb1 di;have hown:=ZQ (d+1) W1.drew W1.heap.size a0 n0 c0 a1 n1 c1 b (zG _) (hq.bL eh) df;have d9:=fun V (hV:zB W1 V)=>C2p d V W1.heap.size y b1 m1 d1 b2 m2 d2 b3 m3 d3 hV.size (r1.bL UAt.sT (zP hb1 hV)) (r2.bL ZAt.sT (zP hb1 hV)) (r3.bL (BAt.sT d) (zP hb1 hV)) hy
 have hput:∀ (V2 V3:World) (yb:BL (LB d)) (yv:VL (LB d)),zB W1 V2→zB V2 V3→LB.pl (d+1) yb=b→OwnB W1.heap.size (d+1) V2 yb→(LB.fp (d+1) yb).Nodup→VL.pl (LB.pl d) yv=y→OwnV (ekB d) (OwnB W1.heap.size d) V3 W1.heap.size yv→(∀ k∈VL.fp (LB.fp d) yv,V2.heap.size≤k)→(VL.fp (LB.fp d) yv).Nodup→
   Calls Tryz.prog 182 #[.agg #[.string (S s),.slice af nf cf,.slice ab nb cb],.agg #[yb.q0.v,yb.q1.v],.agg #[.int .i64 yv.nU,yv.p1.v,yv.p2.v,yv.p3.v]] V3 fun e w'=>∃ (l:List (VL (LB d))) (a':Option Addr) (n' c':Nat),e = .returned (.agg #[.slice a' n' c',yb.q1.v])∧(∀ V',FrB [w.heap.size+3] w' V'→OwnB W1.heap.size (d+1) V' (⟨l,yb.unk,(a',n',c'),yb.q1⟩:BL (LB d)))∧LB.pl (d+1) (⟨l,yb.unk,(a',n',c'),yb.q1⟩:BL (LB d))=(⟨putN fs x (BO.vals b) y,BO.unk b⟩:BO (BI d))∧(LB.fp (d+1) (⟨l,yb.unk,(a',n',c'),yb.q1⟩:BL (LB d))).Nodup∧zB W1 w':=by
  intro V2 V3 yb yv h2 h3 hpl ba bn ac bu dx ei;have aj:=zP h2 h3;have bc:OwnL (ekB d) (OwnB W1.heap.size d) V3 W1.heap.size yb:=OwnB.bL ba h3;have cw:=OwnB.inB (d+1) ba;have dm:yv.nU=y.nU:=by rw[←ac];rfl
  have dh:yb.vals.map (VL.pl (LB.pl d))=BO.vals b:=congrArg BO.vals hpl;have ee:yb.unk.map Prod.fst=BO.unk b:=congrArg BO.unk hpl;obtain⟨y1,y2,y3,y4,y5,y6,y7⟩:=hy;unfold reachBytes at y3 y5 y7;have e1:yv.bits=y.bits:=by rw[←ac];rfl
  have e2:yv.bytes.length=y.bytes.length:=by rw[←ac];simp[VL.pl]
  have e3:yv.subs.length=y.subs.length:=by rw[←ac];simp[VL.pl]
  refine(D3b (x:=x) (hf.bL FAt.sT (zP hb1 aj)) fok fl ⟨_,_,_,rfl⟩ ⟨_,rfl⟩ bc bn bu ei (fun k hk hm=>?_) (fun a ha=>?_) ?_ aj.size (by rw[dm];exact hx) (by rw[e1];omega) (by rw[e2];omega) (by rw[e3];omega) (by rw[dm];exact y1)).mono ?_
  ·have:=(cw k hk).2;have:=dx k hm;omega
  ·have:VL.pl (LB.pl d) a∈BO.vals b:=by rw[←dh];exact bG ha
   exact(df.1 _ this).1
  ·have:yb.vals.length=(BO.vals b).length:=by rw[←dh,yX]
   rw[this];exact hlen
  ·rintro e w' ⟨l,a',n',c',rfl,hmap,dl,dz,dw⟩;refine⟨l,a',n',c',rfl,fun V' dv=>?_,?_,dz,?_⟩
   ·have dy:∀ k∈LB.fp (d+1) (⟨l,yb.unk,(a',n',c'),yb.q1⟩:BL (LB d)),W1.heap.size≤k:=fun k hk=>(OwnB.inB (d+1) (w:=w') (b:=(⟨l,yb.unk,(a',n',c'),yb.q1⟩:BL (LB d))) dl k hk).1
    exact OwnB.fr (d+1) [w.heap.size+3] w' V' (⟨l,yb.unk,(a',n',c'),yb.q1⟩:BL (LB d)) dl dv (fun k hk hm=>by have:=dy k hk;rw[zS.1 hm] at this;omega)
   ·show(⟨l.map (VL.pl (LB.pl d)),yb.unk.map Prod.fst⟩:BO (BI d))=_;rw[hmap,ee,dh,ac]
   ·exact aj.trans (dw.bL aj.size (fun k hk=>(bc.r0.own1 k hk).1))
 obtain⟨⟨q0,q1,q2⟩,⟨q3,q4⟩,⟨q5,q6,q7,q8⟩⟩:=bl W1.drew hD;clear hf fok fl hq df hx r1 r2 r3 hy hlen xm xa xv z0;go_enter Tryz.func105,Tryz.ntmps105;go_upto_region 1 with fail
 rw[←cg.out];refine wp_region_held_drew (S:=fun V=>Below C W1 V) (by kernel_rfl) hD (fun hHeld=>?_);refine zTk 0 rfl bl ?_
 try simp only[zE]
 refine zTk 1 rfl bl ?_
 try simp only[zE]
 refine zTk 3 rfl bl ?_
 try simp only[zE]
 refine rA (i:=2) rfl fun K hK=>?_
 go_simp;refine hown.mono ?_;rintro r w2 ⟨yb,i0,j0,l0,i1,j1,l1,ak,rfl,hpl,ba,cu,bn,hb2⟩;have bg:=zP di hb2;have bh:Below C W1 w2:=bg.mono (by omega);have dg:=d9 w2 bg;refine hK.out _ _ ?_ (fun hHeld=>?_)
 ·exact Qf9
 clear hK K
 try simp only[zE]
 refine rA (i:=4) rfl fun K hK=>?_
 go_simp;refine dg.mono ?_;rintro r w3 ⟨yv,t0,i2,j2,l2,i3,j3,l3,i4,j4,l4,au,rfl,ac,bu,av,aw,hb3⟩;have aj:=zP bg hb3;have bk:Below C W1 w3:=aj.mono (by omega);have ah:=hput w2 w3 yb yv bg hb3 hpl ba bn ac bu av aw;obtain⟨e0,e1⟩:(BL.q0 yb).v = .slice i0 j0 l0∧(BL.q1 yb).v = .slice i1 j1 l1:=by
  have h8 : [(BL.q0 yb).v,(BL.q1 yb).v] = [.slice i0 j0 l0,.slice i1 j1 l1]:=ak;simpa using h8
 obtain⟨e2,e3,e4,e5⟩:yv.nU=t0∧yv.p1.v = .slice i2 j2 l2∧yv.p2.v = .slice i3 j3 l3∧yv.p3.v = .slice i4 j4 l4:=by
  have h8 : [Value.int .i64 yv.nU,yv.p1.v,yv.p2.v,yv.p3.v] = [.int .i64 t0,.slice i2 j2 l2,.slice i3 j3 l3,.slice i4 j4 l4]:=au;simpa using h8
 have dn:=zI e1;rw[e0,e1,e2,e3,e4,e5] at ah;clear e0 e1 e2 e3 e4 e5 ak au hpl ba cu bn ac bu av aw;refine hK.out _ _ ?_ (fun hHeld=>?_)
 ·exact Qf9
 clear hK K
 try simp only[zE]
 refine rA (i:=5) rfl fun K hK=>?_
 go_simp;refine ah.mono ?_;rintro r w4 ⟨ll,a',n',c',rfl,dt,dr,dp,cj⟩;have ag:Below C W1 w4:=cj.mono (by omega);have x4:=(zN cj).trans xr;obtain⟨g0,g1⟩:=zO x4;have fr4:=zJ x4;refine hK.out _ _ ?_ (fun hHeld=>?_)
 ·exact Qf9
 clear hK K
 try simp only[zE]
 refine rA (i:=6) rfl fun K hK=>?_
 go_simp;refine hK.out _ _ ?_ (fun hHeld=>?_)
 ·exact Qf9
 clear hK K
 try simp only[zE]
 refine wpAnyH_done (by kernel_rfl) ?_ _;go_wp2_with fail
 refine bodyPost_ret (v:=.agg #[.slice a' n' c',.slice i1 j1 l1]) (by simp[results,Tryz.results105,go_sem, *]) rfl ?_;exact⟨_,a',n',c',i1,j1,l1,by show [_,_]=_;rw[dn.out];rfl,rfl,dr,OwnB.mono (d+1) (dt _ (fr2 x4)) (by omega),dp,yL (yL (zP hb1 cj) (by omega)) (by omega)⟩
end L
end Go.Proofs.YthcomdofaaeihaaGreatDoor
