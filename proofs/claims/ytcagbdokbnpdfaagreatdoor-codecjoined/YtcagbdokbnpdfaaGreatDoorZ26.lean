import Derived.Test.YtcagbdokbnpdfaaGreatDoorZ25
import Derived.Test.YtcagbdokbnpdfaaGreatDoorZ16
import Derived.Test.YtcagbdokbnpdfaaGreatDoorZ22
namespace Go.Proofs.YtcagbdokbnpdfaaGreatDoor
namespace L
open Go.RowKit
set_option linter.unusedVariables false
theorem D1k {d:Nat}{v:VI (BI d)}(h:VQk (BQk d) v) (hw:jW (jWB d) v≤1000000000):VOk (BOk d) v:=by
 obtain⟨q1,q2,q3,q4⟩:=h
 unfold jW at hw
 have h2:=A2x (fun s=>1+jWB d s) (fun _=>by omega) v.subs
 refine⟨q1,q2,by unfold reachBytes;omega,q3,by unfold reachBytes;omega,fun s hs=>B5x d s (q4 s hs) ?_,by unfold reachBytes;omega⟩
 have:=B4p (fun s=>1+jWB d s) hs
 omega
theorem D1l {d:Nat}{v:VI (BI d)}(h:VOk (BOk d) v):VQk (BQk d) v:=⟨h.1,h.2.1,h.2.2.2.1,fun s hs=>C6g d s (h.2.2.2.2.2.1 s hs)⟩
theorem B3y {g:GI}{d:Nat}{x:FI}{a b v:VI (BI d)}(h:C2n g d x a b = .ok v):v=A2o (jnB g.msgs d) g.msgs x a b:=by
 cases d with
 | zero=>exact(Except.ok.inj h).symm
 | succ d=>
  rw[A4b] at h
  split at h
  ·split at h
   ·split at h
    ·exact(Except.ok.inj h).symm
    ·cases h
   ·exact(Except.ok.inj h).symm
  ·exact(Except.ok.inj h).symm
def WOut (d:Nat) (w:World) (s0 s1:Value) (b:BO (BI d)) (res:Except Int (BO (BI d))) (e:Ending) (w':World):Prop:=
 match res with
 | .error E=>E≠0∧e = .returned (.tuple #[.agg #[.slice none 0 0,.slice none 0 0],.int .i64 E])
 | .ok b'=>(b'=b∧e = .returned (.tuple #[.agg #[s0,s1],.int .i64 0]))∨∃ (c:LB (d+1)) (i0:Option Addr) (j0 l0:Nat) (i1:Option Addr) (j1 l1:Nat),A6t (d+1) c = [.slice i0 j0 l0,.slice i1 j1 l1]∧e = .returned (.tuple #[.agg #[.slice i0 j0 l0,.slice i1 j1 l1],.int .i64 0])∧LB.pl (d+1) c=b'∧OwnB w.heap.size (d+1) w' c∧(LB.fp (d+1) c).Nodup
theorem D1o (w:World) (o:Obj):(w.alloc o).heap[w.heap.size]?=some o∧w.heap.size+1≤(w.alloc o).heap.size:=⟨heap_alloc_new _ o,by simp⟩
theorem B9u {α β:Type}{f : α→β}{l:List α}{b : β}(h:l.map f = [b]):∃ a,l = [a]∧f a=b:=by
 rcases l with _|⟨a,_|⟨c,l⟩⟩
 ·simp at h
 ·exact⟨a,rfl,by simpa using h⟩
 ·simp at h
def D5f {d:Nat}(fs:List FI) (x:FI) (b:BO (BI d)):Except Int (VI (BI d))→Except Int (BO (BI d))
 | .error E=>.error E
 | .ok v'=>if 60 < A1i v' then .error 5 else .ok ⟨A1x fs x b.vals v',b.unk⟩
theorem C3n {g:GI}{d:Nat}{fs:List FI}{x:FI}{b:BO (BI d)}{v u:VI (BI d)}(h0:A1i v≠0) (h:b.vals.find? (isV v.number)=some u):A1m g d fs x b v=D5f fs x b (C2n g d x u v):=by
 unfold A1m
 rw[if_neg h0,h]
 rfl
def MRd {d:Nat}(F:List Nat) (w0 w:World) (mu:Int) (e1:Option Addr) (f1 g1:Nat) (e2:Option Addr) (f2 g2:Nat) (e3:Option Addr) (f3 g3:Nat) (E:Int):Except Int (VI (BI d))→Prop
 | .error E'=>E=E'∧E≠0
 | .ok v=>E=0∧v.number=mu∧∀ w'',Apt F w0 w w''→RdL 1 UAt w'' (.slice e1 f1 g1) v.bits∧RdL 1 ZAt w'' (.slice e2 f2 g2) v.bytes∧RdL 2 (BAt d) w'' (.slice e3 f3 g3) v.subs
theorem B1o {β:Type}{l:List (VI β)}{x:Int}{k:Nat}{v:VI β}(h1:A0k (fun v:VI β=>decide (v.number=x)) l=(k:Int)) (h2:l[k]?=some v):l.find? (isV x)=some v:=by
 rcases A3m (fun v:VI β=>decide (v.number=x)) l with⟨h,_⟩|⟨j,y,h3,h4,h5⟩
 ·rw[h] at h1
  omega
 ·rw[h3] at h1
  have:j=k:=by omega
  subst this
  rw[h4] at h2
  cases h2
  exact h5.1
set_option maxHeartbeats 16000000 in
set_option maxRecDepth 100000 in
theorem D0o {g:GI}{d:Nat}{W0 u w:World}(h0:Below W0.heap.size W0 u) (hu:Below u.heap.size u w){am:Option Addr}{nm cm:Nat}{ae:Option Addr}{ne ce:Nat}(hI:∀ j:Nat,j < g.msgs.length→WIn g am nm cm ae ne ce (j:Int) u){fs:List FI}{nam:List UInt8}{af ab:Option Addr}{nf cf nb cb:Nat}(hf:RdL 6 FAt u (.slice af nf cf) fs) (fok:∀ f∈fs,I64 f.number∧I64 f.choice) (fl:fs.length≤140737488355328){a0 a1:Option Addr}{n0 c0 n1 c1:Nat}{b:BI (d+1)}(hq:BRd d u (.slice a0 n0 c0) (.slice a1 n1 c1) b) (hok:BOk (d+1) b){z:VL (LB d)}(hz:OwnV (ekB d) (OwnB W0.heap.size d) w W0.heap.size z) (hzu:∀ k∈VL.fp (LB.fp d) z,u.heap.size≤k) (hzn:(VL.fp (LB.fp d) z).Nodup) (zok:VOk (BOk d) (VL.pl (LB.pl d) z)){x:FI}(hx:fs.find? (isF z.number)=some x) (hw:((BO.vals b).map (jW (jWB d))).sum+jW (jWB d) (VL.pl (LB.pl d) z)≤1000000000)
  (hsub:x.many=false→x.kind=10→(∃ M,g.msgs.find? (isN x.type)=some M)∧∀ v,(v∈BO.vals b∨v=VL.pl (LB.pl d) z)→v.number=z.number→v.bits = []∧v.bytes = []∧∃ s,v.subs = [s]) :
  Calls Tryz.prog 62 #[.agg #[.slice am nm cm,.slice ae ne ce],.agg #[.string (S nam),.slice af nf cf,.slice ab nb cb],.agg #[.slice a0 n0 c0,.slice a1 n1 c1],.agg #[.int .i64 z.number,z.p1.v,z.p2.v,z.p3.v]] w fun e w'=>Below u.heap.size u w'∧WOut d w (.slice a0 n0 c0) (.slice a1 n1 c1) b (A1m g d fs x b (VL.pl (LB.pl d) z)) e w':=by
 obtain⟨r1,r2,r3⟩:=C5y hz
 obtain⟨V,HV⟩:∃ V,Hid (VL.pl (LB.pl d) z=V):=⟨_,rfl⟩
 rw[HV.out] at r1 r2 r3 zok hw hsub ⊢
 have HZN:Hid (V.number=z.number):=by show _=_;rw[←HV.out];rfl
 have HZ:Hid (OwnV (ekB d) (OwnB W0.heap.size d) w W0.heap.size z):=hz
 have HZU:Hid (∀ k∈VL.fp (LB.fp d) z,u.heap.size≤k):=hzu
 clear hzu
 obtain⟨mu,bj,bz',sv,⟨b1,m1,d1⟩,⟨b2,m2,d2⟩,⟨b3,m3,d3⟩⟩:=z
 have hx:fs.find? (isF mu)=some x:=hx
 have r1:RdL 1 UAt w (.slice b1 m1 d1) V.bits:=r1
 have r2:RdL 1 ZAt w (.slice b2 m2 d2) V.bytes:=r2
 have r3:RdL 2 (BAt d) w (.slice b3 m3 d3) V.subs:=r3
 have l1:=r1.len.1
 have l2:=r2.len.1
 have l3:=r3.len.1
 have hVl:V.bits.length+V.bytes.length+V.subs.length≤1000000000:=by
  have h2:=A2x (fun s=>1+jWB d s) (fun _=>by omega) V.subs
  have h3:jW (jWB d) V≤1000000000:=by omega
  unfold jW at h3
  omega
 obtain⟨W5,HW5⟩:∃ W5,Hid (W5=((((w.alloc (.cells #[.slice am nm cm,.slice ae ne ce] 25)).alloc (.cells #[.string (S nam),.slice af nf cf,.slice ab nb cb] 35)).alloc (.cells #[.slice a0 n0 c0,.slice a1 n1 c1] 29)).alloc (.cells #[.int .i64 mu,.slice b1 m1 d1,.slice b2 m2 d2,.slice b3 m3 d3] 54)).alloc (.cells #[.slice none 0 0,.slice none 0 0] 29)):=⟨_,rfl⟩
 obtain⟨x0,x1,x2,x3,x4,xz⟩:=B0a w (.cells #[.slice am nm cm,.slice ae ne ce] 25) (.cells #[.string (S nam),.slice af nf cf,.slice ab nb cb] 35) (.cells #[.slice a0 n0 c0,.slice a1 n1 c1] 29) (.cells #[.int .i64 mu,.slice b1 m1 d1,.slice b2 m2 d2,.slice b3 m3 d3] 54) (.cells #[.slice none 0 0,.slice none 0 0] 29)
 rw[←HW5.out] at x0 x1 x2 x3 x4 xz
 have hb5:Below w.heap.size w W5:=by rw[HW5.out];exact(((((Below.refl _ _).alloc (Nat.le_refl _) _).alloc (by simp) _).alloc (by simp;omega) _).alloc (by simp;omega) _).alloc (by simp;omega) _
 have hz5:w.heap.size+5≤W5.heap.size:=Nat.le_of_eq xz.symm
 clear xz
 have hcl:∀ U F,FrB F W5 U→(∀ k∈F,k < w.heap.size∨k=w.heap.size+3∨W5.heap.size≤k)→(U.cell? ⟨w.heap.size,0,none⟩=some (.slice am nm cm)∧U.cell? ⟨w.heap.size,1,none⟩=some (.slice ae ne ce))∧(U.cell? ⟨w.heap.size+1,0,none⟩=some (.string (S nam))∧U.cell? ⟨w.heap.size+1,1,none⟩=some (.slice af nf cf)∧U.cell? ⟨w.heap.size+1,2,none⟩=some (.slice ab nb cb))∧(U.cell? ⟨w.heap.size+2,0,none⟩=some (.slice a0 n0 c0)∧U.cell? ⟨w.heap.size+2,1,none⟩=some (.slice a1 n1 c1))∧U.heap[w.heap.size+4]?=some (.cells #[.slice none 0 0,.slice none 0 0] 29 (0,0)):=fun U F hU hF=>by
  have hk:∀ i,i=0∨i=1∨i=2∨i=4→U.heap[w.heap.size+i]?=W5.heap[w.heap.size+i]?:=fun i hi=>hU.block _ (by omega) (.inl fun hm=>by have:=hF _ hm;omega)
  exact⟨A0v ((hk 0 (by omega)).trans x0),B3e ((hk 1 (by omega)).trans x1),A0v ((hk 2 (by omega)).trans x2),(hk 4 (by omega)).trans x4⟩
 have hclB:∀ U,Below W5.heap.size W5 U→_:=fun U hU=>hcl U [] (FrB.of_below hU) (fun k h=>by simp at h)
 obtain⟨K,HK⟩:∃ K:Int,Hid (((A1i V:Nat):Int)=K):=⟨_,rfl⟩
 have hct:∀ U,Calls Tryz.prog 127 #[.agg #[.int .i64 mu,.slice b1 m1 d1,.slice b2 m2 d2,.slice b3 m3 d3]] U fun e w'=>e = .returned (.int .i64 K)∧Below U.heap.size U w':=fun U=>by
  have:=B5c (w:=U) V l1 l2 l3 (c1:=d1) (c2:=d2) (c3:=d3) (a1:=b1) (a2:=b2) (a3:=b3) (by omega) mu
  rw[HK.out] at this
  exact this
 obtain⟨R,HR⟩:∃ R,Hid (A1m g d fs x b V=R):=⟨_,rfl⟩
 rw[HR.out]
 have hux:Below u.heap.size u W5:=BTr hu hb5
 have hzu:=hu.size
 have hblen:(BO.vals b).length≤1000000000:=by
  have:=A2x (jW (jWB d)) (fun v=>by unfold jW;omega) (BO.vals b)
  omega
 have hset:∀ (T:World) (V':VI (BI d)) (e1:Option Addr) (f1 g1:Nat) (e2:Option Addr) (f2 g2:Nat) (e3:Option Addr) (f3 g3:Nat),Below u.heap.size u T→V'.number=mu→RdL 1 UAt T (.slice e1 f1 g1) V'.bits→RdL 1 ZAt T (.slice e2 f2 g2) V'.bytes→RdL 2 (BAt d) T (.slice e3 f3 g3) V'.subs→VOk (BOk d) V'→Calls Tryz.prog 130 #[.agg #[.string (S nam),.slice af nf cf,.slice ab nb cb],.agg #[.slice a0 n0 c0,.slice a1 n1 c1],.agg #[.int .i64 mu,.slice e1 f1 g1,.slice e2 f2 g2,.slice e3 f3 g3]] T fun e w'=>∃ (c:LB (d+1)) (i0:Option Addr) (j0 l0:Nat) (i1:Option Addr) (j1 l1:Nat),e = .returned (.agg #[.slice i0 j0 l0,.slice i1 j1 l1])∧Hid (A6t (d+1) c = [.slice i0 j0 l0,.slice i1 j1 l1]∧LB.pl (d+1) c=(⟨A1x fs x (BO.vals b) V',BO.unk b⟩:BO (BI d))∧OwnB T.heap.size (d+1) w' c∧(LB.fp (d+1) c).Nodup)∧Below T.heap.size T w':=fun T V' e1 f1 g1 e2 f2 g2 e3 f3 g3 hT hn q1 q2 q3 hok'=>by
  have:=C8e (s:=nam) (ab:=ab) (nb:=nb) (cb:=cb) (hf.below FAt.stays hT) fok fl (hq.below hT) hok (x:=x) (by rw[hn];exact hx) q1 q2 q3 hok' (by omega)
  rw[hn] at this
  refine this.mono ?_
  rintro e w' ⟨c,i0,j0,l0,i1,j1,l1,h1,rfl,h2,h3,h4,h5⟩
  exact⟨c,i0,j0,l0,i1,j1,l1,rfl,⟨h1,h2,h3,h4⟩,h5⟩
 have hget:∀ U,Below u.heap.size u U→Calls Tryz.prog 128 #[.agg #[.slice a0 n0 c0,.slice a1 n1 c1],.int .i64 mu] U fun e w'=>D4y d U W0.heap.size (BO.vals b) mu e w'∧Below U.heap.size U w':=fun U hU=>B7r (Nat.le_trans h0.size hU.size) (hq.below hU) hok.1 mu
 have HQB:Hid (∀ v∈BO.vals b,VQk (BQk d) v):=fun v hv=>D1l (hok.1 v hv)
 have HZK:Hid (VOk (BOk d) V):=zok
 have HWt:Hid (((BO.vals b).map (jW (jWB d))).sum+jW (jWB d) V≤1000000000):=hw
 have HF:Hid (RdL 6 FAt u (.slice af nf cf) fs):=hf
 have HX:Hid (fs.find? (isF mu)=some x):=hx
 have HIN:Hid (∀ j:Nat,j < g.msgs.length→WIn g am nm cm ae ne ce (j:Int) u):=hI
 have HSB:Hid _:=hsub
 have HR1:Hid (RdL 1 UAt w (.slice b1 m1 d1) V.bits∧RdL 1 ZAt w (.slice b2 m2 d2) V.bytes∧RdL 2 (BAt d) w (.slice b3 m3 d3) V.subs):=⟨r1,r2,r3⟩
 have HBO:Hid (∀ v∈BO.vals b,VOk (BOk d) v):=hok.1
 clear hf fok fl hq hok hx hI hsub r1 r2 r3 zok hw hVl hblen l1 l2 l3 hz
 have hct5:=hct W5
 obtain⟨⟨t0,t1⟩,⟨t2,t3,t4⟩,⟨t5,t6⟩,y4⟩:=hclB W5 (Below.refl _ _)
 obtain⟨s0,s1,s2,s3⟩:=A1r x3
 unfold PV.v
 by_cases hK0:K=0
 ·have HT:Hid (R = .ok b):=by show _=_;rw[←HR.out];unfold A1m;rw[if_pos (by have:=HK.out;omega)]
  subst hK0
  go_enter Tryz.func62,Tryz.ntmps62
  go_upto_region 1 with fail
  rw[←HW5.out]
  go_wp2_with fail
  refine hct5.mono ?_
  rintro e w6 ⟨rfl,hb6⟩
  clear t0 t1 t2 t3 t4 t5 t6 y4 s0 s1 s2 s3
  obtain⟨⟨t0,t1⟩,⟨t2,t3,t4⟩,⟨t5,t6⟩,y4⟩:=hclB w6 hb6
  obtain⟨p0,p1⟩:=A0v y4
  have fr4':=A0b y4
  have n1':¬ w.heap.size+2=w.heap.size+4:=by omega
  have hzz:=hb6.size
  go_wp2_with fail
  refine bodyPost_ret (v:=.tuple #[.agg #[.slice a0 n0 c0,.slice a1 n1 c1],.int .i64 0]) (by simp[results,Tryz.results62,go_sem, *]) rfl ?_
  refine⟨A0d (A0d (BTr hux hb6) (by omega)) (by omega),?_⟩
  rw[HT.out]
  exact .inl ⟨rfl,rfl⟩
 ·have eK0:(K == 0)=false:=by simpa using hK0
  go_enter Tryz.func62,Tryz.ntmps62
  go_upto_region 1 with fail
  rw[←HW5.out]
  go_wp2_with fail
  refine hct5.mono ?_
  rintro e w6 ⟨rfl,hb6⟩
  clear t0 t1 t2 t3 t4 t5 t6 y4 s0 s1 s2 s3
  obtain⟨⟨t0,t1⟩,⟨t2,t3,t4⟩,⟨t5,t6⟩,y4⟩:=hclB w6 hb6
  have x36:=(hb6.block (w.heap.size+3) (by omega)).trans x3
  obtain⟨s0,s1,s2,s3⟩:=A1r x36
  have hgt6:=hget w6 (BTr hux hb6)
  have hzz6:=hb6.size
  go_wp2_with fail
  refine hgt6.mono ?_
  rintro e w7 ⟨hgot,hb7⟩
  have hb57:Below W5.heap.size W5 w7:=BTr hb6 hb7
  have hzz7:=hb7.size
  clear t0 t1 t2 t3 t4 t5 t6 y4 s0 s1 s2 s3 x36
  rcases hgot with⟨hno,rfl⟩|⟨k,V0,hk1,hk2,hk3,y,q0,x1',y1',z1',x2',y2',z2',x3',y3',z3',hey,rfl,hyp,hyo,hyb,hyn⟩
  ·have HT:Hid (R=if 60 < K then .error 5 else .ok ⟨A1x fs x (BO.vals b) V,BO.unk b⟩):=by
    show _=_
    have hf0:(BO.vals b).find? (isV V.number)=none:=by
     rw[List.find?_eq_none]
     intro v hv
     have:=hno v hv
     rw[HZN.out]
     simpa [isV] using this
    rw[←HR.out]
    unfold A1m
    rw[if_neg (by have:=HK.out;omega),hf0]
    show(if 60 < A1i V then _ else _)=_
    have:=HK.out
    by_cases h:60 < A1i V
    ·rw[if_pos h,if_pos (by omega)]
    ·rw[if_neg h,if_neg (by omega)]
   clear hno
   go_upto_region 9 with fail
   obtain⟨T,HT0⟩:∃ T,Hid (T=w7.alloc (.cells #[.int .i64 0,.slice none 0 0,.slice none 0 0,.slice none 0 0] 54)):=⟨_,rfl⟩
   rw[←HT0.out]
   have hb7T:Below w7.heap.size w7 T:=by rw[HT0.out];exact(Below.refl _ _).alloc (Nat.le_refl _) _
   have hbT:Below W5.heap.size W5 T:=BTr hb57 hb7T
   have huT:Below u.heap.size u T:=BTr hux hbT
   have x3T:=(hbT.block (w.heap.size+3) (by omega)).trans x3
   have hbwT:Below w.heap.size w T:=BTr hb5 hbT
   have hctT:=hct T
   obtain⟨⟨t0,t1⟩,⟨t2,t3,t4⟩,⟨t5,t6⟩,y4⟩:=hcl T _ (FrB.of_below hbT:FrB [] W5 T) (fun k h=>by simp at h)
   obtain⟨s0,s1,s2,s3⟩:=A1r x3T
   go_wp2_with fail
   refine hctT.mono ?_
   rintro e w8 ⟨rfl,hb8⟩
   have hf8:=((FrB.of_below hbT:FrB [] W5 T)).on hb8
   have hzT:=((FrB.of_below hbT:FrB [] W5 T)).size
   have hz8:=hb8.size
   have x38:=(hb8.block (w.heap.size+3) (by omega)).trans x3T
   have hu8:Below u.heap.size u w8:=BTr huT hb8
   clear t0 t1 t2 t3 t4 t5 t6 y4 s0 s1 s2 s3
   obtain⟨⟨t0,t1⟩,⟨t2,t3,t4⟩,⟨t5,t6⟩,y4⟩:=hcl w8 _ hf8 (fun k h=>by simp at h)
   obtain⟨s0,s1,s2,s3⟩:=A1r x38
   obtain⟨p0,p1⟩:=A0v y4
   have fr4':=A0b y4
   by_cases h60:60 < K
   ·have HT2:Hid (R = .error 5):=by show _=_;rw[HT.out,if_pos h60]
    go_wp2_with fail
    refine bodyPost_ret (v:=.tuple #[.agg #[.slice none 0 0,.slice none 0 0],.int .i64 5]) (by simp[results,Tryz.results62,go_sem, *]) rfl ?_
    refine⟨?_,?_⟩
    ·first|exact hu8|exact A0d (A0d hu8 (by omega)) (by omega)
    ·rw[HT2.out]
     exact⟨by omega,rfl⟩
   ·have HT2:Hid (R = .ok ⟨A1x fs x (BO.vals b) V,BO.unk b⟩):=by show _=_;rw[HT.out,if_neg h60]
    obtain⟨ra,rb,rc⟩:=(⟨HR1.out.1.below UAt.stays hbwT,HR1.out.2.1.below ZAt.stays hbwT,HR1.out.2.2.below (BAt.stays d) hbwT⟩:_∧_∧_)
    have hst:=hset w8 V b1 m1 d1 b2 m2 d2 b3 m3 d3 hu8 HZN.out (ra.below UAt.stays hb8) (rb.below ZAt.stays hb8) (rc.below (BAt.stays d) hb8) HZK.out
    go_wp2_with fail
    refine hst.mono ?_
    rintro e w9 ⟨c,i0,j0,l0,i1,j1,l1,rfl,HC,hb9⟩
    have y49:=(hb9.block (w.heap.size+4) (by omega)).trans y4
    clear p0 p1 fr4'
    obtain⟨p0,p1⟩:=A0v y49
    have fr4':=A0b y49
    go_wp2_with fail
    refine bodyPost_ret (v:=.tuple #[.agg #[.slice i0 j0 l0,.slice i1 j1 l1],.int .i64 0]) (by simp[results,Tryz.results62,go_sem, *]) rfl ?_
    refine⟨A0d (A0d (BTr hu8 hb9) (by omega)) (by omega),?_⟩
    rw[HT2.out]
    obtain⟨h1,h2,h3,h4⟩:=HC.out
    refine .inr ⟨c,i0,j0,l0,i1,j1,l1,h1,rfl,h2,OwnB.fr (d+1) [w.heap.size+4] _ _ _ (OwnB.mono (d+1) h3 (by omega)) (fr2 y49) (fun k hk hm=>?_),h4⟩
    have:=(OwnB.inB (d+1) h3 k hk).1
    rw[List.mem_singleton] at hm
    omega
  ·
   have hnu:y.number=mu:=by rw[←hk3,←hyp];rfl
   obtain⟨nu,ybi,yby,ysu,⟨p1x,p1y,p1z⟩,⟨p2x,p2y,p2z⟩,⟨p3x,p3y,p3z⟩⟩:=y
   have hey : [Value.int .i64 nu,Value.slice p1x p1y p1z,Value.slice p2x p2y p2z,Value.slice p3x p3y p3z] = [.int .i64 q0,.slice x1' y1' z1',.slice x2' y2' z2',.slice x3' y3' z3']:=hey
   have hnu:mu=nu:=hnu.symm
   simp only[List.cons.injEq,Value.int.injEq,Value.slice.injEq,true_and,and_true] at hey
   obtain⟨rfl,⟨rfl,rfl,rfl⟩,⟨rfl,rfl,rfl⟩,⟨rfl,rfl,rfl⟩⟩:=hey
   subst hnu
   have hv0:V0∈BO.vals b:=List.mem_of_getElem? hk2
   have hfd:(BO.vals b).find? (isV V.number)=some V0:=by
    rw[HZN.out]
    exact B1o hk1 hk2
   obtain⟨Rm,HRm⟩:∃ Rm,Hid (C2n g d x V0 V=Rm):=⟨_,rfl⟩
   have HT:Hid (R=D5f fs x b Rm):=by
    show _=_
    rw[←HR.out,←HRm.out]
    exact C3n (by have:=HK.out;omega) hfd
   have HYP:Hid _:=hyp
   have HYO:Hid _:=hyo
   have HYN:Hid _:=hyn
   have HYB:Hid _:=hyb
   have HV0:Hid (V0∈BO.vals b):=hv0
   have HW0:Hid (jW (jWB d) V0+jW (jWB d) V≤1000000000):=by
    show _≤_
    have h1:=B4p (jW (jWB d)) hv0
    have h2:=HWt.out
    omega
   obtain⟨kf,hK1,hK2⟩:=A7q (show fs.find? (fun f=>decide (f.number=mu))=some x from HX.out)
   obtain⟨bf,of,rfl,hfat⟩:=HF.out.get FAt.plain hK2
   have hkf:(kf:Int) < (nf:Int):=by have:=(List.getElem?_eq_some_iff.1 hK2).1;have:=HF.out.len.1;omega
   have hkf0:¬ (kf:Int) < 0:=by omega
   obtain⟨y0,y1,y2,y3,y4,y5⟩:=hfat
   rw[A0f] at y1 y2 y3 y4 y5
   have hbf:=B2n y0
   have hzl:=fun k hk=>And.intro (HZU.out k hk) (HZ.out.lt k hk).2
   clear hk1 hk2 hk3 hyp hyo hyn hyb hv0 hfd
   go_upto_region 6 with fail
   obtain⟨W9,HW9⟩:∃ W9,Hid (W9=w7.alloc (.cells #[.int .i64 mu,.slice p1x p1y p1z,.slice p2x p2y p2z,.slice p3x p3y p3z] 54)):=⟨_,rfl⟩
   rw[←HW9.out]
   obtain⟨cf1,zz9⟩:W9.heap[w7.heap.size]?=some (.cells #[.int .i64 mu,.slice p1x p1y p1z,.slice p2x p2y p2z,.slice p3x p3y p3z] 54 (0,0))∧w7.heap.size+1≤W9.heap.size:=by
    rw[HW9.out]
    exact D1o _ _
   have hb79:Below w7.heap.size w7 W9:=by rw[HW9.out];exact(Below.refl _ _).alloc (Nat.le_refl _) _
   have hb59:Below W5.heap.size W5 W9:=BTr hb57 hb79
   have hu9:Below u.heap.size u W9:=BTr hux hb59
   have hw9:Below w.heap.size w W9:=BTr hb5 hb59
   have x39:=(hb59.block (w.heap.size+3) (by omega)).trans x3
   have hyl:=HYO.out.lt
   have nI:∀ k,k∈VL.fp (LB.fp d) (⟨mu,ybi,yby,ysu,(p1x,p1y,p1z),(p2x,p2y,p2z),(p3x,p3y,p3z)⟩:VL (LB d))++VL.fp (LB.fp d) (⟨mu,bj,bz',sv,(b1,m1,d1),(b2,m2,d2),(b3,m3,d3)⟩:VL (LB d))++[w.heap.size+3]→u.heap.size≤k∧(k < w.heap.size∨k=w.heap.size+3∨W5.heap.size≤k)∧k < W9.heap.size∧k≠w7.heap.size:=fun k hk=>by
    rcases List.mem_append.1 hk with hk|hk
    ·rcases List.mem_append.1 hk with hk|hk
     ·have h1:=HYB.out k hk
      have h2:=hyl k hk
      omega
     ·have h2:=hzl k hk
      omega
    ·rw[List.mem_singleton] at hk
     omega
   obtain⟨Q6,HQ6⟩:∃ Q6:World→Prop,Hid (∀ V,Q6 V↔∀ k,k < W9.heap.size→k∉VL.fp (LB.fp d) (⟨mu,ybi,yby,ysu,(p1x,p1y,p1z),(p2x,p2y,p2z),(p3x,p3y,p3z)⟩:VL (LB d))++VL.fp (LB.fp d) (⟨mu,bj,bz',sv,(b1,m1,d1),(b2,m2,d2),(b3,m3,d3)⟩:VL (LB d))++[w.heap.size+3]→V.heap[k]?=W9.heap[k]?):=⟨_,fun _=>Iff.rfl⟩
   have hcl6:∀ V,Q6 V→(V.cell? ⟨w.heap.size,0,none⟩=some (.slice am nm cm)∧V.cell? ⟨w.heap.size,1,none⟩=some (.slice ae ne ce)∧V.cell? ⟨w.heap.size+1,0,none⟩=some (.string (S nam))∧V.cell? ⟨w.heap.size+1,1,none⟩=some (.slice (some ⟨bf,of,none⟩) nf cf)∧V.cell? ⟨w.heap.size+1,2,none⟩=some (.slice ab nb cb))∧(V.cell? ⟨bf,of+kf*6,none⟩=some (.string (S x.name))∧V.cell? ⟨bf,of+kf*6+1,none⟩=some (.int .i64 x.number)∧V.cell? ⟨bf,of+kf*6+2,none⟩=some (.int .i64 x.kind)∧V.cell? ⟨bf,of+kf*6+3,none⟩=some (.string (S x.type))∧V.cell? ⟨bf,of+kf*6+4,none⟩=some (.bool x.many)∧V.cell? ⟨bf,of+kf*6+5,none⟩=some (.int .i64 x.choice))∧V.cell? ⟨w7.heap.size,0,none⟩=some (.int .i64 mu)∧V.cell? ⟨w7.heap.size,1,none⟩=some (.slice p1x p1y p1z)∧V.cell? ⟨w7.heap.size,2,none⟩=some (.slice p2x p2y p2z)∧V.cell? ⟨w7.heap.size,3,none⟩=some (.slice p3x p3y p3z):=fun V hV=>by
    have q1:=(HQ6.out V).1 hV
    obtain⟨e0,e1⟩:=A0v ((q1 (w.heap.size) (by omega) (fun h=>by have:=nI _ h;omega)).trans ((hb59.block _ (by omega)).trans x0))
    obtain⟨e2,e3,e4⟩:=B3e ((q1 (w.heap.size+1) (by omega) (fun h=>by have:=nI _ h;omega)).trans ((hb59.block _ (by omega)).trans x1))
    have c1:=A1a (q1 bf (by have:=hu9.size;omega) (fun h=>by have:=(nI _ h).1;omega))
    refine⟨⟨e0,e1,e2,e3,e4⟩,⟨?_,?_,?_,?_,?_,?_⟩,A1r ((q1 w7.heap.size (by omega) (fun h=>(nI _ h).2.2.2 rfl)).trans cf1)⟩
    ·rw[c1];exact A0c hu9 y0
    ·rw[c1];exact A0c hu9 y1
    ·rw[c1];exact A0c hu9 y2
    ·rw[c1];exact A0c hu9 y3
    ·rw[c1];exact A0c hu9 y4
    ·rw[c1];exact A0c hu9 y5
   have hQ0:Q6 W9.drew:=(HQ6.out _).2 fun _ _ _=>rfl
   have hfld:=A4n (HF.out.below FAt.stays (hu9.drew)) ⟨ab,nb,cb,rfl⟩ ⟨nam,rfl⟩ mu
   rw[hK1] at hfld
   have hQ3f:∀ V3,Below W9.drew.heap.size W9.drew V3→Q6 V3:=fun V3 hV=>(HQ6.out _).2 fun k hk _=>hV.block k hk
   have hT3f:∀ V3,Below W9.drew.heap.size W9.drew V3→V3.heap[w.heap.size+3]?=some (.cells #[.int .i64 mu,.slice b1 m1 d1,.slice b2 m2 d2,.slice b3 m3 d3] 54 (0,0)):=fun V3 hV=>(hV.block _ (show w.heap.size+3 < W9.heap.size by omega)).trans x39
   have hT4f:∀ V3 V4,Below W9.drew.heap.size W9.drew V3→FrB (VL.fp (LB.fp d) (⟨mu,ybi,yby,ysu,(p1x,p1y,p1z),(p2x,p2y,p2z),(p3x,p3y,p3z)⟩:VL (LB d))++VL.fp (LB.fp d) (⟨mu,bj,bz',sv,(b1,m1,d1),(b2,m2,d2),(b3,m3,d3)⟩:VL (LB d))) V3 V4→V4.heap[w.heap.size+3]?=some (.cells #[.int .i64 mu,.slice b1 m1 d1,.slice b2 m2 d2,.slice b3 m3 d3] 54 (0,0)):=fun V3 V4 h3 h4=>(h4.blk (by have:=h3.size;have e:W9.drew.heap.size=W9.heap.size:=rfl;omega) (fun h=>by
    rcases List.mem_append.1 h with h|h
    ·have:=HYB.out _ h;omega
    ·have:=hzl _ h;omega)).trans (hT3f V3 h3)
   have hQ4f:∀ V3 V4,Below W9.drew.heap.size W9.drew V3→FrB (VL.fp (LB.fp d) (⟨mu,ybi,yby,ysu,(p1x,p1y,p1z),(p2x,p2y,p2z),(p3x,p3y,p3z)⟩:VL (LB d))++VL.fp (LB.fp d) (⟨mu,bj,bz',sv,(b1,m1,d1),(b2,m2,d2),(b3,m3,d3)⟩:VL (LB d))) V3 V4→Q6 V4:=fun V3 V4 h3 h4=>(HQ6.out _).2 fun k hk hn=>(h4.blk (by have:=h3.size;have e:W9.drew.heap.size=W9.heap.size:=rfl;omega) (fun h=>hn (List.mem_append_left _ h))).trans ((HQ6.out _).1 (hQ3f V3 h3) k hk hn)
   have hQ5f:∀ V4 x0 x1 x2 x3,Q6 V4→V4.heap[w.heap.size+3]?=some (.cells #[.int .i64 mu,.slice b1 m1 d1,.slice b2 m2 d2,.slice b3 m3 d3] 54 (0,0))→W9.heap.size≤V4.heap.size→Q6 ((((V4.setCell ⟨w.heap.size+3,0,none⟩ x0).setCell ⟨w.heap.size+3,1,none⟩ x1).setCell ⟨w.heap.size+3,2,none⟩ x2).setCell ⟨w.heap.size+3,3,none⟩ x3):=fun V4 x0 x1 x2 x3 hV hT hs=>(HQ6.out _).2 fun k hk hn=>((fr4 hT).blk (by omega) (fun h=>hn (List.mem_append_right _ h))).trans ((HQ6.out _).1 hV k hk hn)
   have hmet:∀ V3,Below W9.drew.heap.size W9.drew V3→Calls Tryz.prog 129 #[.agg #[.slice am nm cm,.slice ae ne ce],.agg #[.string (S x.name),.int .i64 x.number,.int .i64 x.kind,.string (S x.type),.bool x.many,.int .i64 x.choice],.agg #[.int .i64 mu,.slice p1x p1y p1z,.slice p2x p2y p2z,.slice p3x p3y p3z],.agg #[.int .i64 mu,.slice b1 m1 d1,.slice b2 m2 d2,.slice b3 m3 d3]] V3 fun e w'=>∃ (e1:Option Addr) (f1 g1:Nat) (e2:Option Addr) (f2 g2:Nat) (e3:Option Addr) (f3 g3:Nat) (E:Int),e = .returned (.tuple #[.agg #[.int .i64 mu,.slice e1 f1 g1,.slice e2 f2 g2,.slice e3 f3 g3],.int .i64 E])∧Hid (MRd (VL.fp (LB.fp d) (⟨mu,ybi,yby,ysu,(p1x,p1y,p1z),(p2x,p2y,p2z),(p3x,p3y,p3z)⟩:VL (LB d))++VL.fp (LB.fp d) (⟨mu,bj,bz',sv,(b1,m1,d1),(b2,m2,d2),(b3,m3,d3)⟩:VL (LB d))) W9 w' mu e1 f1 g1 e2 f2 g2 e3 f3 g3 E Rm)∧FrB (VL.fp (LB.fp d) (⟨mu,ybi,yby,ysu,(p1x,p1y,p1z),(p2x,p2y,p2z),(p3x,p3y,p3z)⟩:VL (LB d))++VL.fp (LB.fp d) (⟨mu,bj,bz',sv,(b1,m1,d1),(b2,m2,d2),(b3,m3,d3)⟩:VL (LB d))) V3 w':=fun V3 hV3=>by
    have hb93:Below W9.heap.size W9 V3:=BTr (Below.refl _ _).drew hV3
    have hw3:Below w.heap.size w V3:=BTr hw9 hb93
    have hu3:Below u.heap.size u V3:=BTr hu9 hb93
    have hin:MetIn d W0 V3 (⟨mu,ybi,yby,ysu,(p1x,p1y,p1z),(p2x,p2y,p2z),(p3x,p3y,p3z)⟩:VL (LB d)) (⟨mu,bj,bz',sv,(b1,m1,d1),(b2,m2,d2),(b3,m3,d3)⟩:VL (LB d)):=by
     refine⟨BTr h0 hu3,(HYO.out.below hb79).below hb93,HZ.out.below hw3,fun k=>?_,?_⟩
     ·have h1:=List.nodup_iff_count.1 HYN.out k
      have h2:=List.nodup_iff_count.1 hzn k
      by_cases h3:0 < (VL.fp (LB.fp d) (⟨mu,ybi,yby,ysu,(p1x,p1y,p1z),(p2x,p2y,p2z),(p3x,p3y,p3z)⟩:VL (LB d))).count k
      ·by_cases h4:0 < (VL.fp (LB.fp d) (⟨mu,bj,bz',sv,(b1,m1,d1),(b2,m2,d2),(b3,m3,d3)⟩:VL (LB d))).count k
       ·have:=HYB.out k (List.count_pos_iff.1 h3)
        have:=hzl k (List.count_pos_iff.1 h4)
        omega
       ·omega
      ·omega
     ·rw[HYP.out,HV.out]
      exact HW0.out
    refine(C8g hin x rfl (fun j hj=>(HIN.out j hj).below hu3) (fun hm hk=>?_)).mono ?_
    ·obtain⟨h1,h2⟩:=HSB.out hm hk
     obtain⟨g1,g2,s,g3⟩:=h2 V0 (.inl HV0.out) (by rw[←HYP.out];rfl)
     obtain⟨g4,g5,t,g6⟩:=h2 V (.inr rfl) (by rw[←HV.out];rfl)
     have oV0:=HBO.out V0 HV0.out
     have oV:=HZK.out
     rw[←HYP.out] at g1 g2 g3 oV0
     rw[←HV.out] at g4 g5 g6 oV
     obtain⟨s',hs',hs''⟩:=B9u (show ysu.map (LB.pl d) = [s] from g3)
     obtain⟨t',ht',ht''⟩:=B9u (show sv.map (LB.pl d) = [t] from g6)
     refine⟨h1,g1,List.map_eq_nil_iff.1 g2,g4,List.map_eq_nil_iff.1 g5,s',t',hs',ht',?_,?_⟩
     ·rw[hs'']
      exact oV0.2.2.2.2.2.1 s (by rw[g3];simp)
     ·rw[ht'']
      exact oV.2.2.2.2.2.1 t (by rw[g6];simp)
    ·rintro e w' ⟨e1,f1,g1,e2,f2,g2,e3,f3,g3,E,rfl,hfm,hm⟩
     refine⟨e1,f1,g1,e2,f2,g2,e3,f3,g3,E,rfl,?_,hfm⟩
     rw[HYP.out,HV.out,HRm.out] at hm
     show MRd (VL.fp (LB.fp d) (⟨mu,ybi,yby,ysu,(p1x,p1y,p1z),(p2x,p2y,p2z),(p3x,p3y,p3z)⟩:VL (LB d))++VL.fp (LB.fp d) (⟨mu,bj,bz',sv,(b1,m1,d1),(b2,m2,d2),(b3,m3,d3)⟩:VL (LB d))) _ _ _ _ _ _ _ _ _ _ _ _ _ Rm
     cases Rm with
     | error E'=>exact hm
     | ok v=>exact⟨hm.1,hm.2.1,fun w'' ⟨G,hG,hGF⟩=>hm.2.2 w'' ⟨G,hG,fun k hk=>⟨by have h1:=(hGF k hk).1;have h2:=hb93.size;omega,(hGF k hk).2⟩⟩⟩
   obtain⟨s0,s1,s2,s3⟩:=A1r x39
   clear y0 y1 y2 y3 y4 y5 hK1
   go_cut [12] from 25 to 39 (fun s12 wc=>∃ (e1:Option Addr) (f1 g1:Nat) (e2:Option Addr) (f2 g2:Nat) (e3:Option Addr) (f3 g3:Nat) (E:Int) (w11:World),s12 = .int .i64 E∧Hid (MRd (VL.fp (LB.fp d) (⟨mu,ybi,yby,ysu,(p1x,p1y,p1z),(p2x,p2y,p2z),(p3x,p3y,p3z)⟩:VL (LB d))++VL.fp (LB.fp d) (⟨mu,bj,bz',sv,(b1,m1,d1),(b2,m2,d2),(b3,m3,d3)⟩:VL (LB d))) W9 w11 mu e1 f1 g1 e2 f2 g2 e3 f3 g3 E Rm)∧FrB (VL.fp (LB.fp d) (⟨mu,ybi,yby,ysu,(p1x,p1y,p1z),(p2x,p2y,p2z),(p3x,p3y,p3z)⟩:VL (LB d))++VL.fp (LB.fp d) (⟨mu,bj,bz',sv,(b1,m1,d1),(b2,m2,d2),(b3,m3,d3)⟩:VL (LB d))) W9 w11∧wc.heap[w.heap.size+3]?=some (.cells #[.int .i64 mu,.slice e1 f1 g1,.slice e2 f2 g2,.slice e3 f3 g3] 54 (0,0))∧FrB [w.heap.size+3] w11 wc)
   case first=>
    refine wp_region_held_drew (S:=Q6) (by kernel_rfl) hQ0 (fun hHeld=>?_)
    refine tK (i:=0) (v:=?vr1) rfl (fun _ _ _ h=>h) ⟨by rfl,?hyr1⟩ (by assumption) ?_
    case hyr1=>(intro W hSw;obtain⟨⟨o1,o2,o3,o4,o5⟩,⟨o7,o8,o9,o10,o11,o12⟩,o13,o14,o15,o16⟩:=hcl6 W hSw;go_simp;first|done|with_reducible rfl)
    try simp only[pT,Act.put]
    refine tK (i:=1) (v:=?vr2) rfl (fun _ _ _ h=>h) ⟨by rfl,?hyr2⟩ (by assumption) ?_
    case hyr2=>(intro W hSw;obtain⟨⟨o1,o2,o3,o4,o5⟩,⟨o7,o8,o9,o10,o11,o12⟩,o13,o14,o15,o16⟩:=hcl6 W hSw;go_simp;first|done|with_reducible rfl)
    try simp only[pT,Act.put]
    refine tK (i:=2) (v:=?vr3) rfl (fun _ _ _ h=>h) ⟨by rfl,?hyr3⟩ (by assumption) ?_
    case hyr3=>(intro W hSw;obtain⟨⟨o1,o2,o3,o4,o5⟩,⟨o7,o8,o9,o10,o11,o12⟩,o13,o14,o15,o16⟩:=hcl6 W hSw;go_simp;first|done|with_reducible rfl)
    try simp only[pT,Act.put]
    refine tK (i:=3) (v:=?vr4) rfl (fun _ _ _ h=>h) ⟨by rfl,?hyr4⟩ (by assumption) ?_
    case hyr4=>(intro W hSw;obtain⟨⟨o1,o2,o3,o4,o5⟩,⟨o7,o8,o9,o10,o11,o12⟩,o13,o14,o15,o16⟩:=hcl6 W hSw;go_simp;first|done|with_reducible rfl)
    try simp only[pT,Act.put]
    refine tK (i:=4) (v:=?vr5) rfl (fun _ _ _ h=>h) ⟨by rfl,?hyr5⟩ (by assumption) ?_
    case hyr5=>(intro W hSw;obtain⟨⟨o1,o2,o3,o4,o5⟩,⟨o7,o8,o9,o10,o11,o12⟩,o13,o14,o15,o16⟩:=hcl6 W hSw;go_simp;first|done|with_reducible rfl)
    try simp only[pT,Act.put]
    refine tK (i:=9) (v:=?vr6) rfl (fun _ _ _ h=>h) ⟨by rfl,?hyr6⟩ (by assumption) ?_
    case hyr6=>(intro W hSw;obtain⟨⟨o1,o2,o3,o4,o5⟩,⟨o7,o8,o9,o10,o11,o12⟩,o13,o14,o15,o16⟩:=hcl6 W hSw;go_simp;first|done|with_reducible rfl)
    try simp only[pT,Act.put]
    refine wpAnyH_ready (rs:=[5,10]) (by kernel_rfl) (by simp) ?_
    refine AllReadyH.cons rfl (fun K hK=>?_) (AllReadyH.cons rfl (fun K hK=>?_) AllReadyH.nil)
    ·skip
     go_simp
     refine hK.out _ _ ?_ (fun hHeld=>?_)
     ·(try dsimp only);with_reducible first|exact hQ0|exact hQ3|exact hQ4|exact hQ5
     clear hK K
     try simp only[pT,Act.put]
     refine wpAnyH_ready (rs:=[6,10]) (by kernel_rfl) (by simp) ?_
     refine AllReadyH.cons rfl (fun K hK=>?_) (AllReadyH.cons rfl (fun K hK=>?_) AllReadyH.nil)
     ·skip
      go_simp
      refine hfld.mono ?_
      rintro e V3 ⟨rfl,hb3⟩
      have hQ3:=hQ3f V3 hb3
      have kT3:=hT3f V3 hb3
      obtain⟨t30,t31,t32,t33⟩:=A1r kT3
      refine hK.out _ _ ?_ (fun hHeld=>?_)
      ·(try dsimp only);with_reducible first|exact hQ0|exact hQ3|exact hQ4|exact hQ5
      clear hK K
      try simp only[pT,Act.put]
      refine tK (i:=7) (v:=?vr7) rfl (fun _ _ _ h=>h) ⟨by rfl,?hyr7⟩ (by assumption) ?_
      case hyr7=>(intro W hSw;obtain⟨⟨o1,o2,o3,o4,o5⟩,⟨o7,o8,o9,o10,o11,o12⟩,o13,o14,o15,o16⟩:=hcl6 W hSw;go_simp;first|done|with_reducible rfl)
      try simp only[pT,Act.put]
      refine tK (i:=8) (v:=?vr8) rfl (fun _ _ _ h=>h) ⟨by rfl,?hyr8⟩ (by assumption) ?_
      case hyr8=>(intro W hSw;obtain⟨⟨o1,o2,o3,o4,o5⟩,⟨o7,o8,o9,o10,o11,o12⟩,o13,o14,o15,o16⟩:=hcl6 W hSw;go_simp;first|done|with_reducible rfl)
      try simp only[pT,Act.put]
      refine wpAnyH_ready (rs:=[10]) (by kernel_rfl) (by simp) ?_
      refine AllReadyH.cons rfl (fun K hK=>?_) AllReadyH.nil
      go_simp
      refine hK.out _ _ ?_ (fun hHeld=>?_)
      ·(try dsimp only);with_reducible first|exact hQ0|exact hQ3|exact hQ4|exact hQ5
      clear hK K
      try simp only[pT,Act.put]
      refine wpAnyH_ready (rs:=[11]) (by kernel_rfl) (by simp) ?_
      refine AllReadyH.cons rfl (fun K hK=>?_) AllReadyH.nil
      go_simp
      refine(hmet V3 hb3).mono ?_
      rintro e V4 ⟨e1,f1,g1,e2,f2,g2,e3,f3,g3,E,rfl,HM,hfm⟩
      have hQ4:=hQ4f V3 V4 hb3 hfm
      have kT4:=hT4f V3 V4 hb3 hfm
      obtain⟨t40,t41,t42,t43⟩:=A1r kT4
      have tf0:=A0b kT4 0
      have tf1:=A0b kT4 1
      have tf2:=A0b kT4 2
      have tf3:=A0b kT4 3
      have zz3:=hb3.size
      have zz4:=hfm.size
      have zzD:W9.heap.size≤W9.drew.heap.size:=Nat.le_refl _
      have hQ5:=hQ5f V4 (.int .i64 mu) (.slice e1 f1 g1) (.slice e2 f2 g2) (.slice e3 f3 g3) hQ4 kT4 (by omega)
      refine hK.out _ _ ?_ (fun hHeld=>?_)
      ·(try dsimp only);with_reducible first|exact hQ0|exact hQ3|exact hQ4|exact hQ5
      clear hK K
      try simp only[pT,Act.put]
      refine tK (i:=12) (v:=?vr9) rfl (fun _ _ _ h=>h) ⟨by rfl,?hyr9⟩ (by assumption) ?_
      case hyr9=>(intro W hSw;obtain⟨⟨o1,o2,o3,o4,o5⟩,⟨o7,o8,o9,o10,o11,o12⟩,o13,o14,o15,o16⟩:=hcl6 W hSw;go_simp;first|done|with_reducible rfl)
      try simp only[pT,Act.put]
      refine tK (i:=13) (v:=?vr10) rfl (fun _ _ _ h=>h) ⟨by rfl,?hyr10⟩ (by assumption) ?_
      case hyr10=>(intro W hSw;obtain⟨⟨o1,o2,o3,o4,o5⟩,⟨o7,o8,o9,o10,o11,o12⟩,o13,o14,o15,o16⟩:=hcl6 W hSw;go_simp;first|done|with_reducible rfl)
      try simp only[pT,Act.put]
      refine tK (i:=14) (v:=?vr11) rfl (fun _ _ _ h=>h) ⟨by rfl,?hyr11⟩ (by assumption) ?_
      case hyr11=>(intro W hSw;obtain⟨⟨o1,o2,o3,o4,o5⟩,⟨o7,o8,o9,o10,o11,o12⟩,o13,o14,o15,o16⟩:=hcl6 W hSw;go_simp;first|done|with_reducible rfl)
      try simp only[pT,Act.put]
      refine wpAnyH_ready (rs:=[15]) (by kernel_rfl) (by simp) ?_
      refine AllReadyH.cons rfl (fun K hK=>?_) AllReadyH.nil
      go_simp
      refine hK.out _ _ ?_ (fun hHeld=>?_)
      ·(try dsimp only);with_reducible first|exact hQ0|exact hQ3|exact hQ4|exact hQ5
      clear hK K
      try simp only[pT,Act.put]
      refine wpAnyH_ready (rs:=[16]) (by kernel_rfl) (by simp) ?_
      refine AllReadyH.cons rfl (fun K hK=>?_) AllReadyH.nil
      go_simp
      refine hK.out _ _ ?_ (fun hHeld=>?_)
      ·(try dsimp only);with_reducible first|exact hQ0|exact hQ3|exact hQ4|exact hQ5
      clear hK K
      try simp only[pT,Act.put]
      refine wpAnyH_done (by kernel_rfl) ?_ _
      go_wp2_with fail
      go_meet
      refine⟨e1,f1,g1,e2,f2,g2,e3,f3,g3,E,V4,rfl,HM,?_,?_,?_⟩
      ·exact(FrB.of_below (BTr (Below.refl _ W9).drew hb3):FrB [] W9 V3).trans hfm (fun _ hi=>by simp at hi) (fun _ hi=>.inl hi)
      ·exact heap_setCell_same _ _ 3 _ _ _ (heap_setCell_same _ _ 2 _ _ _ (heap_setCell_same _ _ 1 _ _ _ (heap_setCell_same _ _ 0 _ _ _ kT4)))
      ·exact fr4 kT4
     ·skip
      go_simp
      refine hK.out _ _ ?_ (fun hHeld=>?_)
      ·(try dsimp only);with_reducible first|exact hQ0|exact hQ3|exact hQ4|exact hQ5
      clear hK K
      try simp only[pT,Act.put]
      refine wpAnyH_ready (rs:=[6]) (by kernel_rfl) (by simp) ?_
      refine AllReadyH.cons rfl (fun K hK=>?_) AllReadyH.nil
      go_simp
      refine hfld.mono ?_
      rintro e V3 ⟨rfl,hb3⟩
      have hQ3:=hQ3f V3 hb3
      have kT3:=hT3f V3 hb3
      obtain⟨t30,t31,t32,t33⟩:=A1r kT3
      refine hK.out _ _ ?_ (fun hHeld=>?_)
      ·(try dsimp only);with_reducible first|exact hQ0|exact hQ3|exact hQ4|exact hQ5
      clear hK K
      try simp only[pT,Act.put]
      refine tK (i:=7) (v:=?vr12) rfl (fun _ _ _ h=>h) ⟨by rfl,?hyr12⟩ (by assumption) ?_
      case hyr12=>(intro W hSw;obtain⟨⟨o1,o2,o3,o4,o5⟩,⟨o7,o8,o9,o10,o11,o12⟩,o13,o14,o15,o16⟩:=hcl6 W hSw;go_simp;first|done|with_reducible rfl)
      try simp only[pT,Act.put]
      refine tK (i:=8) (v:=?vr13) rfl (fun _ _ _ h=>h) ⟨by rfl,?hyr13⟩ (by assumption) ?_
      case hyr13=>(intro W hSw;obtain⟨⟨o1,o2,o3,o4,o5⟩,⟨o7,o8,o9,o10,o11,o12⟩,o13,o14,o15,o16⟩:=hcl6 W hSw;go_simp;first|done|with_reducible rfl)
      try simp only[pT,Act.put]
      refine wpAnyH_ready (rs:=[11]) (by kernel_rfl) (by simp) ?_
      refine AllReadyH.cons rfl (fun K hK=>?_) AllReadyH.nil
      go_simp
      refine(hmet V3 hb3).mono ?_
      rintro e V4 ⟨e1,f1,g1,e2,f2,g2,e3,f3,g3,E,rfl,HM,hfm⟩
      have hQ4:=hQ4f V3 V4 hb3 hfm
      have kT4:=hT4f V3 V4 hb3 hfm
      obtain⟨t40,t41,t42,t43⟩:=A1r kT4
      have tf0:=A0b kT4 0
      have tf1:=A0b kT4 1
      have tf2:=A0b kT4 2
      have tf3:=A0b kT4 3
      have zz3:=hb3.size
      have zz4:=hfm.size
      have zzD:W9.heap.size≤W9.drew.heap.size:=Nat.le_refl _
      have hQ5:=hQ5f V4 (.int .i64 mu) (.slice e1 f1 g1) (.slice e2 f2 g2) (.slice e3 f3 g3) hQ4 kT4 (by omega)
      refine hK.out _ _ ?_ (fun hHeld=>?_)
      ·(try dsimp only);with_reducible first|exact hQ0|exact hQ3|exact hQ4|exact hQ5
      clear hK K
      try simp only[pT,Act.put]
      refine tK (i:=12) (v:=?vr14) rfl (fun _ _ _ h=>h) ⟨by rfl,?hyr14⟩ (by assumption) ?_
      case hyr14=>(intro W hSw;obtain⟨⟨o1,o2,o3,o4,o5⟩,⟨o7,o8,o9,o10,o11,o12⟩,o13,o14,o15,o16⟩:=hcl6 W hSw;go_simp;first|done|with_reducible rfl)
      try simp only[pT,Act.put]
      refine tK (i:=13) (v:=?vr15) rfl (fun _ _ _ h=>h) ⟨by rfl,?hyr15⟩ (by assumption) ?_
      case hyr15=>(intro W hSw;obtain⟨⟨o1,o2,o3,o4,o5⟩,⟨o7,o8,o9,o10,o11,o12⟩,o13,o14,o15,o16⟩:=hcl6 W hSw;go_simp;first|done|with_reducible rfl)
      try simp only[pT,Act.put]
      refine tK (i:=14) (v:=?vr16) rfl (fun _ _ _ h=>h) ⟨by rfl,?hyr16⟩ (by assumption) ?_
      case hyr16=>(intro W hSw;obtain⟨⟨o1,o2,o3,o4,o5⟩,⟨o7,o8,o9,o10,o11,o12⟩,o13,o14,o15,o16⟩:=hcl6 W hSw;go_simp;first|done|with_reducible rfl)
      try simp only[pT,Act.put]
      refine wpAnyH_ready (rs:=[15]) (by kernel_rfl) (by simp) ?_
      refine AllReadyH.cons rfl (fun K hK=>?_) AllReadyH.nil
      go_simp
      refine hK.out _ _ ?_ (fun hHeld=>?_)
      ·(try dsimp only);with_reducible first|exact hQ0|exact hQ3|exact hQ4|exact hQ5
      clear hK K
      try simp only[pT,Act.put]
      refine wpAnyH_ready (rs:=[16]) (by kernel_rfl) (by simp) ?_
      refine AllReadyH.cons rfl (fun K hK=>?_) AllReadyH.nil
      go_simp
      refine hK.out _ _ ?_ (fun hHeld=>?_)
      ·(try dsimp only);with_reducible first|exact hQ0|exact hQ3|exact hQ4|exact hQ5
      clear hK K
      try simp only[pT,Act.put]
      refine wpAnyH_done (by kernel_rfl) ?_ _
      go_wp2_with fail
      go_meet
      refine⟨e1,f1,g1,e2,f2,g2,e3,f3,g3,E,V4,rfl,HM,?_,?_,?_⟩
      ·exact(FrB.of_below (BTr (Below.refl _ W9).drew hb3):FrB [] W9 V3).trans hfm (fun _ hi=>by simp at hi) (fun _ hi=>.inl hi)
      ·exact heap_setCell_same _ _ 3 _ _ _ (heap_setCell_same _ _ 2 _ _ _ (heap_setCell_same _ _ 1 _ _ _ (heap_setCell_same _ _ 0 _ _ _ kT4)))
      ·exact fr4 kT4
    ·skip
     go_simp
     refine hK.out _ _ ?_ (fun hHeld=>?_)
     ·(try dsimp only);with_reducible first|exact hQ0|exact hQ3|exact hQ4|exact hQ5
     clear hK K
     try simp only[pT,Act.put]
     refine wpAnyH_ready (rs:=[5]) (by kernel_rfl) (by simp) ?_
     refine AllReadyH.cons rfl (fun K hK=>?_) AllReadyH.nil
     go_simp
     refine hK.out _ _ ?_ (fun hHeld=>?_)
     ·(try dsimp only);with_reducible first|exact hQ0|exact hQ3|exact hQ4|exact hQ5
     clear hK K
     try simp only[pT,Act.put]
     refine wpAnyH_ready (rs:=[6]) (by kernel_rfl) (by simp) ?_
     refine AllReadyH.cons rfl (fun K hK=>?_) AllReadyH.nil
     go_simp
     refine hfld.mono ?_
     rintro e V3 ⟨rfl,hb3⟩
     have hQ3:=hQ3f V3 hb3
     have kT3:=hT3f V3 hb3
     obtain⟨t30,t31,t32,t33⟩:=A1r kT3
     refine hK.out _ _ ?_ (fun hHeld=>?_)
     ·(try dsimp only);with_reducible first|exact hQ0|exact hQ3|exact hQ4|exact hQ5
     clear hK K
     try simp only[pT,Act.put]
     refine tK (i:=7) (v:=?vr17) rfl (fun _ _ _ h=>h) ⟨by rfl,?hyr17⟩ (by assumption) ?_
     case hyr17=>(intro W hSw;obtain⟨⟨o1,o2,o3,o4,o5⟩,⟨o7,o8,o9,o10,o11,o12⟩,o13,o14,o15,o16⟩:=hcl6 W hSw;go_simp;first|done|with_reducible rfl)
     try simp only[pT,Act.put]
     refine tK (i:=8) (v:=?vr18) rfl (fun _ _ _ h=>h) ⟨by rfl,?hyr18⟩ (by assumption) ?_
     case hyr18=>(intro W hSw;obtain⟨⟨o1,o2,o3,o4,o5⟩,⟨o7,o8,o9,o10,o11,o12⟩,o13,o14,o15,o16⟩:=hcl6 W hSw;go_simp;first|done|with_reducible rfl)
     try simp only[pT,Act.put]
     refine wpAnyH_ready (rs:=[11]) (by kernel_rfl) (by simp) ?_
     refine AllReadyH.cons rfl (fun K hK=>?_) AllReadyH.nil
     go_simp
     refine(hmet V3 hb3).mono ?_
     rintro e V4 ⟨e1,f1,g1,e2,f2,g2,e3,f3,g3,E,rfl,HM,hfm⟩
     have hQ4:=hQ4f V3 V4 hb3 hfm
     have kT4:=hT4f V3 V4 hb3 hfm
     obtain⟨t40,t41,t42,t43⟩:=A1r kT4
     have tf0:=A0b kT4 0
     have tf1:=A0b kT4 1
     have tf2:=A0b kT4 2
     have tf3:=A0b kT4 3
     have zz3:=hb3.size
     have zz4:=hfm.size
     have zzD:W9.heap.size≤W9.drew.heap.size:=Nat.le_refl _
     have hQ5:=hQ5f V4 (.int .i64 mu) (.slice e1 f1 g1) (.slice e2 f2 g2) (.slice e3 f3 g3) hQ4 kT4 (by omega)
     refine hK.out _ _ ?_ (fun hHeld=>?_)
     ·(try dsimp only);with_reducible first|exact hQ0|exact hQ3|exact hQ4|exact hQ5
     clear hK K
     try simp only[pT,Act.put]
     refine tK (i:=12) (v:=?vr19) rfl (fun _ _ _ h=>h) ⟨by rfl,?hyr19⟩ (by assumption) ?_
     case hyr19=>(intro W hSw;obtain⟨⟨o1,o2,o3,o4,o5⟩,⟨o7,o8,o9,o10,o11,o12⟩,o13,o14,o15,o16⟩:=hcl6 W hSw;go_simp;first|done|with_reducible rfl)
     try simp only[pT,Act.put]
     refine tK (i:=13) (v:=?vr20) rfl (fun _ _ _ h=>h) ⟨by rfl,?hyr20⟩ (by assumption) ?_
     case hyr20=>(intro W hSw;obtain⟨⟨o1,o2,o3,o4,o5⟩,⟨o7,o8,o9,o10,o11,o12⟩,o13,o14,o15,o16⟩:=hcl6 W hSw;go_simp;first|done|with_reducible rfl)
     try simp only[pT,Act.put]
     refine tK (i:=14) (v:=?vr21) rfl (fun _ _ _ h=>h) ⟨by rfl,?hyr21⟩ (by assumption) ?_
     case hyr21=>(intro W hSw;obtain⟨⟨o1,o2,o3,o4,o5⟩,⟨o7,o8,o9,o10,o11,o12⟩,o13,o14,o15,o16⟩:=hcl6 W hSw;go_simp;first|done|with_reducible rfl)
     try simp only[pT,Act.put]
     refine wpAnyH_ready (rs:=[15]) (by kernel_rfl) (by simp) ?_
     refine AllReadyH.cons rfl (fun K hK=>?_) AllReadyH.nil
     go_simp
     refine hK.out _ _ ?_ (fun hHeld=>?_)
     ·(try dsimp only);with_reducible first|exact hQ0|exact hQ3|exact hQ4|exact hQ5
     clear hK K
     try simp only[pT,Act.put]
     refine wpAnyH_ready (rs:=[16]) (by kernel_rfl) (by simp) ?_
     refine AllReadyH.cons rfl (fun K hK=>?_) AllReadyH.nil
     go_simp
     refine hK.out _ _ ?_ (fun hHeld=>?_)
     ·(try dsimp only);with_reducible first|exact hQ0|exact hQ3|exact hQ4|exact hQ5
     clear hK K
     try simp only[pT,Act.put]
     refine wpAnyH_done (by kernel_rfl) ?_ _
     go_wp2_with fail
     go_meet
     refine⟨e1,f1,g1,e2,f2,g2,e3,f3,g3,E,V4,rfl,HM,?_,?_,?_⟩
     ·exact(FrB.of_below (BTr (Below.refl _ W9).drew hb3):FrB [] W9 V3).trans hfm (fun _ hi=>by simp at hi) (fun _ hi=>.inl hi)
     ·exact heap_setCell_same _ _ 3 _ _ _ (heap_setCell_same _ _ 2 _ _ _ (heap_setCell_same _ _ 1 _ _ _ (heap_setCell_same _ _ 0 _ _ _ kT4)))
     ·exact fr4 kT4
   case rest=>
    obtain⟨e1,f1,g1,e2,f2,g2,e3,f3,g3,E,w11,rfl,HM,hf11,xc,hfc⟩:=hcut
    have hF11:FrB (VL.fp (LB.fp d) (⟨mu,ybi,yby,ysu,(p1x,p1y,p1z),(p2x,p2y,p2z),(p3x,p3y,p3z)⟩:VL (LB d))++VL.fp (LB.fp d) (⟨mu,bj,bz',sv,(b1,m1,d1),(b2,m2,d2),(b3,m3,d3)⟩:VL (LB d))++[w.heap.size+3]) W5 w11:=(FrB.of_below hb59:FrB [] W5 W9).trans hf11 (fun _ hi=>by simp at hi) (fun _ hi=>.inl (List.mem_append_left _ hi))
    have hFc:FrB (VL.fp (LB.fp d) (⟨mu,ybi,yby,ysu,(p1x,p1y,p1z),(p2x,p2y,p2z),(p3x,p3y,p3z)⟩:VL (LB d))++VL.fp (LB.fp d) (⟨mu,bj,bz',sv,(b1,m1,d1),(b2,m2,d2),(b3,m3,d3)⟩:VL (LB d))++[w.heap.size+3]) W5 wc:=hF11.trans hfc (fun _ hi=>hi) (fun _ hi=>.inl (List.mem_append_right _ hi))
    have hFi:∀ k∈VL.fp (LB.fp d) (⟨mu,ybi,yby,ysu,(p1x,p1y,p1z),(p2x,p2y,p2z),(p3x,p3y,p3z)⟩:VL (LB d))++VL.fp (LB.fp d) (⟨mu,bj,bz',sv,(b1,m1,d1),(b2,m2,d2),(b3,m3,d3)⟩:VL (LB d))++[w.heap.size+3],k < w.heap.size∨k=w.heap.size+3∨W5.heap.size≤k:=fun k hk=>(nI k hk).2.1
    have huc:Below u.heap.size u wc:=hux.trans (hFc.below hux.size (fun k hk=>(nI k hk).1))
    have HA:Hid (Apt (VL.fp (LB.fp d) (⟨mu,ybi,yby,ysu,(p1x,p1y,p1z),(p2x,p2y,p2z),(p3x,p3y,p3z)⟩:VL (LB d))++VL.fp (LB.fp d) (⟨mu,bj,bz',sv,(b1,m1,d1),(b2,m2,d2),(b3,m3,d3)⟩:VL (LB d))) W9 w11 wc):=⟨_,hfc,fun k hk=>by
     rw[List.mem_singleton] at hk
     subst hk
     refine⟨by omega,fun h=>?_⟩
     rcases List.mem_append.1 h with h|h
     ·have:=HYB.out _ h;omega
     ·have:=hzl _ h;omega⟩
    clear hcl6 hQ0 hfld hQ3f hT3f hT4f hQ4f hQ5f hmet s0 s1 s2 s3 cf1 x39 hyl hzl nI
    cases Rm with
    | error E'=>
     obtain⟨hE1,hE2⟩:=HM.out
     subst hE1
     have eE:(E != 0)=true:=by simpa using hE2
     have eE':(E == 0)=false:=by simpa using hE2
     have HT2:Hid (R = .error E):=HT.out
     obtain⟨⟨t0,t1⟩,⟨t2,t3,t4⟩,⟨t5,t6⟩,y4⟩:=hcl wc _ hFc hFi
     obtain⟨p0,p1⟩:=A0v y4
     have fr4':=A0b y4
     go_wp2_with fail
     refine bodyPost_ret (v:=.tuple #[.agg #[.slice none 0 0,.slice none 0 0],.int .i64 E]) (by simp[results,Tryz.results62,go_sem, *]) rfl ?_
     refine⟨?_,?_⟩
     ·first|exact huc|exact A0d (A0d huc (by omega)) (by omega)
     ·rw[HT2.out]
      exact⟨hE2,rfl⟩
    | ok v=>
     obtain⟨hE1,hvn,hrd⟩:=HM.out
     subst hE1
     have HRD:Hid _:=hrd wc HA.out
     obtain⟨K',HK'⟩:∃ K':Int,Hid (((A1i v:Nat):Int)=K'):=⟨_,rfl⟩
     have hmv:=B3y HRm.out
     have hqk:VQk (BQk d) v:=by
      rw[hmv]
      exact D0x (fun M s t hs ht=>B3s g.msgs d M s t hs ht) (HQB.out V0 HV0.out) (D1l HZK.out)
     have hjw:jW (jWB d) v≤1000000000:=by
      rw[hmv]
      exact Nat.le_trans (D2d (fun M s t=>B2j g.msgs d M s t) g.msgs x V0 V) HW0.out
     have HVK:Hid (VOk (BOk d) v):=D1k hqk hjw
     have hctv:∀ U,Calls Tryz.prog 127 #[.agg #[.int .i64 mu,.slice e1 f1 g1,.slice e2 f2 g2,.slice e3 f3 g3]] U fun e w'=>e = .returned (.int .i64 K')∧Below U.heap.size U w':=fun U=>by
      have l1:=HRD.out.1.len.1
      have l2:=HRD.out.2.1.len.1
      have l3:=HRD.out.2.2.len.1
      have h2:=A2x (fun s=>1+jWB d s) (fun _=>by omega) v.subs
      have h3:=hjw
      unfold jW at h3
      have:=B5c (w:=U) v l1 l2 l3 (c1:=g1) (c2:=g2) (c3:=g3) (a1:=e1) (a2:=e2) (a3:=e3) (by omega) mu
      rw[HK'.out] at this
      exact this
     have HT3:Hid (R=if 60 < K' then .error 5 else .ok ⟨A1x fs x (BO.vals b) v,BO.unk b⟩):=by
      show _=_
      rw[HT.out]
      show(if 60 < A1i v then _ else _)=_
      have:=HK'.out
      by_cases h:60 < A1i v
      ·rw[if_pos h,if_pos (by omega)]
      ·rw[if_neg h,if_neg (by omega)]
     have HVN:Hid (v.number=mu):=hvn
     clear hmv hqk hjw hvn hrd
     go_upto_region 9 with fail
     have hctT:=hctv wc
     obtain⟨⟨t0,t1⟩,⟨t2,t3,t4⟩,⟨t5,t6⟩,y4⟩:=hcl wc _ hFc hFi
     obtain⟨s0,s1,s2,s3⟩:=A1r xc
     go_wp2_with fail
     refine hctT.mono ?_
     rintro e w8 ⟨rfl,hb8⟩
     have hf8:=(hFc).on hb8
     have hzT:=(hFc).size
     have hz8:=hb8.size
     have x38:=(hb8.block (w.heap.size+3) (by omega)).trans xc
     have hu8:Below u.heap.size u w8:=BTr huc hb8
     clear t0 t1 t2 t3 t4 t5 t6 y4 s0 s1 s2 s3
     obtain⟨⟨t0,t1⟩,⟨t2,t3,t4⟩,⟨t5,t6⟩,y4⟩:=hcl w8 _ hf8 hFi
     obtain⟨s0,s1,s2,s3⟩:=A1r x38
     obtain⟨p0,p1⟩:=A0v y4
     have fr4':=A0b y4
     by_cases h60:60 < K'
     ·have HT2:Hid (R = .error 5):=by show _=_;rw[HT3.out,if_pos h60]
      go_wp2_with fail
      refine bodyPost_ret (v:=.tuple #[.agg #[.slice none 0 0,.slice none 0 0],.int .i64 5]) (by simp[results,Tryz.results62,go_sem, *]) rfl ?_
      refine⟨?_,?_⟩
      ·first|exact hu8|exact A0d (A0d hu8 (by omega)) (by omega)
      ·rw[HT2.out]
       exact⟨by omega,rfl⟩
     ·have HT2:Hid (R = .ok ⟨A1x fs x (BO.vals b) v,BO.unk b⟩):=by show _=_;rw[HT3.out,if_neg h60]
      obtain⟨ra,rb,rc⟩:=HRD.out
      have hst:=hset w8 v e1 f1 g1 e2 f2 g2 e3 f3 g3 hu8 HVN.out (ra.below UAt.stays hb8) (rb.below ZAt.stays hb8) (rc.below (BAt.stays d) hb8) HVK.out
      go_wp2_with fail
      refine hst.mono ?_
      rintro e w9 ⟨c,i0,j0,l0,i1,j1,l1,rfl,HC,hb9⟩
      have y49:=(hb9.block (w.heap.size+4) (by omega)).trans y4
      clear p0 p1 fr4'
      obtain⟨p0,p1⟩:=A0v y49
      have fr4':=A0b y49
      go_wp2_with fail
      refine bodyPost_ret (v:=.tuple #[.agg #[.slice i0 j0 l0,.slice i1 j1 l1],.int .i64 0]) (by simp[results,Tryz.results62,go_sem, *]) rfl ?_
      refine⟨A0d (A0d (BTr hu8 hb9) (by omega)) (by omega),?_⟩
      rw[HT2.out]
      obtain⟨h1,h2,h3,h4⟩:=HC.out
      refine .inr ⟨c,i0,j0,l0,i1,j1,l1,h1,rfl,h2,OwnB.fr (d+1) [w.heap.size+4] _ _ _ (OwnB.mono (d+1) h3 (by omega)) (fr2 y49) (fun k hk hm=>?_),h4⟩
      have:=(OwnB.inB (d+1) h3 k hk).1
      rw[List.mem_singleton] at hm
      omega
end L
end Go.Proofs.YtcagbdokbnpdfaaGreatDoor
