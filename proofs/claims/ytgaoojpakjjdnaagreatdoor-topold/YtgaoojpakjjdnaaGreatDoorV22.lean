import Derived.Test.YtgaoojpakjjdnaaGreatDoorV21
set_option maxHeartbeats 32000000
set_option maxRecDepth 100000
set_option linter.unusedVariables false
namespace Go.Proofs.YtgaoojpakjjdnaaGreatDoor
namespace L
open Go.RowKit
theorem D5h {d:Nat}{v:VI (BI d)}(h:VQk (BQk d) v)(hw:jW (jWB d) v≤1000000000):VOk (BOk d) v:=by
 obtain⟨q1,q2,q3,q4⟩:=h
 unfold jW at hw
 have h2:=A5n (fun s=>1+jWB d s) (fun _=>by omega) v.subs
 refine⟨q1,q2,by unfold reachBytes;omega,q3,by unfold reachBytes;omega,fun s hs=>D2t d s (q4 s hs) ?_,by unfold reachBytes;omega⟩
 have:=B6y (fun s=>1+jWB d s) hs
 omega
theorem D5i {d:Nat}{v:VI (BI d)}(h:VOk (BOk d) v):VQk (BQk d) v:=⟨h.1,h.2.1,h.2.2.2.1,fun s hs=>D6g d s (h.2.2.2.2.2.1 s hs)⟩
theorem C0r {g:GI}{d:Nat}{x:FI}{a b v:VI (BI d)}(h:C8e g d x a b = .ok v):v=A4y (jnB g.msgs d) g.msgs x a b:=by
 cases d with
 | zero=>exact(Except.ok.inj h).symm
 | succ d=>
  rw[A7b] at h
  split at h
  ·split at h
   ·split at h
    ·exact(Except.ok.inj h).symm
    ·cases h
   ·exact(Except.ok.inj h).symm
  ·exact(Except.ok.inj h).symm
def WOut (d:Nat)(w:World)(s0 s1:Value)(b:BO (BI d))(res:Except Int (BO (BI d)))(e:Ending)(w':World):Prop:=
 match res with
 | .error E=>E≠0∧e = .returned (.tuple #[.agg #[.slice none 0 0,.slice none 0 0],.int .i64 E])
 | .ok b'=>(b'=b∧e = .returned (.tuple #[.agg #[s0,s1],.int .i64 0]))∨∃ (c:LB (d+1)) (i0:Option Addr) (j0 l0:Nat) (i1:Option Addr) (j1 l1:Nat),C0f (d+1) c = [.slice i0 j0 l0,.slice i1 j1 l1]∧e = .returned (.tuple #[.agg #[.slice i0 j0 l0,.slice i1 j1 l1],.int .i64 0])∧LB.pl (d+1) c=b'∧OwnB w.heap.size (d+1) w' c∧(LB.fp (d+1) c).Nodup
theorem D5m (w:World)(o:Obj):(w.alloc o).heap[w.heap.size]?=some o∧w.heap.size+1≤(w.alloc o).heap.size:=⟨heap_alloc_new _ o,by simp⟩
theorem C2d {α β:Type}{f : α→β}{l:List α}{b : β}(h:l.map f = [b]):∃ a,l = [a]∧f a=b:=by
 rcases l with _|⟨a,_|⟨c,l⟩⟩
 ·simp at h
 ·exact⟨a,rfl,by simpa using h⟩
 ·simp at h
def D9r {d:Nat}(fs:List FI)(x:FI)(b:BO (BI d)):Except Int (VI (BI d))→Except Int (BO (BI d))
 | .error E=>.error E
 | .ok v'=>if 60<A1i v' then .error 5 else .ok ⟨A5i fs x b.vals v',b.unk⟩
theorem C6c {g:GI}{d:Nat}{fs:List FI}{x:FI}{b:BO (BI d)}{v u:VI (BI d)}(h0:A1i v≠0)(h:b.vals.find? (isV v.number)=some u):A1w g d fs x b v=D9r fs x b (C8e g d x u v):=by
 unfold A1w
 rw[if_neg h0,h]
 rfl
def MRd {d:Nat}(F:List Nat)(w0 w:World)(mu:Int)(e1:Option Addr)(f1 g1:Nat)(e2:Option Addr)(f2 g2:Nat)(e3:Option Addr)(f3 g3:Nat)(E:Int):Except Int (VI (BI d))→Prop
 | .error E'=>E=E'∧E≠0
 | .ok v=>E=0∧v.number=mu∧∀ w'',Apt F w0 w w''→RdL 1 UAt w'' (.slice e1 f1 g1) v.bits∧RdL 1 ZAt w'' (.slice e2 f2 g2) v.bytes∧RdL 2 (BAt d) w'' (.slice e3 f3 g3) v.subs
theorem B3w {β:Type}{l:List (VI β)}{x:Int}{k:Nat}{v:VI β}(h1:A0k (fun v:VI β=>decide (v.number=x)) l=(k:Int))(h2:l[k]?=some v):l.find? (isV x)=some v:=by
 rcases A3l (fun v:VI β=>decide (v.number=x)) l with⟨h,_⟩|⟨j,y,h3,h4,h5⟩
 ·rw[h] at h1
  omega
 ·rw[h3] at h1
  have:j=k:=by omega
  subst this
  rw[h4] at h2
  cases h2
  exact h5.1
theorem D4f {g:GI}{d:Nat}{W0 u w:World}(h0:Below W0.heap.size W0 u)(hu:Below u.heap.size u w){am:Option Addr}{nm cm:Nat}{ae:Option Addr}{ne ce:Nat}(hI:∀ j:Nat,j<g.msgs.length→WIn g am nm cm ae ne ce (j:Int) u){fs:List FI}{nam:List UInt8}{af ab:Option Addr}{nf cf nb cb:Nat}(hf:RdL 6 FAt u (.slice af nf cf) fs)(fok:∀ f∈fs,I64 f.number∧I64 f.choice)(fl:fs.length≤140737488355328){a0 a1:Option Addr}{n0 c0 n1 c1:Nat}{b:BI (d+1)}(hq:BRd d u (.slice a0 n0 c0) (.slice a1 n1 c1) b)(fc:BOk (d+1) b){z:VL (LB d)}(hz:OwnV (ekB d) (OwnB W0.heap.size d) w W0.heap.size z)(ik:∀ k∈VL.fp (LB.fp d) z,u.heap.size≤k)(lg:(VL.fp (LB.fp d) z).Nodup)(io:VOk (BOk d) (VL.pl (LB.pl d) z)){x:FI}(HS:Hid (x.many=false→x.kind=10→(∃ u,(BO.vals b).find? (isV z.number)=some u)→A8e g x))(hx:fs.find? (isF z.number)=some x)(hw:((BO.vals b).map (jW (jWB d))).sum+jW (jWB d) (VL.pl (LB.pl d) z)≤1000000000)
  (dw:x.many=false→x.kind=10→(∃ M,g.msgs.find? (isN x.type)=some M)∧∀ v,(v∈BO.vals b∨v=VL.pl (LB.pl d) z)→v.number=z.number→v.bits = []∧v.bytes = []∧∃ s,v.subs = [s]) :
  Calls Tryz.prog 48 #[.agg #[.slice am nm cm,.slice ae ne ce],.agg #[.string (S nam),.slice af nf cf,.slice ab nb cb],.agg #[.slice a0 n0 c0,.slice a1 n1 c1],.agg #[.int .i64 z.number,z.p1.v,z.p2.v,z.p3.v]] w fun e w'=>Below u.heap.size u w'∧WOut d w (.slice a0 n0 c0) (.slice a1 n1 c1) b (A1w g d fs x b (VL.pl (LB.pl d) z)) e w':=by
 obtain⟨r1,r2,r3⟩:=C8t hz
 obtain⟨V,HV⟩:∃ V,Hid (VL.pl (LB.pl d) z=V):=⟨_,rfl⟩
 rw[HV.out] at r1 r2 r3 io hw dw ⊢
 have fq:Hid (V.number=z.number):=by show _=_;rw[←HV.out];rfl
 have HZ:Hid (OwnV (ekB d) (OwnB W0.heap.size d) w W0.heap.size z):=hz
 have kn:Hid (∀ k∈VL.fp (LB.fp d) z,u.heap.size≤k):=ik
 clear ik
 obtain⟨mu,bj,bp,sv,⟨b1,m1,d1⟩,⟨b2,m2,d2⟩,⟨b3,m3,d3⟩⟩:=z
 have hx:fs.find? (isF mu)=some x:=hx
 have r1:RdL 1 UAt w (.slice b1 m1 d1) V.bits:=r1
 have r2:RdL 1 ZAt w (.slice b2 m2 d2) V.bytes:=r2
 have r3:RdL 2 (BAt d) w (.slice b3 m3 d3) V.subs:=r3
 have l1:=r1.len.1
 have l2:=r2.len.1
 have l3:=r3.len.1
 have kt:V.bits.length+V.bytes.length+V.subs.length≤1000000000:=by
  have h2:=A5n (fun s=>1+jWB d s) (fun _=>by omega) V.subs
  have h3:jW (jWB d) V≤1000000000:=by omega
  unfold jW at h3
  omega
 obtain⟨W5,fj⟩:∃ W5,Hid (W5=((((w.alloc (.cells #[.slice am nm cm,.slice ae ne ce] 25)).alloc (.cells #[.string (S nam),.slice af nf cf,.slice ab nb cb] 38)).alloc (.cells #[.slice a0 n0 c0,.slice a1 n1 c1] 29)).alloc (.cells #[.int .i64 mu,.slice b1 m1 d1,.slice b2 m2 d2,.slice b3 m3 d3] 62)).alloc (.cells #[.slice none 0 0,.slice none 0 0] 29)):=⟨_,rfl⟩
 obtain⟨x0,x1,x2,x3,x4,xz⟩:=D4i w (.cells #[.slice am nm cm,.slice ae ne ce] 25) (.cells #[.string (S nam),.slice af nf cf,.slice ab nb cb] 38) (.cells #[.slice a0 n0 c0,.slice a1 n1 c1] 29) (.cells #[.int .i64 mu,.slice b1 m1 d1,.slice b2 m2 d2,.slice b3 m3 d3] 62) (.cells #[.slice none 0 0,.slice none 0 0] 29)
 rw[←fj.out] at x0 x1 x2 x3 x4 xz
 have gh:Below w.heap.size w W5:=by rw[fj.out];exact(((((Below.refl _ _).alloc (Nat.le_refl _) _).alloc (by simp) _).alloc (by simp;omega) _).alloc (by simp;omega) _).alloc (by simp;omega) _
 have lu:w.heap.size+5≤W5.heap.size:=Nat.le_of_eq xz.symm
 clear xz
 have dz:∀ U F,FrB F W5 U→(∀ k∈F,k<w.heap.size∨k=w.heap.size+3∨W5.heap.size≤k)→(U.cell? ⟨w.heap.size,0,none⟩=some (.slice am nm cm)∧U.cell? ⟨w.heap.size,1,none⟩=some (.slice ae ne ce))∧(U.cell? ⟨w.heap.size+1,0,none⟩=some (.string (S nam))∧U.cell? ⟨w.heap.size+1,1,none⟩=some (.slice af nf cf)∧U.cell? ⟨w.heap.size+1,2,none⟩=some (.slice ab nb cb))∧(U.cell? ⟨w.heap.size+2,0,none⟩=some (.slice a0 n0 c0)∧U.cell? ⟨w.heap.size+2,1,none⟩=some (.slice a1 n1 c1))∧U.heap[w.heap.size+4]?=some (.cells #[.slice none 0 0,.slice none 0 0] 29 (0,0)):=fun U F hU hF=>by
  have hk:∀ i,i=0∨i=1∨i=2∨i=4→U.heap[w.heap.size+i]?=W5.heap[w.heap.size+i]?:=fun i hi=>hU.block _ (by omega) (.inl fun hm=>by have:=hF _ hm;omega)
  exact⟨A0y ((hk 0 (by omega)).trans x0),A4p ((hk 1 (by omega)).trans x1),A0y ((hk 2 (by omega)).trans x2),(hk 4 (by omega)).trans x4⟩
 have dt:∀ U,Below W5.heap.size W5 U→_:=fun U hU=>dz U [] (FrB.of_below hU) (fun k h=>by simp at h)
 obtain⟨K,HK⟩:∃ K:Int,Hid (((A1i V:Nat):Int)=K):=⟨_,rfl⟩
 have jc:∀ U,Calls Tryz.prog 105 #[.agg #[.int .i64 mu,.slice b1 m1 d1,.slice b2 m2 d2,.slice b3 m3 d3]] U fun e w'=>e = .returned (.int .i64 K)∧Below U.heap.size U w':=fun U=>by
  have:=B7s (w:=U) V l1 l2 l3 (c1:=d1) (c2:=d2) (c3:=d3) (a1:=b1) (a2:=b2) (a3:=b3) (by omega) mu
  rw[HK.out] at this
  exact this
 obtain⟨R,HR⟩:∃ R,Hid (A1w g d fs x b V=R):=⟨_,rfl⟩
 rw[HR.out]
 have d9:Below u.heap.size u W5:=BTr hu gh
 have ik:=hu.size
 have eu:(BO.vals b).length≤1000000000:=by
  have:=A5n (jW (jWB d)) (fun v=>by unfold jW;omega) (BO.vals b)
  omega
 have fd:∀ (T:World) (V':VI (BI d)) (e1:Option Addr) (f1 g1:Nat) (e2:Option Addr) (f2 g2:Nat) (e3:Option Addr) (f3 g3:Nat),Below u.heap.size u T→V'.number=mu→RdL 1 UAt T (.slice e1 f1 g1) V'.bits→RdL 1 ZAt T (.slice e2 f2 g2) V'.bytes→RdL 2 (BAt d) T (.slice e3 f3 g3) V'.subs→VOk (BOk d) V'→Calls Tryz.prog 17 #[.agg #[.string (S nam),.slice af nf cf,.slice ab nb cb],.agg #[.slice a0 n0 c0,.slice a1 n1 c1],.agg #[.int .i64 mu,.slice e1 f1 g1,.slice e2 f2 g2,.slice e3 f3 g3]] T fun e w'=>∃ (c:LB (d+1)) (i0:Option Addr) (j0 l0:Nat) (i1:Option Addr) (j1 l1:Nat),e = .returned (.agg #[.slice i0 j0 l0,.slice i1 j1 l1])∧Hid (C0f (d+1) c = [.slice i0 j0 l0,.slice i1 j1 l1]∧LB.pl (d+1) c=(⟨A5i fs x (BO.vals b) V',BO.unk b⟩:BO (BI d))∧OwnB T.heap.size (d+1) w' c∧(LB.fp (d+1) c).Nodup)∧Below T.heap.size T w':=fun T V' e1 f1 g1 e2 f2 g2 e3 f3 g3 hT hn q1 q2 q3 ie=>by
  have:=D1e (s:=nam) (ab:=ab) (nb:=nb) (cb:=cb) (hf.below FAt.stays hT) fok fl (hq.below hT) fc (x:=x) (by rw[hn];exact hx) q1 q2 q3 ie (by omega)
  rw[hn] at this
  refine this.mono ?_
  rintro e w' ⟨c,i0,j0,l0,i1,j1,l1,h1,rfl,h2,h3,h4,h5⟩
  exact⟨c,i0,j0,l0,i1,j1,l1,rfl,⟨h1,h2,h3,h4⟩,h5⟩
 have gw:∀ U,Below u.heap.size u U→Calls Tryz.prog 18 #[.agg #[.slice a0 n0 c0,.slice a1 n1 c1],.int .i64 mu] U fun e w'=>D9g d U W0.heap.size (BO.vals b) mu e w'∧Below U.heap.size U w':=fun U hU=>B5t (Nat.le_trans h0.size hU.size) (hq.below hU) fc.1 mu
 have j8:Hid (∀ v∈BO.vals b,VQk (BQk d) v):=fun v hv=>D5i (fc.1 v hv)
 have fz:Hid (VOk (BOk d) V):=io
 have kj:Hid (((BO.vals b).map (jW (jWB d))).sum+jW (jWB d) V≤1000000000):=hw
 have HF:Hid (RdL 6 FAt u (.slice af nf cf) fs):=hf
 have HX:Hid (fs.find? (isF mu)=some x):=hx
 have j7:Hid (∀ j:Nat,j<g.msgs.length→WIn g am nm cm ae ne ce (j:Int) u):=hI
 have j9:Hid _:=dw
 have fu:Hid (RdL 1 UAt w (.slice b1 m1 d1) V.bits∧RdL 1 ZAt w (.slice b2 m2 d2) V.bytes∧RdL 2 (BAt d) w (.slice b3 m3 d3) V.subs):=⟨r1,r2,r3⟩
 have j6:Hid (∀ v∈BO.vals b,VOk (BOk d) v):=fc.1
 clear hf fok fl hq fc hx hI dw r1 r2 r3 io hw kt eu l1 l2 l3 hz
 have ew:=jc W5
 obtain⟨⟨t0,t1⟩,⟨t2,t3,t4⟩,⟨t5,t6⟩,y4⟩:=dt W5 (Below.refl _ _)
 obtain⟨s0,s1,s2,s3⟩:=A4b x3
 unfold PV.v
 by_cases hK0:K=0
 ·have HT:Hid (R = .ok b):=by show _=_;rw[←HR.out];unfold A1w;rw[if_pos (by have:=HK.out;omega)]
  subst hK0
  go_enter Tryz.func48,Tryz.ntmps48
  go_upto_region 1 with fail
  rw[←fj.out]
  go_wp2_with fail
  refine ew.mono ?_
  rintro e w6 ⟨rfl,dh⟩
  clear t0 t1 t2 t3 t4 t5 t6 y4 s0 s1 s2 s3
  obtain⟨⟨t0,t1⟩,⟨t2,t3,t4⟩,⟨t5,t6⟩,y4⟩:=dt w6 dh
  obtain⟨p0,p1⟩:=A0y y4
  have bq:=A0b y4
  have lw:¬ w.heap.size+2=w.heap.size+4:=by omega
  have hzz:=dh.size
  go_wp2_with fail
  refine bodyPost_ret (v:=.tuple #[.agg #[.slice a0 n0 c0,.slice a1 n1 c1],.int .i64 0]) (by simp[results,Tryz.results48,go_sem, *]) rfl ?_
  refine⟨KB_set (KB_set (BTr d9 dh) (by omega)) (by omega),?_⟩
  rw[HT.out]
  exact .inl ⟨rfl,rfl⟩
 ·have lp:(K==0)=false:=by simpa using hK0
  go_enter Tryz.func48,Tryz.ntmps48
  go_upto_region 1 with fail
  rw[←fj.out]
  go_wp2_with fail
  refine ew.mono ?_
  rintro e w6 ⟨rfl,dh⟩
  clear t0 t1 t2 t3 t4 t5 t6 y4 s0 s1 s2 s3
  obtain⟨⟨t0,t1⟩,⟨t2,t3,t4⟩,⟨t5,t6⟩,y4⟩:=dt w6 dh
  have jw:=(dh.block (w.heap.size+3) (by omega)).trans x3
  obtain⟨s0,s1,s2,s3⟩:=A4b jw
  have gz:=gw w6 (BTr d9 dh)
  have lh:=dh.size
  go_wp2_with fail
  refine gz.mono ?_
  rintro e w7 ⟨gy,jb⟩
  have ej:Below W5.heap.size W5 w7:=BTr dh jb
  have li:=jb.size
  clear t0 t1 t2 t3 t4 t5 t6 y4 s0 s1 s2 s3 jw
  rcases gy with⟨hno,rfl⟩|⟨k,V0,hk1,hk2,hk3,y,q0,x1',y1',z1',x2',y2',z2',x3',y3',z3',ft,rfl,hyp,hyo,hyb,hyn⟩
  ·have HT:Hid (R=if 60<K then .error 5 else .ok ⟨A5i fs x (BO.vals b) V,BO.unk b⟩):=by
    show _=_
    have ku:(BO.vals b).find? (isV V.number)=none:=by
     rw[List.find?_eq_none]
     intro v hv
     have:=hno v hv
     rw[fq.out]
     simpa [isV] using this
    rw[←HR.out]
    unfold A1w
    rw[if_neg (by have:=HK.out;omega),ku]
    show(if 60<A1i V then _ else _)=_
    have:=HK.out
    by_cases h:60<A1i V
    ·rw[if_pos h,if_pos (by omega)]
    ·rw[if_neg h,if_neg (by omega)]
   clear hno
   go_upto_region 9 with fail
   obtain⟨T,iq⟩:∃ T,Hid (T=w7.alloc (.cells #[.int .i64 0,.slice none 0 0,.slice none 0 0,.slice none 0 0] 62)):=⟨_,rfl⟩
   rw[←iq.out]
   have gi:Below w7.heap.size w7 T:=by rw[iq.out];exact(Below.refl _ _).alloc (Nat.le_refl _) _
   have dy:Below W5.heap.size W5 T:=BTr ej gi
   have kz:Below u.heap.size u T:=BTr d9 dy
   have jx:=(dy.block (w.heap.size+3) (by omega)).trans x3
   have dr:Below w.heap.size w T:=BTr gh dy
   have dv:=jc T
   obtain⟨⟨t0,t1⟩,⟨t2,t3,t4⟩,⟨t5,t6⟩,y4⟩:=dz T _ (FrB.of_below dy:FrB [] W5 T) (fun k h=>by simp at h)
   obtain⟨s0,s1,s2,s3⟩:=A4b jx
   go_wp2_with fail
   refine dv.mono ?_
   rintro e w8 ⟨rfl,br⟩
   have gp:=((FrB.of_below dy:FrB [] W5 T)).on br
   have lf:=((FrB.of_below dy:FrB [] W5 T)).size
   have ld:=br.size
   have il:=(br.block (w.heap.size+3) (by omega)).trans jx
   have dm:Below u.heap.size u w8:=BTr kz br
   clear t0 t1 t2 t3 t4 t5 t6 y4 s0 s1 s2 s3
   obtain⟨⟨t0,t1⟩,⟨t2,t3,t4⟩,⟨t5,t6⟩,y4⟩:=dz w8 _ gp (fun k h=>by simp at h)
   obtain⟨s0,s1,s2,s3⟩:=A4b il
   obtain⟨p0,p1⟩:=A0y y4
   have bq:=A0b y4
   by_cases h60:60<K
   ·have cu:Hid (R = .error 5):=by show _=_;rw[HT.out,if_pos h60]
    go_wp2_with fail
    refine bodyPost_ret (v:=.tuple #[.agg #[.slice none 0 0,.slice none 0 0],.int .i64 5]) (by simp[results,Tryz.results48,go_sem, *]) rfl ?_
    refine⟨?_,?_⟩
    ·first|exact dm|exact KB_set (KB_set dm (by omega)) (by omega)
    ·rw[cu.out]
     exact⟨by omega,rfl⟩
   ·have cu:Hid (R = .ok ⟨A5i fs x (BO.vals b) V,BO.unk b⟩):=by show _=_;rw[HT.out,if_neg h60]
    obtain⟨ra,rb,rc⟩:=(⟨fu.out.1.below UAt.stays dr,fu.out.2.1.below ZAt.stays dr,fu.out.2.2.below (BAt.stays d) dr⟩:_∧_∧_)
    have hst:=fd w8 V b1 m1 d1 b2 m2 d2 b3 m3 d3 dm fq.out (ra.below UAt.stays br) (rb.below ZAt.stays br) (rc.below (BAt.stays d) br) fz.out
    go_wp2_with fail
    refine hst.mono ?_
    rintro e w9 ⟨c,i0,j0,l0,i1,j1,l1,rfl,HC,et⟩
    have dx:=(et.block (w.heap.size+4) (by omega)).trans y4
    clear p0 p1 bq
    obtain⟨p0,p1⟩:=A0y dx
    have bq:=A0b dx
    go_wp2_with fail
    refine bodyPost_ret (v:=.tuple #[.agg #[.slice i0 j0 l0,.slice i1 j1 l1],.int .i64 0]) (by simp[results,Tryz.results48,go_sem, *]) rfl ?_
    refine⟨KB_set (KB_set (BTr dm et) (by omega)) (by omega),?_⟩
    rw[cu.out]
    obtain⟨h1,h2,h3,h4⟩:=HC.out
    refine .inr ⟨c,i0,j0,l0,i1,j1,l1,h1,rfl,h2,OwnB.fr (d+1) [w.heap.size+4] _ _ _ (OwnB.mono (d+1) h3 (by omega)) (fr2 dx) (fun k hk hm=>?_),h4⟩
    have:=(OwnB.inB (d+1) h3 k hk).1
    rw[List.mem_singleton] at hm
    omega
  ·
   have g9:y.number=mu:=by rw[←hk3,←hyp];rfl
   obtain⟨nu,bt,bu,bn,⟨ah,aj,ak⟩,⟨au,aw,ba⟩,⟨bc,bg,bh⟩⟩:=y
   have ft : [Value.int .i64 nu,Value.slice ah aj ak,Value.slice au aw ba,Value.slice bc bg bh] = [.int .i64 q0,.slice x1' y1' z1',.slice x2' y2' z2',.slice x3' y3' z3']:=ft
   have g9:mu=nu:=g9.symm
   simp only[List.cons.injEq,Value.int.injEq,Value.slice.injEq,true_and,and_true] at ft
   obtain⟨rfl,⟨rfl,rfl,rfl⟩,⟨rfl,rfl,rfl⟩,⟨rfl,rfl,rfl⟩⟩:=ft
   subst g9
   have hv0:V0∈BO.vals b:=List.mem_of_getElem? hk2
   have gu:(BO.vals b).find? (isV V.number)=some V0:=by
    rw[fq.out]
    exact B3w hk1 hk2
   have ke:Hid (x.many=false→x.kind=10→A8e g x):=fun hm hk=>HS.out hm hk ⟨V0,by rw[←fq.out];exact gu⟩
   obtain⟨Rm,fw⟩:∃ Rm,Hid (C8e g d x V0 V=Rm):=⟨_,rfl⟩
   have HT:Hid (R=D9r fs x b Rm):=by
    show _=_
    rw[←HR.out,←fw.out]
    exact C6c (by have:=HK.out;omega) gu
   have fo:Hid _:=hyp
   have iw:Hid _:=hyo
   have km:Hid _:=hyn
   have fk:Hid _:=hyb
   have fx:Hid (V0∈BO.vals b):=hv0
   have iu:Hid (jW (jWB d) V0+jW (jWB d) V≤1000000000):=by
    show _≤_
    have h1:=B6y (jW (jWB d)) hv0
    have h2:=kj.out
    omega
   obtain⟨kf,iz,hK2⟩:=C1v (show fs.find? (fun f=>decide (f.number=mu))=some x from HX.out)
   obtain⟨bf,of,rfl,gq⟩:=HF.out.get FAt.plain hK2
   have lr:(kf:Int)<(nf:Int):=by have:=(List.getElem?_eq_some_iff.1 hK2).1;have:=HF.out.len.1;omega
   have kx:¬ (kf:Int)<0:=by omega
   obtain⟨y0,y1,y2,y3,y4,y5⟩:=gq
   rw[A0e] at y1 y2 y3 y4 y5
   have lq:=C5b y0
   have hzl:=fun k hk=>And.intro (kn.out k hk) (HZ.out.lt k hk).2
   clear hk1 hk2 hk3 hyp hyo hyn hyb hv0 gu
   go_upto_region 6 with fail
   obtain⟨W9,fy⟩:∃ W9,Hid (W9=w7.alloc (.cells #[.int .i64 mu,.slice ah aj ak,.slice au aw ba,.slice bc bg bh] 62)):=⟨_,rfl⟩
   rw[←fy.out]
   obtain⟨ix,lx⟩:W9.heap[w7.heap.size]?=some (.cells #[.int .i64 mu,.slice ah aj ak,.slice au aw ba,.slice bc bg bh] 62 (0,0))∧w7.heap.size+1≤W9.heap.size:=by
    rw[fy.out]
    exact D5m _ _
   have eo:Below w7.heap.size w7 W9:=by rw[fy.out];exact(Below.refl _ _).alloc (Nat.le_refl _) _
   have bv:Below W5.heap.size W5 W9:=BTr ej eo
   have dn:Below u.heap.size u W9:=BTr d9 bv
   have k9:Below w.heap.size w W9:=BTr gh bv
   have im:=(bv.block (w.heap.size+3) (by omega)).trans x3
   have ji:=iw.out.lt
   have nI:∀ k,k∈VL.fp (LB.fp d) (⟨mu,bt,bu,bn,(ah,aj,ak),(au,aw,ba),(bc,bg,bh)⟩:VL (LB d))++VL.fp (LB.fp d) (⟨mu,bj,bp,sv,(b1,m1,d1),(b2,m2,d2),(b3,m3,d3)⟩:VL (LB d))++[w.heap.size+3]→u.heap.size≤k∧(k<w.heap.size∨k=w.heap.size+3∨W5.heap.size≤k)∧k<W9.heap.size∧k≠w7.heap.size:=fun k hk=>by
    rcases List.mem_append.1 hk with hk|hk
    ·rcases List.mem_append.1 hk with hk|hk
     ·have h1:=fk.out k hk
      have h2:=ji k hk
      omega
     ·have h2:=hzl k hk
      omega
    ·rw[List.mem_singleton] at hk
     omega
   obtain⟨Q6,dp⟩:∃ Q6:World→Prop,Hid (∀ V,Q6 V↔∀ k,k<W9.heap.size→k∉VL.fp (LB.fp d) (⟨mu,bt,bu,bn,(ah,aj,ak),(au,aw,ba),(bc,bg,bh)⟩:VL (LB d))++VL.fp (LB.fp d) (⟨mu,bj,bp,sv,(b1,m1,d1),(b2,m2,d2),(b3,m3,d3)⟩:VL (LB d))++[w.heap.size+3]→V.heap[k]?=W9.heap[k]?):=⟨_,fun _=>Iff.rfl⟩
   have ac:∀ V,Q6 V→(V.cell? ⟨w.heap.size,0,none⟩=some (.slice am nm cm)∧V.cell? ⟨w.heap.size,1,none⟩=some (.slice ae ne ce)∧V.cell? ⟨w.heap.size+1,0,none⟩=some (.string (S nam))∧V.cell? ⟨w.heap.size+1,1,none⟩=some (.slice (some ⟨bf,of,none⟩) nf cf)∧V.cell? ⟨w.heap.size+1,2,none⟩=some (.slice ab nb cb))∧(V.cell? ⟨bf,of+kf*6,none⟩=some (.string (S x.name))∧V.cell? ⟨bf,of+kf*6+1,none⟩=some (.int .i64 x.number)∧V.cell? ⟨bf,of+kf*6+2,none⟩=some (.int .i64 x.kind)∧V.cell? ⟨bf,of+kf*6+3,none⟩=some (.string (S x.type))∧V.cell? ⟨bf,of+kf*6+4,none⟩=some (.bool x.many)∧V.cell? ⟨bf,of+kf*6+5,none⟩=some (.int .i64 x.choice))∧V.cell? ⟨w7.heap.size,0,none⟩=some (.int .i64 mu)∧V.cell? ⟨w7.heap.size,1,none⟩=some (.slice ah aj ak)∧V.cell? ⟨w7.heap.size,2,none⟩=some (.slice au aw ba)∧V.cell? ⟨w7.heap.size,3,none⟩=some (.slice bc bg bh):=fun V hV=>by
    have q1:=(dp.out V).1 hV
    obtain⟨e0,e1⟩:=A0y ((q1 (w.heap.size) (by omega) (fun h=>by have:=nI _ h;omega)).trans ((bv.block _ (by omega)).trans x0))
    obtain⟨e2,e3,e4⟩:=A4p ((q1 (w.heap.size+1) (by omega) (fun h=>by have:=nI _ h;omega)).trans ((bv.block _ (by omega)).trans x1))
    have c1:=B7q (q1 bf (by have:=dn.size;omega) (fun h=>by have:=(nI _ h).1;omega))
    refine⟨⟨e0,e1,e2,e3,e4⟩,⟨?_,?_,?_,?_,?_,?_⟩,A4b ((q1 w7.heap.size (by omega) (fun h=>(nI _ h).2.2.2 rfl)).trans ix)⟩
    ·rw[c1];exact A0c dn y0
    ·rw[c1];exact A0c dn y1
    ·rw[c1];exact A0c dn y2
    ·rw[c1];exact A0c dn y3
    ·rw[c1];exact A0c dn y4
    ·rw[c1];exact A0c dn y5
   have i6:Q6 W9.drew:=(dp.out _).2 fun _ _ _=>rfl
   have cj:=A3e (HF.out.below FAt.stays (dn.drew)) ⟨ab,nb,cb,rfl⟩ ⟨nam,rfl⟩ mu
   rw[iz] at cj
   have bw:∀ V3,Below W9.drew.heap.size W9.drew V3→Q6 V3:=fun V3 hV=>(dp.out _).2 fun k hk _=>hV.block k hk
   have cg:∀ V3,Below W9.drew.heap.size W9.drew V3→V3.heap[w.heap.size+3]?=some (.cells #[.int .i64 mu,.slice b1 m1 d1,.slice b2 m2 d2,.slice b3 m3 d3] 62 (0,0)):=fun V3 hV=>(hV.block _ (show w.heap.size+3<W9.heap.size by omega)).trans im
   have dg:∀ V3 V4,Below W9.drew.heap.size W9.drew V3→FrB (VL.fp (LB.fp d) (⟨mu,bt,bu,bn,(ah,aj,ak),(au,aw,ba),(bc,bg,bh)⟩:VL (LB d))++VL.fp (LB.fp d) (⟨mu,bj,bp,sv,(b1,m1,d1),(b2,m2,d2),(b3,m3,d3)⟩:VL (LB d))) V3 V4→V4.heap[w.heap.size+3]?=some (.cells #[.int .i64 mu,.slice b1 m1 d1,.slice b2 m2 d2,.slice b3 m3 d3] 62 (0,0)):=fun V3 V4 h3 h4=>(h4.blk (by have:=h3.size;have e:W9.drew.heap.size=W9.heap.size:=rfl;omega) (fun h=>by
    rcases List.mem_append.1 h with h|h
    ·have:=fk.out _ h;omega
    ·have:=hzl _ h;omega)).trans (cg V3 h3)
   have cw:∀ V3 V4,Below W9.drew.heap.size W9.drew V3→FrB (VL.fp (LB.fp d) (⟨mu,bt,bu,bn,(ah,aj,ak),(au,aw,ba),(bc,bg,bh)⟩:VL (LB d))++VL.fp (LB.fp d) (⟨mu,bj,bp,sv,(b1,m1,d1),(b2,m2,d2),(b3,m3,d3)⟩:VL (LB d))) V3 V4→Q6 V4:=fun V3 V4 h3 h4=>(dp.out _).2 fun k hk hn=>(h4.blk (by have:=h3.size;have e:W9.drew.heap.size=W9.heap.size:=rfl;omega) (fun h=>hn (List.mem_append_left _ h))).trans ((dp.out _).1 (bw V3 h3) k hk hn)
   have df:∀ V4 x0 x1 x2 x3,Q6 V4→V4.heap[w.heap.size+3]?=some (.cells #[.int .i64 mu,.slice b1 m1 d1,.slice b2 m2 d2,.slice b3 m3 d3] 62 (0,0))→W9.heap.size≤V4.heap.size→Q6 ((((V4.setCell ⟨w.heap.size+3,0,none⟩ x0).setCell ⟨w.heap.size+3,1,none⟩ x1).setCell ⟨w.heap.size+3,2,none⟩ x2).setCell ⟨w.heap.size+3,3,none⟩ x3):=fun V4 x0 x1 x2 x3 hV hT hs=>(dp.out _).2 fun k hk hn=>((fr4 hT).blk (by omega) (fun h=>hn (List.mem_append_right _ h))).trans ((dp.out _).1 hV k hk hn)
   have dl:∀ V3,Below W9.drew.heap.size W9.drew V3→Calls Tryz.prog 106 #[.agg #[.slice am nm cm,.slice ae ne ce],.agg #[.string (S x.name),.int .i64 x.number,.int .i64 x.kind,.string (S x.type),.bool x.many,.int .i64 x.choice],.agg #[.int .i64 mu,.slice ah aj ak,.slice au aw ba,.slice bc bg bh],.agg #[.int .i64 mu,.slice b1 m1 d1,.slice b2 m2 d2,.slice b3 m3 d3]] V3 fun e w'=>∃ (e1:Option Addr) (f1 g1:Nat) (e2:Option Addr) (f2 g2:Nat) (e3:Option Addr) (f3 g3:Nat) (E:Int),e = .returned (.tuple #[.agg #[.int .i64 mu,.slice e1 f1 g1,.slice e2 f2 g2,.slice e3 f3 g3],.int .i64 E])∧Hid (MRd (VL.fp (LB.fp d) (⟨mu,bt,bu,bn,(ah,aj,ak),(au,aw,ba),(bc,bg,bh)⟩:VL (LB d))++VL.fp (LB.fp d) (⟨mu,bj,bp,sv,(b1,m1,d1),(b2,m2,d2),(b3,m3,d3)⟩:VL (LB d))) W9 w' mu e1 f1 g1 e2 f2 g2 e3 f3 g3 E Rm)∧FrB (VL.fp (LB.fp d) (⟨mu,bt,bu,bn,(ah,aj,ak),(au,aw,ba),(bc,bg,bh)⟩:VL (LB d))++VL.fp (LB.fp d) (⟨mu,bj,bp,sv,(b1,m1,d1),(b2,m2,d2),(b3,m3,d3)⟩:VL (LB d))) V3 w':=fun V3 ko=>by
    have di:Below W9.heap.size W9 V3:=BTr (Below.refl _ _).drew ko
    have hw3:Below w.heap.size w V3:=BTr k9 di
    have jg:Below u.heap.size u V3:=BTr dn di
    have kv:MetIn d W0 V3 (⟨mu,bt,bu,bn,(ah,aj,ak),(au,aw,ba),(bc,bg,bh)⟩:VL (LB d)) (⟨mu,bj,bp,sv,(b1,m1,d1),(b2,m2,d2),(b3,m3,d3)⟩:VL (LB d)):=by
     refine⟨BTr h0 jg,(iw.out.below eo).below di,HZ.out.below hw3,fun k=>?_,?_⟩
     ·have h1:=List.nodup_iff_count.1 km.out k
      have h2:=List.nodup_iff_count.1 lg k
      by_cases h3:0<(VL.fp (LB.fp d) (⟨mu,bt,bu,bn,(ah,aj,ak),(au,aw,ba),(bc,bg,bh)⟩:VL (LB d))).count k
      ·by_cases h4:0<(VL.fp (LB.fp d) (⟨mu,bj,bp,sv,(b1,m1,d1),(b2,m2,d2),(b3,m3,d3)⟩:VL (LB d))).count k
       ·have:=fk.out k (List.count_pos_iff.1 h3)
        have:=hzl k (List.count_pos_iff.1 h4)
        omega
       ·omega
      ·omega
     ·rw[fo.out,HV.out]
      exact iu.out
    refine(D1h kv x ke.out rfl (fun j hj=>(j7.out j hj).below jg) (fun hm hk=>?_)).mono ?_
    ·obtain⟨h1,h2⟩:=j9.out hm hk
     obtain⟨g1,g2,s,g3⟩:=h2 V0 (.inl fx.out) (by rw[←fo.out];rfl)
     obtain⟨g4,g5,t,g6⟩:=h2 V (.inr rfl) (by rw[←HV.out];rfl)
     have jk:=j6.out V0 fx.out
     have oV:=fz.out
     rw[←fo.out] at g1 g2 g3 jk
     rw[←HV.out] at g4 g5 g6 oV
     obtain⟨s',hs',ig⟩:=C2d (show bn.map (LB.pl d) = [s] from g3)
     obtain⟨t',ky,ii⟩:=C2d (show sv.map (LB.pl d) = [t] from g6)
     refine⟨h1,g1,List.map_eq_nil_iff.1 g2,g4,List.map_eq_nil_iff.1 g5,s',t',hs',ky,?_,?_⟩
     ·rw[ig]
      exact jk.2.2.2.2.2.1 s (by rw[g3];simp)
     ·rw[ii]
      exact oV.2.2.2.2.2.1 t (by rw[g6];simp)
    ·rintro e w' ⟨e1,f1,g1,e2,f2,g2,e3,f3,g3,E,rfl,bk,hm⟩
     refine⟨e1,f1,g1,e2,f2,g2,e3,f3,g3,E,rfl,?_,bk⟩
     rw[fo.out,HV.out,fw.out] at hm
     show MRd (VL.fp (LB.fp d) (⟨mu,bt,bu,bn,(ah,aj,ak),(au,aw,ba),(bc,bg,bh)⟩:VL (LB d))++VL.fp (LB.fp d) (⟨mu,bj,bp,sv,(b1,m1,d1),(b2,m2,d2),(b3,m3,d3)⟩:VL (LB d))) _ _ _ _ _ _ _ _ _ _ _ _ _ Rm
     cases Rm with
     | error E'=>exact hm
     | ok v=>exact⟨hm.1,hm.2.1,fun w'' ⟨G,hG,iy⟩=>hm.2.2 w'' ⟨G,hG,fun k hk=>⟨by have h1:=(iy k hk).1;have h2:=di.size;omega,(iy k hk).2⟩⟩⟩
   obtain⟨s0,s1,s2,s3⟩:=A4b im
   clear y0 y1 y2 y3 y4 y5 iz
   go_cut [12] from 25 to 39 (fun s12 wc=>∃ (e1:Option Addr) (f1 g1:Nat) (e2:Option Addr) (f2 g2:Nat) (e3:Option Addr) (f3 g3:Nat) (E:Int) (ee:World),s12 = .int .i64 E∧Hid (MRd (VL.fp (LB.fp d) (⟨mu,bt,bu,bn,(ah,aj,ak),(au,aw,ba),(bc,bg,bh)⟩:VL (LB d))++VL.fp (LB.fp d) (⟨mu,bj,bp,sv,(b1,m1,d1),(b2,m2,d2),(b3,m3,d3)⟩:VL (LB d))) W9 ee mu e1 f1 g1 e2 f2 g2 e3 f3 g3 E Rm)∧FrB (VL.fp (LB.fp d) (⟨mu,bt,bu,bn,(ah,aj,ak),(au,aw,ba),(bc,bg,bh)⟩:VL (LB d))++VL.fp (LB.fp d) (⟨mu,bj,bp,sv,(b1,m1,d1),(b2,m2,d2),(b3,m3,d3)⟩:VL (LB d))) W9 ee∧wc.heap[w.heap.size+3]?=some (.cells #[.int .i64 mu,.slice e1 f1 g1,.slice e2 f2 g2,.slice e3 f3 g3] 62 (0,0))∧FrB [w.heap.size+3] ee wc)
   case first=>
    refine wp_region_held_drew (S:=Q6) (by kernel_rfl) i6 (fun hHeld=>?_)
    refine tK (i:=0) (v:=?vr1) rfl ⟨by rfl,?hyr1⟩ ?_
    case hyr1=>(intro W h;have:=ac W h;go_simp;first|done|with_reducible rfl)
    try simp only[pT,Act.put]
    refine tK (i:=1) (v:=?vr2) rfl ⟨by rfl,?hyr2⟩ ?_
    case hyr2=>(intro W h;have:=ac W h;go_simp;first|done|with_reducible rfl)
    try simp only[pT,Act.put]
    refine tK (i:=2) (v:=?vr3) rfl ⟨by rfl,?hyr3⟩ ?_
    case hyr3=>(intro W h;have:=ac W h;go_simp;first|done|with_reducible rfl)
    try simp only[pT,Act.put]
    refine tK (i:=3) (v:=?vr4) rfl ⟨by rfl,?hyr4⟩ ?_
    case hyr4=>(intro W h;have:=ac W h;go_simp;first|done|with_reducible rfl)
    try simp only[pT,Act.put]
    refine tK (i:=4) (v:=?vr5) rfl ⟨by rfl,?hyr5⟩ ?_
    case hyr5=>(intro W h;have:=ac W h;go_simp;first|done|with_reducible rfl)
    try simp only[pT,Act.put]
    refine tK (i:=9) (v:=?vr6) rfl ⟨by rfl,?hyr6⟩ ?_
    case hyr6=>(intro W h;have:=ac W h;go_simp;first|done|with_reducible rfl)
    try simp only[pT,Act.put]
    refine rB (i:=5) (j:=10) rfl (fun K hK=>?_) rfl fun K hK=>?_
    ·skip
     go_simp
     refine hK.out _ _ ?_ (fun hHeld=>?_)
     ·(try dsimp only);with_reducible assumption
     clear hK K
     try simp only[pT,Act.put]
     refine rB (i:=6) (j:=10) rfl (fun K hK=>?_) rfl fun K hK=>?_
     rotate_right
     focus
      skip
      go_simp
      refine hK.out _ _ ?_ (fun hHeld=>?_)
      ·(try dsimp only);with_reducible assumption
      clear hK K
      try simp only[pT,Act.put]
      refine rA (i:=6) rfl fun K hK=>?_
      go_simp
      refine cj.mono ?_
      rintro e V3 ⟨rfl,hb3⟩
      have i7:=bw V3 hb3
      have fe:=cg V3 hb3
      obtain⟨jl,jm,jn,t33⟩:=A4b fe
      refine hK.out _ _ ?_ (fun hHeld=>?_)
      ·(try dsimp only);with_reducible assumption
      clear hK K
      try simp only[pT,Act.put]
      refine tK (i:=7) (v:=?vr12) rfl ⟨by rfl,?hyr12⟩ ?_
      case hyr12=>(intro W h;have:=ac W h;go_simp;first|done|with_reducible rfl)
      try simp only[pT,Act.put]
      refine tK (i:=8) (v:=?vr13) rfl ⟨by rfl,?hyr13⟩ ?_
      case hyr13=>(intro W h;have:=ac W h;go_simp;first|done|with_reducible rfl)
      try simp only[pT,Act.put]
      refine rA (i:=11) rfl fun K hK=>?_
      go_simp
      refine(dl V3 hb3).mono ?_
      rintro e V4 ⟨e1,f1,g1,e2,f2,g2,e3,f3,g3,E,rfl,HM,bk⟩
      have ei:=cw V3 V4 hb3 bk
      have ag:=dg V3 V4 hb3 bk
      obtain⟨jo,jp,jq,jr⟩:=A4b ag
      have js:=A0b ag 0
      have jt:=A0b ag 1
      have ju:=A0b ag 2
      have jv:=A0b ag 3
      have jy:=hb3.size
      have jz:=bk.size
      have j5:W9.heap.size≤W9.drew.heap.size:=Nat.le_refl _
      have ja:=df V4 (.int .i64 mu) (.slice e1 f1 g1) (.slice e2 f2 g2) (.slice e3 f3 g3) ei ag (by omega)
      refine hK.out _ _ ?_ (fun hHeld=>?_)
      ·(try dsimp only);with_reducible assumption
      clear hK K
      try simp only[pT,Act.put]
      refine tK (i:=12) (v:=?vr14) rfl ⟨by rfl,?hyr14⟩ ?_
      case hyr14=>(intro W h;have:=ac W h;go_simp;first|done|with_reducible rfl)
      try simp only[pT,Act.put]
      refine tK (i:=13) (v:=?vr15) rfl ⟨by rfl,?hyr15⟩ ?_
      case hyr15=>(intro W h;have:=ac W h;go_simp;first|done|with_reducible rfl)
      try simp only[pT,Act.put]
      refine tK (i:=14) (v:=?vr16) rfl ⟨by rfl,?hyr16⟩ ?_
      case hyr16=>(intro W h;have:=ac W h;go_simp;first|done|with_reducible rfl)
     rotate_right
     focus
      skip
      go_simp
      refine cj.mono ?_
      rintro e V3 ⟨rfl,hb3⟩
      have i7:=bw V3 hb3
      have fe:=cg V3 hb3
      obtain⟨jl,jm,jn,t33⟩:=A4b fe
      refine hK.out _ _ ?_ (fun hHeld=>?_)
      ·(try dsimp only);with_reducible assumption
      clear hK K
      try simp only[pT,Act.put]
      refine tK (i:=7) (v:=?vr7) rfl ⟨by rfl,?hyr7⟩ ?_
      case hyr7=>(intro W h;have:=ac W h;go_simp;first|done|with_reducible rfl)
      try simp only[pT,Act.put]
      refine tK (i:=8) (v:=?vr8) rfl ⟨by rfl,?hyr8⟩ ?_
      case hyr8=>(intro W h;have:=ac W h;go_simp;first|done|with_reducible rfl)
      try simp only[pT,Act.put]
      refine rA (i:=10) rfl fun K hK=>?_
      go_simp
      refine hK.out _ _ ?_ (fun hHeld=>?_)
      ·(try dsimp only);with_reducible assumption
      clear hK K
      try simp only[pT,Act.put]
      refine rA (i:=11) rfl fun K hK=>?_
      go_simp
      refine(dl V3 hb3).mono ?_
      rintro e V4 ⟨e1,f1,g1,e2,f2,g2,e3,f3,g3,E,rfl,HM,bk⟩
      have ei:=cw V3 V4 hb3 bk
      have ag:=dg V3 V4 hb3 bk
      obtain⟨jo,jp,jq,jr⟩:=A4b ag
      have js:=A0b ag 0
      have jt:=A0b ag 1
      have ju:=A0b ag 2
      have jv:=A0b ag 3
      have jy:=hb3.size
      have jz:=bk.size
      have j5:W9.heap.size≤W9.drew.heap.size:=Nat.le_refl _
      have ja:=df V4 (.int .i64 mu) (.slice e1 f1 g1) (.slice e2 f2 g2) (.slice e3 f3 g3) ei ag (by omega)
      refine hK.out _ _ ?_ (fun hHeld=>?_)
      ·(try dsimp only);with_reducible assumption
      clear hK K
      try simp only[pT,Act.put]
      refine tK (i:=12) (v:=?vr9) rfl ⟨by rfl,?hyr9⟩ ?_
      case hyr9=>(intro W h;have:=ac W h;go_simp;first|done|with_reducible rfl)
      try simp only[pT,Act.put]
      refine tK (i:=13) (v:=?vr10) rfl ⟨by rfl,?hyr10⟩ ?_
      case hyr10=>(intro W h;have:=ac W h;go_simp;first|done|with_reducible rfl)
      try simp only[pT,Act.put]
      refine tK (i:=14) (v:=?vr11) rfl ⟨by rfl,?hyr11⟩ ?_
      case hyr11=>(intro W h;have:=ac W h;go_simp;first|done|with_reducible rfl)
     all_goals
      try simp only[pT,Act.put]
      refine rA (i:=15) rfl fun K hK=>?_
      go_simp
      refine hK.out _ _ ?_ (fun hHeld=>?_)
      ·(try dsimp only);with_reducible assumption
      clear hK K
      try simp only[pT,Act.put]
      refine rA (i:=16) rfl fun K hK=>?_
      go_simp
      refine hK.out _ _ ?_ (fun hHeld=>?_)
      ·(try dsimp only);with_reducible assumption
      clear hK K
      try simp only[pT,Act.put]
      refine wpAnyH_done (by kernel_rfl) ?_ _
      go_wp2_with fail
      go_meet
      refine⟨e1,f1,g1,e2,f2,g2,e3,f3,g3,E,V4,rfl,HM,?_,?_,?_⟩
      ·exact(FrB.of_below (BTr (Below.refl _ W9).drew hb3):FrB [] W9 V3).trans bk (fun _ hi=>by simp at hi) (fun _ hi=>.inl hi)
      ·exact heap_setCell_same _ _ 3 _ _ _ (heap_setCell_same _ _ 2 _ _ _ (heap_setCell_same _ _ 1 _ _ _ (heap_setCell_same _ _ 0 _ _ _ ag)))
      ·exact fr4 ag
    ·skip
     go_simp
     refine hK.out _ _ ?_ (fun hHeld=>?_)
     ·(try dsimp only);with_reducible assumption
     clear hK K
     try simp only[pT,Act.put]
     refine rA (i:=5) rfl fun K hK=>?_
     go_simp
     refine hK.out _ _ ?_ (fun hHeld=>?_)
     ·(try dsimp only);with_reducible assumption
     clear hK K
     try simp only[pT,Act.put]
     refine rA (i:=6) rfl fun K hK=>?_
     go_simp
     refine cj.mono ?_
     rintro e V3 ⟨rfl,hb3⟩
     have i7:=bw V3 hb3
     have fe:=cg V3 hb3
     obtain⟨jl,jm,jn,t33⟩:=A4b fe
     refine hK.out _ _ ?_ (fun hHeld=>?_)
     ·(try dsimp only);with_reducible assumption
     clear hK K
     try simp only[pT,Act.put]
     refine tK (i:=7) (v:=?vr17) rfl ⟨by rfl,?hyr17⟩ ?_
     case hyr17=>(intro W h;have:=ac W h;go_simp;first|done|with_reducible rfl)
     try simp only[pT,Act.put]
     refine tK (i:=8) (v:=?vr18) rfl ⟨by rfl,?hyr18⟩ ?_
     case hyr18=>(intro W h;have:=ac W h;go_simp;first|done|with_reducible rfl)
     try simp only[pT,Act.put]
     refine rA (i:=11) rfl fun K hK=>?_
     go_simp
     refine(dl V3 hb3).mono ?_
     rintro e V4 ⟨e1,f1,g1,e2,f2,g2,e3,f3,g3,E,rfl,HM,bk⟩
     have ei:=cw V3 V4 hb3 bk
     have ag:=dg V3 V4 hb3 bk
     obtain⟨jo,jp,jq,jr⟩:=A4b ag
     have js:=A0b ag 0
     have jt:=A0b ag 1
     have ju:=A0b ag 2
     have jv:=A0b ag 3
     have jy:=hb3.size
     have jz:=bk.size
     have j5:W9.heap.size≤W9.drew.heap.size:=Nat.le_refl _
     have ja:=df V4 (.int .i64 mu) (.slice e1 f1 g1) (.slice e2 f2 g2) (.slice e3 f3 g3) ei ag (by omega)
     refine hK.out _ _ ?_ (fun hHeld=>?_)
     ·(try dsimp only);with_reducible assumption
     clear hK K
     try simp only[pT,Act.put]
     refine tK (i:=12) (v:=?vr19) rfl ⟨by rfl,?hyr19⟩ ?_
     case hyr19=>(intro W h;have:=ac W h;go_simp;first|done|with_reducible rfl)
     try simp only[pT,Act.put]
     refine tK (i:=13) (v:=?vr20) rfl ⟨by rfl,?hyr20⟩ ?_
     case hyr20=>(intro W h;have:=ac W h;go_simp;first|done|with_reducible rfl)
     try simp only[pT,Act.put]
     refine tK (i:=14) (v:=?vr21) rfl ⟨by rfl,?hyr21⟩ ?_
     case hyr21=>(intro W h;have:=ac W h;go_simp;first|done|with_reducible rfl)
     try simp only[pT,Act.put]
     refine rA (i:=15) rfl fun K hK=>?_
     go_simp
     refine hK.out _ _ ?_ (fun hHeld=>?_)
     ·(try dsimp only);with_reducible assumption
     clear hK K
     try simp only[pT,Act.put]
     refine rA (i:=16) rfl fun K hK=>?_
     go_simp
     refine hK.out _ _ ?_ (fun hHeld=>?_)
     ·(try dsimp only);with_reducible assumption
     clear hK K
     try simp only[pT,Act.put]
     refine wpAnyH_done (by kernel_rfl) ?_ _
     go_wp2_with fail
     go_meet
     refine⟨e1,f1,g1,e2,f2,g2,e3,f3,g3,E,V4,rfl,HM,?_,?_,?_⟩
     ·exact(FrB.of_below (BTr (Below.refl _ W9).drew hb3):FrB [] W9 V3).trans bk (fun _ hi=>by simp at hi) (fun _ hi=>.inl hi)
     ·exact heap_setCell_same _ _ 3 _ _ _ (heap_setCell_same _ _ 2 _ _ _ (heap_setCell_same _ _ 1 _ _ _ (heap_setCell_same _ _ 0 _ _ _ ag)))
     ·exact fr4 ag
   case rest=>
    obtain⟨e1,f1,g1,e2,f2,g2,e3,f3,g3,E,ee,rfl,HM,gl,xc,jd⟩:=hcut
    have gc:FrB (VL.fp (LB.fp d) (⟨mu,bt,bu,bn,(ah,aj,ak),(au,aw,ba),(bc,bg,bh)⟩:VL (LB d))++VL.fp (LB.fp d) (⟨mu,bj,bp,sv,(b1,m1,d1),(b2,m2,d2),(b3,m3,d3)⟩:VL (LB d))++[w.heap.size+3]) W5 ee:=(FrB.of_below bv:FrB [] W5 W9).trans gl (fun _ hi=>by simp at hi) (fun _ hi=>.inl (List.mem_append_left _ hi))
    have eh:FrB (VL.fp (LB.fp d) (⟨mu,bt,bu,bn,(ah,aj,ak),(au,aw,ba),(bc,bg,bh)⟩:VL (LB d))++VL.fp (LB.fp d) (⟨mu,bj,bp,sv,(b1,m1,d1),(b2,m2,d2),(b3,m3,d3)⟩:VL (LB d))++[w.heap.size+3]) W5 wc:=gc.trans jd (fun _ hi=>hi) (fun _ hi=>.inl (List.mem_append_right _ hi))
    have gg:∀ k∈VL.fp (LB.fp d) (⟨mu,bt,bu,bn,(ah,aj,ak),(au,aw,ba),(bc,bg,bh)⟩:VL (LB d))++VL.fp (LB.fp d) (⟨mu,bj,bp,sv,(b1,m1,d1),(b2,m2,d2),(b3,m3,d3)⟩:VL (LB d))++[w.heap.size+3],k<w.heap.size∨k=w.heap.size+3∨W5.heap.size≤k:=fun k hk=>(nI k hk).2.1
    have ij:Below u.heap.size u wc:=d9.trans (eh.below d9.size (fun k hk=>(nI k hk).1))
    have HA:Hid (Apt (VL.fp (LB.fp d) (⟨mu,bt,bu,bn,(ah,aj,ak),(au,aw,ba),(bc,bg,bh)⟩:VL (LB d))++VL.fp (LB.fp d) (⟨mu,bj,bp,sv,(b1,m1,d1),(b2,m2,d2),(b3,m3,d3)⟩:VL (LB d))) W9 ee wc):=⟨_,jd,fun k hk=>by
     rw[List.mem_singleton] at hk
     subst hk
     refine⟨by omega,fun h=>?_⟩
     rcases List.mem_append.1 h with h|h
     ·have:=fk.out _ h;omega
     ·have:=hzl _ h;omega⟩
    clear ac i6 cj bw cg dg cw df dl s0 s1 s2 s3 ix im ji hzl nI
    cases Rm with
    | error E'=>
     obtain⟨f6,f9⟩:=HM.out
     subst f6
     have eE:(E != 0)=true:=by simpa using f9
     have lj:(E==0)=false:=by simpa using f9
     have cu:Hid (R = .error E):=HT.out
     obtain⟨⟨t0,t1⟩,⟨t2,t3,t4⟩,⟨t5,t6⟩,y4⟩:=dz wc _ eh gg
     obtain⟨p0,p1⟩:=A0y y4
     have bq:=A0b y4
     go_wp2_with fail
     refine bodyPost_ret (v:=.tuple #[.agg #[.slice none 0 0,.slice none 0 0],.int .i64 E]) (by simp[results,Tryz.results48,go_sem, *]) rfl ?_
     refine⟨?_,?_⟩
     ·first|exact ij|exact KB_set (KB_set ij (by omega)) (by omega)
     ·rw[cu.out]
      exact⟨f9,rfl⟩
    | ok v=>
     obtain⟨f6,jh,jf⟩:=HM.out
     subst f6
     have fh:Hid _:=jf wc HA.out
     obtain⟨K',ip⟩:∃ K':Int,Hid (((A1i v:Nat):Int)=K'):=⟨_,rfl⟩
     have g8:=C0r fw.out
     have je:VQk (BQk d) v:=by
      rw[g8]
      exact D4s (fun M s t hs ht=>C0n g.msgs d M s t hs ht) (j8.out V0 fx.out) (D5i fz.out)
     have g7:jW (jWB d) v≤1000000000:=by
      rw[g8]
      exact Nat.le_trans (D7p (fun M s t=>C7y g.msgs d M s t) g.msgs x V0 V) iu.out
     have kg:Hid (VOk (BOk d) v):=D5h je g7
     have gj:∀ U,Calls Tryz.prog 105 #[.agg #[.int .i64 mu,.slice e1 f1 g1,.slice e2 f2 g2,.slice e3 f3 g3]] U fun e w'=>e = .returned (.int .i64 K')∧Below U.heap.size U w':=fun U=>by
      have l1:=fh.out.1.len.1
      have l2:=fh.out.2.1.len.1
      have l3:=fh.out.2.2.len.1
      have h2:=A5n (fun s=>1+jWB d s) (fun _=>by omega) v.subs
      have h3:=g7
      unfold jW at h3
      have:=B7s (w:=U) v l1 l2 l3 (c1:=g1) (c2:=g2) (c3:=g3) (a1:=e1) (a2:=e2) (a3:=e3) (by omega) mu
      rw[ip.out] at this
      exact this
     have ir:Hid (R=if 60<K' then .error 5 else .ok ⟨A5i fs x (BO.vals b) v,BO.unk b⟩):=by
      show _=_
      rw[HT.out]
      show(if 60<A1i v then _ else _)=_
      have:=ip.out
      by_cases h:60<A1i v
      ·rw[if_pos h,if_pos (by omega)]
      ·rw[if_neg h,if_neg (by omega)]
     have ki:Hid (v.number=mu):=jh
     clear g8 je g7 jh jf
     go_upto_region 9 with fail
     have dv:=gj wc
     obtain⟨⟨t0,t1⟩,⟨t2,t3,t4⟩,⟨t5,t6⟩,y4⟩:=dz wc _ eh gg
     obtain⟨s0,s1,s2,s3⟩:=A4b xc
     go_wp2_with fail
     refine dv.mono ?_
     rintro e w8 ⟨rfl,br⟩
     have gp:=(eh).on br
     have lf:=(eh).size
     have ld:=br.size
     have il:=(br.block (w.heap.size+3) (by omega)).trans xc
     have dm:Below u.heap.size u w8:=BTr ij br
     clear t0 t1 t2 t3 t4 t5 t6 y4 s0 s1 s2 s3
     obtain⟨⟨t0,t1⟩,⟨t2,t3,t4⟩,⟨t5,t6⟩,y4⟩:=dz w8 _ gp gg
     obtain⟨s0,s1,s2,s3⟩:=A4b il
     obtain⟨p0,p1⟩:=A0y y4
     have bq:=A0b y4
     by_cases h60:60<K'
     ·have cu:Hid (R = .error 5):=by show _=_;rw[ir.out,if_pos h60]
      go_wp2_with fail
      refine bodyPost_ret (v:=.tuple #[.agg #[.slice none 0 0,.slice none 0 0],.int .i64 5]) (by simp[results,Tryz.results48,go_sem, *]) rfl ?_
      refine⟨?_,?_⟩
      ·first|exact dm|exact KB_set (KB_set dm (by omega)) (by omega)
      ·rw[cu.out]
       exact⟨by omega,rfl⟩
     ·have cu:Hid (R = .ok ⟨A5i fs x (BO.vals b) v,BO.unk b⟩):=by show _=_;rw[ir.out,if_neg h60]
      obtain⟨ra,rb,rc⟩:=fh.out
      have hst:=fd w8 v e1 f1 g1 e2 f2 g2 e3 f3 g3 dm ki.out (ra.below UAt.stays br) (rb.below ZAt.stays br) (rc.below (BAt.stays d) br) kg.out
      go_wp2_with fail
      refine hst.mono ?_
      rintro e w9 ⟨c,i0,j0,l0,i1,j1,l1,rfl,HC,et⟩
      have dx:=(et.block (w.heap.size+4) (by omega)).trans y4
      clear p0 p1 bq
      obtain⟨p0,p1⟩:=A0y dx
      have bq:=A0b dx
      go_wp2_with fail
      refine bodyPost_ret (v:=.tuple #[.agg #[.slice i0 j0 l0,.slice i1 j1 l1],.int .i64 0]) (by simp[results,Tryz.results48,go_sem, *]) rfl ?_
      refine⟨KB_set (KB_set (BTr dm et) (by omega)) (by omega),?_⟩
      rw[cu.out]
      obtain⟨h1,h2,h3,h4⟩:=HC.out
      refine .inr ⟨c,i0,j0,l0,i1,j1,l1,h1,rfl,h2,OwnB.fr (d+1) [w.heap.size+4] _ _ _ (OwnB.mono (d+1) h3 (by omega)) (fr2 dx) (fun k hk hm=>?_),h4⟩
      have:=(OwnB.inB (d+1) h3 k hk).1
      rw[List.mem_singleton] at hm
      omega
end L
end Go.Proofs.YtgaoojpakjjdnaaGreatDoor
