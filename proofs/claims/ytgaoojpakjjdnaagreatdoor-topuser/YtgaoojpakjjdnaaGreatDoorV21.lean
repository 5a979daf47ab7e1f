import Derived.Test.YtgaoojpakjjdnaaGreatDoorV20
import Derived.Test.YtgaoojpakjjdnaaGreatDoorV08
import Derived.Test.YtgaoojpakjjdnaaGreatDoorV15
import Derived.Test.YtgaoojpakjjdnaaGreatDoorV19
set_option maxHeartbeats 32000000
set_option maxRecDepth 100000
namespace Go.Proofs.YtgaoojpakjjdnaaGreatDoor
namespace L
open Go.RowKit
set_option linter.unusedVariables false
theorem D2r {d:Nat}{v:VI (BI d)}(h:VQk (BQk d) v) (hw:jW (jWB d) v≤1000000000):VOk (BOk d) v:=by
 obtain⟨q1,q2,q3,q4⟩:=h
 unfold jW at hw
 have h2:=A4t (fun s=>1+jWB d s) (fun _=>by omega) v.subs
 refine⟨q1,q2,by unfold reachBytes;omega,q3,by unfold reachBytes;omega,fun s hs=>D3q d s (q4 s hs) ?_,by unfold reachBytes;omega⟩
 have:=B4x (fun s=>1+jWB d s) hs
 omega
theorem D2s {d:Nat}{v:VI (BI d)}(h:VOk (BOk d) v):VQk (BQk d) v:=⟨h.1,h.2.1,h.2.2.2.1,fun s hs=>D3w d s (h.2.2.2.2.2.1 s hs)⟩
theorem C5t {g:GI}{d:Nat}{x:FI}{a b v:VI (BI d)}(h:C8s g d x a b = .ok v):v=A5r (jnB g.msgs d) g.msgs x a b:=by
 cases d with
 | zero=>exact(Except.ok.inj h).symm
 | succ d=>
  rw[A8e] at h
  split at h
  ·split at h
   ·split at h
    ·exact(Except.ok.inj h).symm
    ·cases h
   ·exact(Except.ok.inj h).symm
  ·exact(Except.ok.inj h).symm
def WOut (d:Nat) (w:World) (s0 s1:Value) (b:BO (BI d)) (res:Except Int (BO (BI d))) (e:Ending) (w':World):Prop:=
 match res with
 | .error E=>E≠0∧e = .returned (.tuple #[.agg #[.slice none 0 0,.slice none 0 0],.int .i64 E])
 | .ok b'=>(b'=b∧e = .returned (.tuple #[.agg #[s0,s1],.int .i64 0]))∨∃ (c:LB (d+1)) (i0:Option Addr) (j0 l0:Nat) (i1:Option Addr) (j1 l1:Nat),B8a (d+1) c = [.slice i0 j0 l0,.slice i1 j1 l1]∧e = .returned (.tuple #[.agg #[.slice i0 j0 l0,.slice i1 j1 l1],.int .i64 0])∧LB.pl (d+1) c=b'∧OwnB w.heap.size (d+1) w' c∧(LB.fp (d+1) c).Nodup
theorem D2y (w:World) (o:Obj):(w.alloc o).heap[w.heap.size]?=some o∧w.heap.size+1≤(w.alloc o).heap.size:=⟨heap_alloc_new _ o,by simp⟩
theorem B9v {α β:Type}{f : α→β}{l:List α}{b : β}(h:l.map f = [b]):∃ a,l = [a]∧f a=b:=by
 rcases l with _|⟨a,_|⟨c,l⟩⟩
 ·simp at h
 ·exact⟨a,rfl,by simpa using h⟩
 ·simp at h
def D7h {d:Nat}(fs:List FI) (x:FI) (b:BO (BI d)):Except Int (VI (BI d))→Except Int (BO (BI d))
 | .error E=>.error E
 | .ok v'=>if 60 < A1h v' then .error 5 else .ok ⟨A3h fs x b.vals v',b.unk⟩
theorem C3r {g:GI}{d:Nat}{fs:List FI}{x:FI}{b:BO (BI d)}{v u:VI (BI d)}(h0:A1h v≠0) (h:b.vals.find? (isV v.number)=some u):A1w g d fs x b v=D7h fs x b (C8s g d x u v):=by
 unfold A1w
 rw[if_neg h0,h]
 rfl
def MRd {d:Nat}(F:List Nat) (w0 w:World) (mu:Int) (e1:Option Addr) (f1 g1:Nat) (e2:Option Addr) (f2 g2:Nat) (e3:Option Addr) (f3 g3:Nat) (E:Int):Except Int (VI (BI d))→Prop
 | .error E'=>E=E'∧E≠0
 | .ok v=>E=0∧v.number=mu∧∀ w'',Apt F w0 w w''→RdL 1 UAt w'' (.slice e1 f1 g1) v.bits∧RdL 1 ZAt w'' (.slice e2 f2 g2) v.bytes∧RdL 2 (BAt d) w'' (.slice e3 f3 g3) v.subs
theorem B2d {β:Type}{l:List (VI β)}{x:Int}{k:Nat}{v:VI β}(h1:A0l (fun v:VI β=>decide (v.number=x)) l=(k:Int)) (h2:l[k]?=some v):l.find? (isV x)=some v:=by
 rcases A2z (fun v:VI β=>decide (v.number=x)) l with⟨h,_⟩|⟨j,y,h3,h4,h5⟩
 ·rw[h] at h1
  omega
 ·rw[h3] at h1
  have:j=k:=by omega
  subst this
  rw[h4] at h2
  cases h2
  exact h5.1
theorem D1t {g:GI}{d:Nat}{W0 u w:World}(h0:Below W0.heap.size W0 u) (hu:Below u.heap.size u w){am:Option Addr}{nm cm:Nat}{ae:Option Addr}{ne ce:Nat}(hI:∀ j:Nat,j < g.msgs.length→WIn g am nm cm ae ne ce (j:Int) u){fs:List FI}{nam:List UInt8}{af ab:Option Addr}{nf cf nb cb:Nat}(hf:RdL 6 FAt u (.slice af nf cf) fs) (fok:∀ f∈fs,I64 f.number∧I64 f.choice) (fl:fs.length≤140737488355328){a0 a1:Option Addr}{n0 c0 n1 c1:Nat}{b:BI (d+1)}(hq:BRd d u (.slice a0 n0 c0) (.slice a1 n1 c1) b) (eu:BOk (d+1) b){z:VL (LB d)}(hz:OwnV (ekB d) (OwnB W0.heap.size d) w W0.heap.size z) (ig:∀ k∈VL.fp (LB.fp d) z,u.heap.size≤k) (ld:(VL.fp (LB.fp d) z).Nodup) (ik:VOk (BOk d) (VL.pl (LB.pl d) z)){x:FI}(HS:Hid (x.many=false→x.kind=10→A8v g x)) (hx:fs.find? (isF z.number)=some x) (hw:((BO.vals b).map (jW (jWB d))).sum+jW (jWB d) (VL.pl (LB.pl d) z)≤1000000000)
  (dt:x.many=false→x.kind=10→(∃ M,g.msgs.find? (isN x.type)=some M)∧∀ v,(v∈BO.vals b∨v=VL.pl (LB.pl d) z)→v.number=z.number→v.bits = []∧v.bytes = []∧∃ s,v.subs = [s]) :
  Calls Tryz.prog 48 #[.agg #[.slice am nm cm,.slice ae ne ce],.agg #[.string (S nam),.slice af nf cf,.slice ab nb cb],.agg #[.slice a0 n0 c0,.slice a1 n1 c1],.agg #[.int .i64 z.number,z.p1.v,z.p2.v,z.p3.v]] w fun e w'=>Below u.heap.size u w'∧WOut d w (.slice a0 n0 c0) (.slice a1 n1 c1) b (A1w g d fs x b (VL.pl (LB.pl d) z)) e w':=by
 obtain⟨r1,r2,r3⟩:=C6f hz
 obtain⟨V,HV⟩:∃ V,Hid (VL.pl (LB.pl d) z=V):=⟨_,rfl⟩
 rw[HV.out] at r1 r2 r3 ik hw dt ⊢
 have fx:Hid (V.number=z.number):=by show _=_;rw[←HV.out];rfl
 have HZ:Hid (OwnV (ekB d) (OwnB W0.heap.size d) w W0.heap.size z):=hz
 have ki:Hid (∀ k∈VL.fp (LB.fp d) z,u.heap.size≤k):=ig
 clear ig
 obtain⟨mu,bj,bl,sv,⟨b1,m1,d1⟩,⟨b2,m2,d2⟩,⟨b3,m3,d3⟩⟩:=z
 have hx:fs.find? (isF mu)=some x:=hx
 have r1:RdL 1 UAt w (.slice b1 m1 d1) V.bits:=r1
 have r2:RdL 1 ZAt w (.slice b2 m2 d2) V.bytes:=r2
 have r3:RdL 2 (BAt d) w (.slice b3 m3 d3) V.subs:=r3
 have l1:=r1.len.1
 have l2:=r2.len.1
 have l3:=r3.len.1
 have km:V.bits.length+V.bytes.length+V.subs.length≤1000000000:=by
  have h2:=A4t (fun s=>1+jWB d s) (fun _=>by omega) V.subs
  have h3:jW (jWB d) V≤1000000000:=by omega
  unfold jW at h3
  omega
 obtain⟨W5,fe⟩:∃ W5,Hid (W5=((((w.alloc (.cells #[.slice am nm cm,.slice ae ne ce] 25)).alloc (.cells #[.string (S nam),.slice af nf cf,.slice ab nb cb] 38)).alloc (.cells #[.slice a0 n0 c0,.slice a1 n1 c1] 29)).alloc (.cells #[.int .i64 mu,.slice b1 m1 d1,.slice b2 m2 d2,.slice b3 m3 d3] 62)).alloc (.cells #[.slice none 0 0,.slice none 0 0] 29)):=⟨_,rfl⟩
 obtain⟨x0,x1,x2,x3,x4,xz⟩:=D1w w (.cells #[.slice am nm cm,.slice ae ne ce] 25) (.cells #[.string (S nam),.slice af nf cf,.slice ab nb cb] 38) (.cells #[.slice a0 n0 c0,.slice a1 n1 c1] 29) (.cells #[.int .i64 mu,.slice b1 m1 d1,.slice b2 m2 d2,.slice b3 m3 d3] 62) (.cells #[.slice none 0 0,.slice none 0 0] 29)
 rw[←fe.out] at x0 x1 x2 x3 x4 xz
 have gc:Below w.heap.size w W5:=by rw[fe.out];exact(((((Below.refl _ _).alloc (Nat.le_refl _) _).alloc (by simp) _).alloc (by simp;omega) _).alloc (by simp;omega) _).alloc (by simp;omega) _
 have lq:w.heap.size+5≤W5.heap.size:=Nat.le_of_eq xz.symm
 clear xz
 have dx:∀ U F,FrB F W5 U→(∀ k∈F,k < w.heap.size∨k=w.heap.size+3∨W5.heap.size≤k)→(U.cell? ⟨w.heap.size,0,none⟩=some (.slice am nm cm)∧U.cell? ⟨w.heap.size,1,none⟩=some (.slice ae ne ce))∧(U.cell? ⟨w.heap.size+1,0,none⟩=some (.string (S nam))∧U.cell? ⟨w.heap.size+1,1,none⟩=some (.slice af nf cf)∧U.cell? ⟨w.heap.size+1,2,none⟩=some (.slice ab nb cb))∧(U.cell? ⟨w.heap.size+2,0,none⟩=some (.slice a0 n0 c0)∧U.cell? ⟨w.heap.size+2,1,none⟩=some (.slice a1 n1 c1))∧U.heap[w.heap.size+4]?=some (.cells #[.slice none 0 0,.slice none 0 0] 29 (0,0)):=fun U F hU hF=>by
  have hk:∀ i,i=0∨i=1∨i=2∨i=4→U.heap[w.heap.size+i]?=W5.heap[w.heap.size+i]?:=fun i hi=>hU.block _ (by omega) (.inl fun hm=>by have:=hF _ hm;omega)
  exact⟨A0t ((hk 0 (by omega)).trans x0),A4s ((hk 1 (by omega)).trans x1),A0t ((hk 2 (by omega)).trans x2),(hk 4 (by omega)).trans x4⟩
 have dp:∀ U,Below W5.heap.size W5 U→_:=fun U hU=>dx U [] (FrB.of_below hU) (fun k h=>by simp at h)
 obtain⟨K,HK⟩:∃ K:Int,Hid (((A1h V:Nat):Int)=K):=⟨_,rfl⟩
 have i7:∀ U,Calls Tryz.prog 105 #[.agg #[.int .i64 mu,.slice b1 m1 d1,.slice b2 m2 d2,.slice b3 m3 d3]] U fun e w'=>e = .returned (.int .i64 K)∧Below U.heap.size U w':=fun U=>by
  have:=B5t (w:=U) V l1 l2 l3 (c1:=d1) (c2:=d2) (c3:=d3) (a1:=b1) (a2:=b2) (a3:=b3) (by omega) mu
  rw[HK.out] at this
  exact this
 obtain⟨R,HR⟩:∃ R,Hid (A1w g d fs x b V=R):=⟨_,rfl⟩
 rw[HR.out]
 have dy:Below u.heap.size u W5:=BTr hu gc
 have ig:=hu.size
 have eo:(BO.vals b).length≤1000000000:=by
  have:=A4t (jW (jWB d)) (fun v=>by unfold jW;omega) (BO.vals b)
  omega
 have ew:∀ (T:World) (V':VI (BI d)) (e1:Option Addr) (f1 g1:Nat) (e2:Option Addr) (f2 g2:Nat) (e3:Option Addr) (f3 g3:Nat),Below u.heap.size u T→V'.number=mu→RdL 1 UAt T (.slice e1 f1 g1) V'.bits→RdL 1 ZAt T (.slice e2 f2 g2) V'.bytes→RdL 2 (BAt d) T (.slice e3 f3 g3) V'.subs→VOk (BOk d) V'→Calls Tryz.prog 17 #[.agg #[.string (S nam),.slice af nf cf,.slice ab nb cb],.agg #[.slice a0 n0 c0,.slice a1 n1 c1],.agg #[.int .i64 mu,.slice e1 f1 g1,.slice e2 f2 g2,.slice e3 f3 g3]] T fun e w'=>∃ (c:LB (d+1)) (i0:Option Addr) (j0 l0:Nat) (i1:Option Addr) (j1 l1:Nat),e = .returned (.agg #[.slice i0 j0 l0,.slice i1 j1 l1])∧Hid (B8a (d+1) c = [.slice i0 j0 l0,.slice i1 j1 l1]∧LB.pl (d+1) c=(⟨A3h fs x (BO.vals b) V',BO.unk b⟩:BO (BI d))∧OwnB T.heap.size (d+1) w' c∧(LB.fp (d+1) c).Nodup)∧Below T.heap.size T w':=fun T V' e1 f1 g1 e2 f2 g2 e3 f3 g3 hT hn q1 q2 q3 g7=>by
  have:=B9k (s:=nam) (ab:=ab) (nb:=nb) (cb:=cb) (hf.below FAt.stays hT) fok fl (hq.below hT) eu (x:=x) (by rw[hn];exact hx) q1 q2 q3 g7 (by omega)
  rw[hn] at this
  refine this.mono ?_
  rintro e w' ⟨c,i0,j0,l0,i1,j1,l1,h1,rfl,h2,h3,h4,h5⟩
  exact⟨c,i0,j0,l0,i1,j1,l1,rfl,⟨h1,h2,h3,h4⟩,h5⟩
 have gp:∀ U,Below u.heap.size u U→Calls Tryz.prog 18 #[.agg #[.slice a0 n0 c0,.slice a1 n1 c1],.int .i64 mu] U fun e w'=>D6w d U W0.heap.size (BO.vals b) mu e w'∧Below U.heap.size U w':=fun U hU=>B0y (Nat.le_trans h0.size hU.size) (hq.below hU) eu.1 mu
 have j6:Hid (∀ v∈BO.vals b,VQk (BQk d) v):=fun v hv=>D2s (eu.1 v hv)
 have fw:Hid (VOk (BOk d) V):=ik
 have ke:Hid (((BO.vals b).map (jW (jWB d))).sum+jW (jWB d) V≤1000000000):=hw
 have HF:Hid (RdL 6 FAt u (.slice af nf cf) fs):=hf
 have HX:Hid (fs.find? (isF mu)=some x):=hx
 have j5:Hid (∀ j:Nat,j < g.msgs.length→WIn g am nm cm ae ne ce (j:Int) u):=hI
 have j7:Hid _:=dt
 have fo:Hid (RdL 1 UAt w (.slice b1 m1 d1) V.bits∧RdL 1 ZAt w (.slice b2 m2 d2) V.bytes∧RdL 2 (BAt d) w (.slice b3 m3 d3) V.subs):=⟨r1,r2,r3⟩
 have jz:Hid (∀ v∈BO.vals b,VOk (BOk d) v):=eu.1
 clear hf fok fl hq eu hx hI dt r1 r2 r3 ik hw km eo l1 l2 l3 hz
 have et:=i7 W5
 obtain⟨⟨t0,t1⟩,⟨t2,t3,t4⟩,⟨t5,t6⟩,y4⟩:=dp W5 (Below.refl _ _)
 obtain⟨s0,s1,s2,s3⟩:=A3m x3
 unfold PV.v
 by_cases hK0:K=0
 ·have HT:Hid (R = .ok b):=by show _=_;rw[←HR.out];unfold A1w;rw[if_pos (by have:=HK.out;omega)]
  subst hK0
  go_enter Tryz.func48,Tryz.ntmps48
  go_upto_region 1 with fail
  rw[←fe.out]
  go_wp2_with fail
  refine et.mono ?_
  rintro e w6 ⟨rfl,df⟩
  clear t0 t1 t2 t3 t4 t5 t6 y4 s0 s1 s2 s3
  obtain⟨⟨t0,t1⟩,⟨t2,t3,t4⟩,⟨t5,t6⟩,y4⟩:=dp w6 df
  obtain⟨p0,p1⟩:=A0t y4
  have bn:=A0b y4
  have lr:¬ w.heap.size+2=w.heap.size+4:=by omega
  have hzz:=df.size
  go_wp2_with fail
  refine bodyPost_ret (v:=.tuple #[.agg #[.slice a0 n0 c0,.slice a1 n1 c1],.int .i64 0]) (by simp[results,Tryz.results48,go_sem, *]) rfl ?_
  refine⟨KB_set (KB_set (BTr dy df) (by omega)) (by omega),?_⟩
  rw[HT.out]
  exact .inl ⟨rfl,rfl⟩
 ·have lj:(K == 0)=false:=by simpa using hK0
  go_enter Tryz.func48,Tryz.ntmps48
  go_upto_region 1 with fail
  rw[←fe.out]
  go_wp2_with fail
  refine et.mono ?_
  rintro e w6 ⟨rfl,df⟩
  clear t0 t1 t2 t3 t4 t5 t6 y4 s0 s1 s2 s3
  obtain⟨⟨t0,t1⟩,⟨t2,t3,t4⟩,⟨t5,t6⟩,y4⟩:=dp w6 df
  have ju:=(df.block (w.heap.size+3) (by omega)).trans x3
  obtain⟨s0,s1,s2,s3⟩:=A3m ju
  have gu:=gp w6 (BTr dy df)
  have lf:=df.size
  go_wp2_with fail
  refine gu.mono ?_
  rintro e w7 ⟨gq,i6⟩
  have eh:Below W5.heap.size W5 w7:=BTr df i6
  have lg:=i6.size
  clear t0 t1 t2 t3 t4 t5 t6 y4 s0 s1 s2 s3 ju
  rcases gq with⟨hno,rfl⟩|⟨k,V0,hk1,hk2,hk3,y,q0,x1',y1',z1',x2',y2',z2',x3',y3',z3',fk,rfl,hyp,hyo,hyb,hyn⟩
  ·have HT:Hid (R=if 60 < K then .error 5 else .ok ⟨A3h fs x (BO.vals b) V,BO.unk b⟩):=by
    show _=_
    have kn:(BO.vals b).find? (isV V.number)=none:=by
     rw[List.find?_eq_none]
     intro v hv
     have:=hno v hv
     rw[fx.out]
     simpa [isV] using this
    rw[←HR.out]
    unfold A1w
    rw[if_neg (by have:=HK.out;omega),kn]
    show(if 60 < A1h V then _ else _)=_
    have:=HK.out
    by_cases h:60 < A1h V
    ·rw[if_pos h,if_pos (by omega)]
    ·rw[if_neg h,if_neg (by omega)]
   clear hno
   go_upto_region 9 with fail
   obtain⟨T,im⟩:∃ T,Hid (T=w7.alloc (.cells #[.int .i64 0,.slice none 0 0,.slice none 0 0,.slice none 0 0] 62)):=⟨_,rfl⟩
   rw[←im.out]
   have gg:Below w7.heap.size w7 T:=by rw[im.out];exact(Below.refl _ _).alloc (Nat.le_refl _) _
   have dw:Below W5.heap.size W5 T:=BTr eh gg
   have kv:Below u.heap.size u T:=BTr dy dw
   have jv:=(dw.block (w.heap.size+3) (by omega)).trans x3
   have dn:Below w.heap.size w T:=BTr gc dw
   have dr:=i7 T
   obtain⟨⟨t0,t1⟩,⟨t2,t3,t4⟩,⟨t5,t6⟩,y4⟩:=dx T _ (FrB.of_below dw:FrB [] W5 T) (fun k h=>by simp at h)
   obtain⟨s0,s1,s2,s3⟩:=A3m jv
   go_wp2_with fail
   refine dr.mono ?_
   rintro e w8 ⟨rfl,bp⟩
   have gj:=((FrB.of_below dw:FrB [] W5 T)).on bp
   have k9:=((FrB.of_below dw:FrB [] W5 T)).size
   have kz:=bp.size
   have ii:=(bp.block (w.heap.size+3) (by omega)).trans jv
   have di:Below u.heap.size u w8:=BTr kv bp
   clear t0 t1 t2 t3 t4 t5 t6 y4 s0 s1 s2 s3
   obtain⟨⟨t0,t1⟩,⟨t2,t3,t4⟩,⟨t5,t6⟩,y4⟩:=dx w8 _ gj (fun k h=>by simp at h)
   obtain⟨s0,s1,s2,s3⟩:=A3m ii
   obtain⟨p0,p1⟩:=A0t y4
   have bn:=A0b y4
   by_cases h60:60 < K
   ·have cg:Hid (R = .error 5):=by show _=_;rw[HT.out,if_pos h60]
    go_wp2_with fail
    refine bodyPost_ret (v:=.tuple #[.agg #[.slice none 0 0,.slice none 0 0],.int .i64 5]) (by simp[results,Tryz.results48,go_sem, *]) rfl ?_
    refine⟨?_,?_⟩
    ·first|exact di|exact KB_set (KB_set di (by omega)) (by omega)
    ·rw[cg.out]
     exact⟨by omega,rfl⟩
   ·have cg:Hid (R = .ok ⟨A3h fs x (BO.vals b) V,BO.unk b⟩):=by show _=_;rw[HT.out,if_neg h60]
    obtain⟨ra,rb,rc⟩:=(⟨fo.out.1.below UAt.stays dn,fo.out.2.1.below ZAt.stays dn,fo.out.2.2.below (BAt.stays d) dn⟩:_∧_∧_)
    have hst:=ew w8 V b1 m1 d1 b2 m2 d2 b3 m3 d3 di fx.out (ra.below UAt.stays bp) (rb.below ZAt.stays bp) (rc.below (BAt.stays d) bp) fw.out
    go_wp2_with fail
    refine hst.mono ?_
    rintro e w9 ⟨c,i0,j0,l0,i1,j1,l1,rfl,HC,ej⟩
    have dv:=(ej.block (w.heap.size+4) (by omega)).trans y4
    clear p0 p1 bn
    obtain⟨p0,p1⟩:=A0t dv
    have bn:=A0b dv
    go_wp2_with fail
    refine bodyPost_ret (v:=.tuple #[.agg #[.slice i0 j0 l0,.slice i1 j1 l1],.int .i64 0]) (by simp[results,Tryz.results48,go_sem, *]) rfl ?_
    refine⟨KB_set (KB_set (BTr di ej) (by omega)) (by omega),?_⟩
    rw[cg.out]
    obtain⟨h1,h2,h3,h4⟩:=HC.out
    refine .inr ⟨c,i0,j0,l0,i1,j1,l1,h1,rfl,h2,OwnB.fr (d+1) [w.heap.size+4] _ _ _ (OwnB.mono (d+1) h3 (by omega)) (fr2 dv) (fun k hk hm=>?_),h4⟩
    have:=(OwnB.inB (d+1) h3 k hk).1
    rw[List.mem_singleton] at hm
    omega
  ·
   have gz:y.number=mu:=by rw[←hk3,←hyp];rfl
   obtain⟨nu,bq,br,bk,⟨ah,aj,ak⟩,⟨au,aw,a8⟩,⟨ba,bc,bg⟩⟩:=y
   have fk : [Value.int .i64 nu,Value.slice ah aj ak,Value.slice au aw a8,Value.slice ba bc bg] = [.int .i64 q0,.slice x1' y1' z1',.slice x2' y2' z2',.slice x3' y3' z3']:=fk
   have gz:mu=nu:=gz.symm
   simp only[List.cons.injEq,Value.int.injEq,Value.slice.injEq,true_and,and_true] at fk
   obtain⟨rfl,⟨rfl,rfl,rfl⟩,⟨rfl,rfl,rfl⟩,⟨rfl,rfl,rfl⟩⟩:=fk
   subst gz
   have hv0:V0∈BO.vals b:=List.mem_of_getElem? hk2
   have jb:(BO.vals b).find? (isV V.number)=some V0:=by
    rw[fx.out]
    exact B2d hk1 hk2
   obtain⟨Rm,fq⟩:∃ Rm,Hid (C8s g d x V0 V=Rm):=⟨_,rfl⟩
   have HT:Hid (R=D7h fs x b Rm):=by
    show _=_
    rw[←HR.out,←fq.out]
    exact C3r (by have:=HK.out;omega) jb
   have fj:Hid _:=hyp
   have iq:Hid _:=hyo
   have kg:Hid _:=hyn
   have fh:Hid _:=hyb
   have ft:Hid (V0∈BO.vals b):=hv0
   have ip:Hid (jW (jWB d) V0+jW (jWB d) V≤1000000000):=by
    show _≤_
    have h1:=B4x (jW (jWB d)) hv0
    have h2:=ke.out
    omega
   obtain⟨kf,iw,hK2⟩:=B9m (show fs.find? (fun f=>decide (f.number=mu))=some x from HX.out)
   obtain⟨bf,of,rfl,gl⟩:=HF.out.get FAt.plain hK2
   have lp:(kf:Int) < (nf:Int):=by have:=(List.getElem?_eq_some_iff.1 hK2).1;have:=HF.out.len.1;omega
   have kt:¬ (kf:Int) < 0:=by omega
   obtain⟨y0,y1,y2,y3,y4,y5⟩:=gl
   rw[A0d] at y1 y2 y3 y4 y5
   have ln:=C2p y0
   have hzl:=fun k hk=>And.intro (ki.out k hk) (HZ.out.lt k hk).2
   clear hk1 hk2 hk3 hyp hyo hyn hyb hv0 jb
   go_upto_region 6 with fail
   obtain⟨W9,fu⟩:∃ W9,Hid (W9=w7.alloc (.cells #[.int .i64 mu,.slice ah aj ak,.slice au aw a8,.slice ba bc bg] 62)):=⟨_,rfl⟩
   rw[←fu.out]
   obtain⟨ir,lu⟩:W9.heap[w7.heap.size]?=some (.cells #[.int .i64 mu,.slice ah aj ak,.slice au aw a8,.slice ba bc bg] 62 (0,0))∧w7.heap.size+1≤W9.heap.size:=by
    rw[fu.out]
    exact D2y _ _
   have ei:Below w7.heap.size w7 W9:=by rw[fu.out];exact(Below.refl _ _).alloc (Nat.le_refl _) _
   have bt:Below W5.heap.size W5 W9:=BTr eh ei
   have dl:Below u.heap.size u W9:=BTr dy bt
   have kx:Below w.heap.size w W9:=BTr gc bt
   have ij:=(bt.block (w.heap.size+3) (by omega)).trans x3
   have jg:=iq.out.lt
   have nI:∀ k,k∈VL.fp (LB.fp d) (⟨mu,bq,br,bk,(ah,aj,ak),(au,aw,a8),(ba,bc,bg)⟩:VL (LB d))++VL.fp (LB.fp d) (⟨mu,bj,bl,sv,(b1,m1,d1),(b2,m2,d2),(b3,m3,d3)⟩:VL (LB d))++[w.heap.size+3]→u.heap.size≤k∧(k < w.heap.size∨k=w.heap.size+3∨W5.heap.size≤k)∧k < W9.heap.size∧k≠w7.heap.size:=fun k hk=>by
    rcases List.mem_append.1 hk with hk|hk
    ·rcases List.mem_append.1 hk with hk|hk
     ·have h1:=fh.out k hk
      have h2:=jg k hk
      omega
     ·have h2:=hzl k hk
      omega
    ·rw[List.mem_singleton] at hk
     omega
   obtain⟨Q6,dm⟩:∃ Q6:World→Prop,Hid (∀ V,Q6 V↔∀ k,k < W9.heap.size→k∉VL.fp (LB.fp d) (⟨mu,bq,br,bk,(ah,aj,ak),(au,aw,a8),(ba,bc,bg)⟩:VL (LB d))++VL.fp (LB.fp d) (⟨mu,bj,bl,sv,(b1,m1,d1),(b2,m2,d2),(b3,m3,d3)⟩:VL (LB d))++[w.heap.size+3]→V.heap[k]?=W9.heap[k]?):=⟨_,fun _=>Iff.rfl⟩
   have ac:∀ V,Q6 V→(V.cell? ⟨w.heap.size,0,none⟩=some (.slice am nm cm)∧V.cell? ⟨w.heap.size,1,none⟩=some (.slice ae ne ce)∧V.cell? ⟨w.heap.size+1,0,none⟩=some (.string (S nam))∧V.cell? ⟨w.heap.size+1,1,none⟩=some (.slice (some ⟨bf,of,none⟩) nf cf)∧V.cell? ⟨w.heap.size+1,2,none⟩=some (.slice ab nb cb))∧(V.cell? ⟨bf,of+kf*6,none⟩=some (.string (S x.name))∧V.cell? ⟨bf,of+kf*6+1,none⟩=some (.int .i64 x.number)∧V.cell? ⟨bf,of+kf*6+2,none⟩=some (.int .i64 x.kind)∧V.cell? ⟨bf,of+kf*6+3,none⟩=some (.string (S x.type))∧V.cell? ⟨bf,of+kf*6+4,none⟩=some (.bool x.many)∧V.cell? ⟨bf,of+kf*6+5,none⟩=some (.int .i64 x.choice))∧V.cell? ⟨w7.heap.size,0,none⟩=some (.int .i64 mu)∧V.cell? ⟨w7.heap.size,1,none⟩=some (.slice ah aj ak)∧V.cell? ⟨w7.heap.size,2,none⟩=some (.slice au aw a8)∧V.cell? ⟨w7.heap.size,3,none⟩=some (.slice ba bc bg):=fun V hV=>by
    have q1:=(dm.out V).1 hV
    obtain⟨e0,e1⟩:=A0t ((q1 (w.heap.size) (by omega) (fun h=>by have:=nI _ h;omega)).trans ((bt.block _ (by omega)).trans x0))
    obtain⟨e2,e3,e4⟩:=A4s ((q1 (w.heap.size+1) (by omega) (fun h=>by have:=nI _ h;omega)).trans ((bt.block _ (by omega)).trans x1))
    have c1:=B5r (q1 bf (by have:=dl.size;omega) (fun h=>by have:=(nI _ h).1;omega))
    refine⟨⟨e0,e1,e2,e3,e4⟩,⟨?_,?_,?_,?_,?_,?_⟩,A3m ((q1 w7.heap.size (by omega) (fun h=>(nI _ h).2.2.2 rfl)).trans ir)⟩
    ·rw[c1];exact A0c dl y0
    ·rw[c1];exact A0c dl y1
    ·rw[c1];exact A0c dl y2
    ·rw[c1];exact A0c dl y3
    ·rw[c1];exact A0c dl y4
    ·rw[c1];exact A0c dl y5
   have ix:Q6 W9.drew:=(dm.out _).2 fun _ _ _=>rfl
   have bw:=A2w (HF.out.below FAt.stays (dl.drew)) ⟨ab,nb,cb,rfl⟩ ⟨nam,rfl⟩ mu
   rw[iw] at bw
   have bu:∀ V3,Below W9.drew.heap.size W9.drew V3→Q6 V3:=fun V3 hV=>(dm.out _).2 fun k hk _=>hV.block k hk
   have bv:∀ V3,Below W9.drew.heap.size W9.drew V3→V3.heap[w.heap.size+3]?=some (.cells #[.int .i64 mu,.slice b1 m1 d1,.slice b2 m2 d2,.slice b3 m3 d3] 62 (0,0)):=fun V3 hV=>(hV.block _ (show w.heap.size+3 < W9.heap.size by omega)).trans ij
   have cw:∀ V3 V4,Below W9.drew.heap.size W9.drew V3→FrB (VL.fp (LB.fp d) (⟨mu,bq,br,bk,(ah,aj,ak),(au,aw,a8),(ba,bc,bg)⟩:VL (LB d))++VL.fp (LB.fp d) (⟨mu,bj,bl,sv,(b1,m1,d1),(b2,m2,d2),(b3,m3,d3)⟩:VL (LB d))) V3 V4→V4.heap[w.heap.size+3]?=some (.cells #[.int .i64 mu,.slice b1 m1 d1,.slice b2 m2 d2,.slice b3 m3 d3] 62 (0,0)):=fun V3 V4 h3 h4=>(h4.blk (by have:=h3.size;have e:W9.drew.heap.size=W9.heap.size:=rfl;omega) (fun h=>by
    rcases List.mem_append.1 h with h|h
    ·have:=fh.out _ h;omega
    ·have:=hzl _ h;omega)).trans (bv V3 h3)
   have cj:∀ V3 V4,Below W9.drew.heap.size W9.drew V3→FrB (VL.fp (LB.fp d) (⟨mu,bq,br,bk,(ah,aj,ak),(au,aw,a8),(ba,bc,bg)⟩:VL (LB d))++VL.fp (LB.fp d) (⟨mu,bj,bl,sv,(b1,m1,d1),(b2,m2,d2),(b3,m3,d3)⟩:VL (LB d))) V3 V4→Q6 V4:=fun V3 V4 h3 h4=>(dm.out _).2 fun k hk hn=>(h4.blk (by have:=h3.size;have e:W9.drew.heap.size=W9.heap.size:=rfl;omega) (fun h=>hn (List.mem_append_left _ h))).trans ((dm.out _).1 (bu V3 h3) k hk hn)
   have cu:∀ V4 x0 x1 x2 x3,Q6 V4→V4.heap[w.heap.size+3]?=some (.cells #[.int .i64 mu,.slice b1 m1 d1,.slice b2 m2 d2,.slice b3 m3 d3] 62 (0,0))→W9.heap.size≤V4.heap.size→Q6 ((((V4.setCell ⟨w.heap.size+3,0,none⟩ x0).setCell ⟨w.heap.size+3,1,none⟩ x1).setCell ⟨w.heap.size+3,2,none⟩ x2).setCell ⟨w.heap.size+3,3,none⟩ x3):=fun V4 x0 x1 x2 x3 hV hT hs=>(dm.out _).2 fun k hk hn=>((fr4 hT).blk (by omega) (fun h=>hn (List.mem_append_right _ h))).trans ((dm.out _).1 hV k hk hn)
   have dh:∀ V3,Below W9.drew.heap.size W9.drew V3→Calls Tryz.prog 106 #[.agg #[.slice am nm cm,.slice ae ne ce],.agg #[.string (S x.name),.int .i64 x.number,.int .i64 x.kind,.string (S x.type),.bool x.many,.int .i64 x.choice],.agg #[.int .i64 mu,.slice ah aj ak,.slice au aw a8,.slice ba bc bg],.agg #[.int .i64 mu,.slice b1 m1 d1,.slice b2 m2 d2,.slice b3 m3 d3]] V3 fun e w'=>∃ (e1:Option Addr) (f1 g1:Nat) (e2:Option Addr) (f2 g2:Nat) (e3:Option Addr) (f3 g3:Nat) (E:Int),e = .returned (.tuple #[.agg #[.int .i64 mu,.slice e1 f1 g1,.slice e2 f2 g2,.slice e3 f3 g3],.int .i64 E])∧Hid (MRd (VL.fp (LB.fp d) (⟨mu,bq,br,bk,(ah,aj,ak),(au,aw,a8),(ba,bc,bg)⟩:VL (LB d))++VL.fp (LB.fp d) (⟨mu,bj,bl,sv,(b1,m1,d1),(b2,m2,d2),(b3,m3,d3)⟩:VL (LB d))) W9 w' mu e1 f1 g1 e2 f2 g2 e3 f3 g3 E Rm)∧FrB (VL.fp (LB.fp d) (⟨mu,bq,br,bk,(ah,aj,ak),(au,aw,a8),(ba,bc,bg)⟩:VL (LB d))++VL.fp (LB.fp d) (⟨mu,bj,bl,sv,(b1,m1,d1),(b2,m2,d2),(b3,m3,d3)⟩:VL (LB d))) V3 w':=fun V3 kj=>by
    have dg:Below W9.heap.size W9 V3:=BTr (Below.refl _ _).drew kj
    have hw3:Below w.heap.size w V3:=BTr kx dg
    have je:Below u.heap.size u V3:=BTr dl dg
    have ko:MetIn d W0 V3 (⟨mu,bq,br,bk,(ah,aj,ak),(au,aw,a8),(ba,bc,bg)⟩:VL (LB d)) (⟨mu,bj,bl,sv,(b1,m1,d1),(b2,m2,d2),(b3,m3,d3)⟩:VL (LB d)):=by
     refine⟨BTr h0 je,(iq.out.below ei).below dg,HZ.out.below hw3,fun k=>?_,?_⟩
     ·have h1:=List.nodup_iff_count.1 kg.out k
      have h2:=List.nodup_iff_count.1 ld k
      by_cases h3:0 < (VL.fp (LB.fp d) (⟨mu,bq,br,bk,(ah,aj,ak),(au,aw,a8),(ba,bc,bg)⟩:VL (LB d))).count k
      ·by_cases h4:0 < (VL.fp (LB.fp d) (⟨mu,bj,bl,sv,(b1,m1,d1),(b2,m2,d2),(b3,m3,d3)⟩:VL (LB d))).count k
       ·have:=fh.out k (List.count_pos_iff.1 h3)
        have:=hzl k (List.count_pos_iff.1 h4)
        omega
       ·omega
      ·omega
     ·rw[fj.out,HV.out]
      exact ip.out
    refine(C9c ko x HS.out rfl (fun j hj=>(j5.out j hj).below je) (fun hm hk=>?_)).mono ?_
    ·obtain⟨h1,h2⟩:=j7.out hm hk
     obtain⟨g1,g2,s,g3⟩:=h2 V0 (.inl ft.out) (by rw[←fj.out];rfl)
     obtain⟨g4,g5,t,g6⟩:=h2 V (.inr rfl) (by rw[←HV.out];rfl)
     have jh:=jz.out V0 ft.out
     have oV:=fw.out
     rw[←fj.out] at g1 g2 g3 jh
     rw[←HV.out] at g4 g5 g6 oV
     obtain⟨s',hs',g8⟩:=B9v (show bk.map (LB.pl d) = [s] from g3)
     obtain⟨t',ku,g9⟩:=B9v (show sv.map (LB.pl d) = [t] from g6)
     refine⟨h1,g1,List.map_eq_nil_iff.1 g2,g4,List.map_eq_nil_iff.1 g5,s',t',hs',ku,?_,?_⟩
     ·rw[g8]
      exact jh.2.2.2.2.2.1 s (by rw[g3];simp)
     ·rw[g9]
      exact oV.2.2.2.2.2.1 t (by rw[g6];simp)
    ·rintro e w' ⟨e1,f1,g1,e2,f2,g2,e3,f3,g3,E,rfl,bh,hm⟩
     refine⟨e1,f1,g1,e2,f2,g2,e3,f3,g3,E,rfl,?_,bh⟩
     rw[fj.out,HV.out,fq.out] at hm
     show MRd (VL.fp (LB.fp d) (⟨mu,bq,br,bk,(ah,aj,ak),(au,aw,a8),(ba,bc,bg)⟩:VL (LB d))++VL.fp (LB.fp d) (⟨mu,bj,bl,sv,(b1,m1,d1),(b2,m2,d2),(b3,m3,d3)⟩:VL (LB d))) _ _ _ _ _ _ _ _ _ _ _ _ _ Rm
     cases Rm with
     | error E'=>exact hm
     | ok v=>exact⟨hm.1,hm.2.1,fun w'' ⟨G,hG,iu⟩=>hm.2.2 w'' ⟨G,hG,fun k hk=>⟨by have h1:=(iu k hk).1;have h2:=dg.size;omega,(iu k hk).2⟩⟩⟩
   obtain⟨s0,s1,s2,s3⟩:=A3m ij
   clear y0 y1 y2 y3 y4 y5 iw
   go_cut [12] from 25 to 39 (fun s12 wc=>∃ (e1:Option Addr) (f1 g1:Nat) (e2:Option Addr) (f2 g2:Nat) (e3:Option Addr) (f3 g3:Nat) (E:Int) (dz:World),s12 = .int .i64 E∧Hid (MRd (VL.fp (LB.fp d) (⟨mu,bq,br,bk,(ah,aj,ak),(au,aw,a8),(ba,bc,bg)⟩:VL (LB d))++VL.fp (LB.fp d) (⟨mu,bj,bl,sv,(b1,m1,d1),(b2,m2,d2),(b3,m3,d3)⟩:VL (LB d))) W9 dz mu e1 f1 g1 e2 f2 g2 e3 f3 g3 E Rm)∧FrB (VL.fp (LB.fp d) (⟨mu,bq,br,bk,(ah,aj,ak),(au,aw,a8),(ba,bc,bg)⟩:VL (LB d))++VL.fp (LB.fp d) (⟨mu,bj,bl,sv,(b1,m1,d1),(b2,m2,d2),(b3,m3,d3)⟩:VL (LB d))) W9 dz∧wc.heap[w.heap.size+3]?=some (.cells #[.int .i64 mu,.slice e1 f1 g1,.slice e2 f2 g2,.slice e3 f3 g3] 62 (0,0))∧FrB [w.heap.size+3] dz wc)
   case first=>
    refine wp_region_held_drew (S:=Q6) (by kernel_rfl) ix (fun hHeld=>?_)
    refine tK (i:=0) (v:=?vr1) rfl ⟨by rfl,?hyr1⟩ ?_
    case hyr1=>(intro W h;have:=ac W h;go_simp;first|done|with_reducible rfl)
    try simp only[pT,Act.put]
    refine tK (i:=1) (v:=?vr2) rfl ⟨by rfl,?hyr2⟩ ?_
    case hyr2=>(intro W h;have:=ac W h;go_simp;first|done|with_reducible rfl)
    try simp only[pT,Act.put]
    refine tK (i:=2) (v:=?vr3) rfl ⟨by rfl,?hyr3⟩ ?_
    case hyr3=>(intro W h;have:=ac W h;go_simp;first|done|with_reducible rfl)
    try simp only[pT,Act.put]
    refine tK (i:=3) (v:=?vr4) rfl ⟨by rfl,?hyr4⟩ ?_
    case hyr4=>(intro W h;have:=ac W h;go_simp;first|done|with_reducible rfl)
    try simp only[pT,Act.put]
    refine tK (i:=4) (v:=?vr5) rfl ⟨by rfl,?hyr5⟩ ?_
    case hyr5=>(intro W h;have:=ac W h;go_simp;first|done|with_reducible rfl)
    try simp only[pT,Act.put]
    refine tK (i:=9) (v:=?vr6) rfl ⟨by rfl,?hyr6⟩ ?_
    case hyr6=>(intro W h;have:=ac W h;go_simp;first|done|with_reducible rfl)
    try simp only[pT,Act.put]
    refine rB (i:=5) (j:=10) rfl (fun K hK=>?_) rfl fun K hK=>?_
    ·skip
     go_simp
     refine hK.out _ _ ?_ (fun hHeld=>?_)
     ·(try dsimp only);with_reducible assumption
     clear hK K
     try simp only[pT,Act.put]
     refine rB (i:=6) (j:=10) rfl (fun K hK=>?_) rfl fun K hK=>?_
     rotate_right
     focus
      skip
      go_simp
      refine hK.out _ _ ?_ (fun hHeld=>?_)
      ·(try dsimp only);with_reducible assumption
      clear hK K
      try simp only[pT,Act.put]
      refine rA (i:=6) rfl fun K hK=>?_
      go_simp
      refine bw.mono ?_
      rintro e V3 ⟨rfl,hb3⟩
      have iy:=bu V3 hb3
      have fc:=bv V3 hb3
      obtain⟨ji,jk,jl,t33⟩:=A3m fc
      refine hK.out _ _ ?_ (fun hHeld=>?_)
      ·(try dsimp only);with_reducible assumption
      clear hK K
      try simp only[pT,Act.put]
      refine tK (i:=7) (v:=?vr12) rfl ⟨by rfl,?hyr12⟩ ?_
      case hyr12=>(intro W h;have:=ac W h;go_simp;first|done|with_reducible rfl)
      try simp only[pT,Act.put]
      refine tK (i:=8) (v:=?vr13) rfl ⟨by rfl,?hyr13⟩ ?_
      case hyr13=>(intro W h;have:=ac W h;go_simp;first|done|with_reducible rfl)
      try simp only[pT,Act.put]
      refine rA (i:=11) rfl fun K hK=>?_
      go_simp
      refine(dh V3 hb3).mono ?_
      rintro e V4 ⟨e1,f1,g1,e2,f2,g2,e3,f3,g3,E,rfl,HM,bh⟩
      have ee:=cj V3 V4 hb3 bh
      have ag:=cw V3 V4 hb3 bh
      obtain⟨jm,jn,jo,jp⟩:=A3m ag
      have jq:=A0b ag 0
      have jr:=A0b ag 1
      have js:=A0b ag 2
      have jt:=A0b ag 3
      have jw:=hb3.size
      have jx:=bh.size
      have jy:W9.heap.size≤W9.drew.heap.size:=Nat.le_refl _
      have iz:=cu V4 (.int .i64 mu) (.slice e1 f1 g1) (.slice e2 f2 g2) (.slice e3 f3 g3) ee ag (by omega)
      refine hK.out _ _ ?_ (fun hHeld=>?_)
      ·(try dsimp only);with_reducible assumption
      clear hK K
      try simp only[pT,Act.put]
      refine tK (i:=12) (v:=?vr14) rfl ⟨by rfl,?hyr14⟩ ?_
      case hyr14=>(intro W h;have:=ac W h;go_simp;first|done|with_reducible rfl)
      try simp only[pT,Act.put]
      refine tK (i:=13) (v:=?vr15) rfl ⟨by rfl,?hyr15⟩ ?_
      case hyr15=>(intro W h;have:=ac W h;go_simp;first|done|with_reducible rfl)
      try simp only[pT,Act.put]
      refine tK (i:=14) (v:=?vr16) rfl ⟨by rfl,?hyr16⟩ ?_
      case hyr16=>(intro W h;have:=ac W h;go_simp;first|done|with_reducible rfl)
     rotate_right
     focus
      skip
      go_simp
      refine bw.mono ?_
      rintro e V3 ⟨rfl,hb3⟩
      have iy:=bu V3 hb3
      have fc:=bv V3 hb3
      obtain⟨ji,jk,jl,t33⟩:=A3m fc
      refine hK.out _ _ ?_ (fun hHeld=>?_)
      ·(try dsimp only);with_reducible assumption
      clear hK K
      try simp only[pT,Act.put]
      refine tK (i:=7) (v:=?vr7) rfl ⟨by rfl,?hyr7⟩ ?_
      case hyr7=>(intro W h;have:=ac W h;go_simp;first|done|with_reducible rfl)
      try simp only[pT,Act.put]
      refine tK (i:=8) (v:=?vr8) rfl ⟨by rfl,?hyr8⟩ ?_
      case hyr8=>(intro W h;have:=ac W h;go_simp;first|done|with_reducible rfl)
      try simp only[pT,Act.put]
      refine rA (i:=10) rfl fun K hK=>?_
      go_simp
      refine hK.out _ _ ?_ (fun hHeld=>?_)
      ·(try dsimp only);with_reducible assumption
      clear hK K
      try simp only[pT,Act.put]
      refine rA (i:=11) rfl fun K hK=>?_
      go_simp
      refine(dh V3 hb3).mono ?_
      rintro e V4 ⟨e1,f1,g1,e2,f2,g2,e3,f3,g3,E,rfl,HM,bh⟩
      have ee:=cj V3 V4 hb3 bh
      have ag:=cw V3 V4 hb3 bh
      obtain⟨jm,jn,jo,jp⟩:=A3m ag
      have jq:=A0b ag 0
      have jr:=A0b ag 1
      have js:=A0b ag 2
      have jt:=A0b ag 3
      have jw:=hb3.size
      have jx:=bh.size
      have jy:W9.heap.size≤W9.drew.heap.size:=Nat.le_refl _
      have iz:=cu V4 (.int .i64 mu) (.slice e1 f1 g1) (.slice e2 f2 g2) (.slice e3 f3 g3) ee ag (by omega)
      refine hK.out _ _ ?_ (fun hHeld=>?_)
      ·(try dsimp only);with_reducible assumption
      clear hK K
      try simp only[pT,Act.put]
      refine tK (i:=12) (v:=?vr9) rfl ⟨by rfl,?hyr9⟩ ?_
      case hyr9=>(intro W h;have:=ac W h;go_simp;first|done|with_reducible rfl)
      try simp only[pT,Act.put]
      refine tK (i:=13) (v:=?vr10) rfl ⟨by rfl,?hyr10⟩ ?_
      case hyr10=>(intro W h;have:=ac W h;go_simp;first|done|with_reducible rfl)
      try simp only[pT,Act.put]
      refine tK (i:=14) (v:=?vr11) rfl ⟨by rfl,?hyr11⟩ ?_
      case hyr11=>(intro W h;have:=ac W h;go_simp;first|done|with_reducible rfl)
     all_goals
      try simp only[pT,Act.put]
      refine rA (i:=15) rfl fun K hK=>?_
      go_simp
      refine hK.out _ _ ?_ (fun hHeld=>?_)
      ·(try dsimp only);with_reducible assumption
      clear hK K
      try simp only[pT,Act.put]
      refine rA (i:=16) rfl fun K hK=>?_
      go_simp
      refine hK.out _ _ ?_ (fun hHeld=>?_)
      ·(try dsimp only);with_reducible assumption
      clear hK K
      try simp only[pT,Act.put]
      refine wpAnyH_done (by kernel_rfl) ?_ _
      go_wp2_with fail
      go_meet
      refine⟨e1,f1,g1,e2,f2,g2,e3,f3,g3,E,V4,rfl,HM,?_,?_,?_⟩
      ·exact(FrB.of_below (BTr (Below.refl _ W9).drew hb3):FrB [] W9 V3).trans bh (fun _ hi=>by simp at hi) (fun _ hi=>.inl hi)
      ·exact heap_setCell_same _ _ 3 _ _ _ (heap_setCell_same _ _ 2 _ _ _ (heap_setCell_same _ _ 1 _ _ _ (heap_setCell_same _ _ 0 _ _ _ ag)))
      ·exact fr4 ag
    ·skip
     go_simp
     refine hK.out _ _ ?_ (fun hHeld=>?_)
     ·(try dsimp only);with_reducible assumption
     clear hK K
     try simp only[pT,Act.put]
     refine rA (i:=5) rfl fun K hK=>?_
     go_simp
     refine hK.out _ _ ?_ (fun hHeld=>?_)
     ·(try dsimp only);with_reducible assumption
     clear hK K
     try simp only[pT,Act.put]
     refine rA (i:=6) rfl fun K hK=>?_
     go_simp
     refine bw.mono ?_
     rintro e V3 ⟨rfl,hb3⟩
     have iy:=bu V3 hb3
     have fc:=bv V3 hb3
     obtain⟨ji,jk,jl,t33⟩:=A3m fc
     refine hK.out _ _ ?_ (fun hHeld=>?_)
     ·(try dsimp only);with_reducible assumption
     clear hK K
     try simp only[pT,Act.put]
     refine tK (i:=7) (v:=?vr17) rfl ⟨by rfl,?hyr17⟩ ?_
     case hyr17=>(intro W h;have:=ac W h;go_simp;first|done|with_reducible rfl)
     try simp only[pT,Act.put]
     refine tK (i:=8) (v:=?vr18) rfl ⟨by rfl,?hyr18⟩ ?_
     case hyr18=>(intro W h;have:=ac W h;go_simp;first|done|with_reducible rfl)
     try simp only[pT,Act.put]
     refine rA (i:=11) rfl fun K hK=>?_
     go_simp
     refine(dh V3 hb3).mono ?_
     rintro e V4 ⟨e1,f1,g1,e2,f2,g2,e3,f3,g3,E,rfl,HM,bh⟩
     have ee:=cj V3 V4 hb3 bh
     have ag:=cw V3 V4 hb3 bh
     obtain⟨jm,jn,jo,jp⟩:=A3m ag
     have jq:=A0b ag 0
     have jr:=A0b ag 1
     have js:=A0b ag 2
     have jt:=A0b ag 3
     have jw:=hb3.size
     have jx:=bh.size
     have jy:W9.heap.size≤W9.drew.heap.size:=Nat.le_refl _
     have iz:=cu V4 (.int .i64 mu) (.slice e1 f1 g1) (.slice e2 f2 g2) (.slice e3 f3 g3) ee ag (by omega)
     refine hK.out _ _ ?_ (fun hHeld=>?_)
     ·(try dsimp only);with_reducible assumption
     clear hK K
     try simp only[pT,Act.put]
     refine tK (i:=12) (v:=?vr19) rfl ⟨by rfl,?hyr19⟩ ?_
     case hyr19=>(intro W h;have:=ac W h;go_simp;first|done|with_reducible rfl)
     try simp only[pT,Act.put]
     refine tK (i:=13) (v:=?vr20) rfl ⟨by rfl,?hyr20⟩ ?_
     case hyr20=>(intro W h;have:=ac W h;go_simp;first|done|with_reducible rfl)
     try simp only[pT,Act.put]
     refine tK (i:=14) (v:=?vr21) rfl ⟨by rfl,?hyr21⟩ ?_
     case hyr21=>(intro W h;have:=ac W h;go_simp;first|done|with_reducible rfl)
     try simp only[pT,Act.put]
     refine rA (i:=15) rfl fun K hK=>?_
     go_simp
     refine hK.out _ _ ?_ (fun hHeld=>?_)
     ·(try dsimp only);with_reducible assumption
     clear hK K
     try simp only[pT,Act.put]
     refine rA (i:=16) rfl fun K hK=>?_
     go_simp
     refine hK.out _ _ ?_ (fun hHeld=>?_)
     ·(try dsimp only);with_reducible assumption
     clear hK K
     try simp only[pT,Act.put]
     refine wpAnyH_done (by kernel_rfl) ?_ _
     go_wp2_with fail
     go_meet
     refine⟨e1,f1,g1,e2,f2,g2,e3,f3,g3,E,V4,rfl,HM,?_,?_,?_⟩
     ·exact(FrB.of_below (BTr (Below.refl _ W9).drew hb3):FrB [] W9 V3).trans bh (fun _ hi=>by simp at hi) (fun _ hi=>.inl hi)
     ·exact heap_setCell_same _ _ 3 _ _ _ (heap_setCell_same _ _ 2 _ _ _ (heap_setCell_same _ _ 1 _ _ _ (heap_setCell_same _ _ 0 _ _ _ ag)))
     ·exact fr4 ag
   case rest=>
    obtain⟨e1,f1,g1,e2,f2,g2,e3,f3,g3,E,dz,rfl,HM,gi,xc,ja⟩:=hcut
    have f6:FrB (VL.fp (LB.fp d) (⟨mu,bq,br,bk,(ah,aj,ak),(au,aw,a8),(ba,bc,bg)⟩:VL (LB d))++VL.fp (LB.fp d) (⟨mu,bj,bl,sv,(b1,m1,d1),(b2,m2,d2),(b3,m3,d3)⟩:VL (LB d))++[w.heap.size+3]) W5 dz:=(FrB.of_below bt:FrB [] W5 W9).trans gi (fun _ hi=>by simp at hi) (fun _ hi=>.inl (List.mem_append_left _ hi))
    have d9:FrB (VL.fp (LB.fp d) (⟨mu,bq,br,bk,(ah,aj,ak),(au,aw,a8),(ba,bc,bg)⟩:VL (LB d))++VL.fp (LB.fp d) (⟨mu,bj,bl,sv,(b1,m1,d1),(b2,m2,d2),(b3,m3,d3)⟩:VL (LB d))++[w.heap.size+3]) W5 wc:=f6.trans ja (fun _ hi=>hi) (fun _ hi=>.inl (List.mem_append_right _ hi))
    have f9:∀ k∈VL.fp (LB.fp d) (⟨mu,bq,br,bk,(ah,aj,ak),(au,aw,a8),(ba,bc,bg)⟩:VL (LB d))++VL.fp (LB.fp d) (⟨mu,bj,bl,sv,(b1,m1,d1),(b2,m2,d2),(b3,m3,d3)⟩:VL (LB d))++[w.heap.size+3],k < w.heap.size∨k=w.heap.size+3∨W5.heap.size≤k:=fun k hk=>(nI k hk).2.1
    have ie:Below u.heap.size u wc:=dy.trans (d9.below dy.size (fun k hk=>(nI k hk).1))
    have HA:Hid (Apt (VL.fp (LB.fp d) (⟨mu,bq,br,bk,(ah,aj,ak),(au,aw,a8),(ba,bc,bg)⟩:VL (LB d))++VL.fp (LB.fp d) (⟨mu,bj,bl,sv,(b1,m1,d1),(b2,m2,d2),(b3,m3,d3)⟩:VL (LB d))) W9 dz wc):=⟨_,ja,fun k hk=>by
     rw[List.mem_singleton] at hk
     subst hk
     refine⟨by omega,fun h=>?_⟩
     rcases List.mem_append.1 h with h|h
     ·have:=fh.out _ h;omega
     ·have:=hzl _ h;omega⟩
    clear ac ix bw bu bv cw cj cu dh s0 s1 s2 s3 ir ij jg hzl nI
    cases Rm with
    | error E'=>
     obtain⟨fy,fz⟩:=HM.out
     subst fy
     have eE:(E != 0)=true:=by simpa using fz
     have lh:(E == 0)=false:=by simpa using fz
     have cg:Hid (R = .error E):=HT.out
     obtain⟨⟨t0,t1⟩,⟨t2,t3,t4⟩,⟨t5,t6⟩,y4⟩:=dx wc _ d9 f9
     obtain⟨p0,p1⟩:=A0t y4
     have bn:=A0b y4
     go_wp2_with fail
     refine bodyPost_ret (v:=.tuple #[.agg #[.slice none 0 0,.slice none 0 0],.int .i64 E]) (by simp[results,Tryz.results48,go_sem, *]) rfl ?_
     refine⟨?_,?_⟩
     ·first|exact ie|exact KB_set (KB_set ie (by omega)) (by omega)
     ·rw[cg.out]
      exact⟨fz,rfl⟩
    | ok v=>
     obtain⟨fy,jf,jd⟩:=HM.out
     subst fy
     have fd:Hid _:=jd wc HA.out
     obtain⟨K',il⟩:∃ K':Int,Hid (((A1h v:Nat):Int)=K'):=⟨_,rfl⟩
     have gy:=C5t fq.out
     have jc:VQk (BQk d) v:=by
      rw[gy]
      exact D2g (fun M s t hs ht=>B8h g.msgs d M s t hs ht) (j6.out V0 ft.out) (D2s fw.out)
     have gw:jW (jWB d) v≤1000000000:=by
      rw[gy]
      exact Nat.le_trans (D5h (fun M s t=>C5k g.msgs d M s t) g.msgs x V0 V) ip.out
     have j8:Hid (VOk (BOk d) v):=D2r jc gw
     have gh:∀ U,Calls Tryz.prog 105 #[.agg #[.int .i64 mu,.slice e1 f1 g1,.slice e2 f2 g2,.slice e3 f3 g3]] U fun e w'=>e = .returned (.int .i64 K')∧Below U.heap.size U w':=fun U=>by
      have l1:=fd.out.1.len.1
      have l2:=fd.out.2.1.len.1
      have l3:=fd.out.2.2.len.1
      have h2:=A4t (fun s=>1+jWB d s) (fun _=>by omega) v.subs
      have h3:=gw
      unfold jW at h3
      have:=B5t (w:=U) v l1 l2 l3 (c1:=g1) (c2:=g2) (c3:=g3) (a1:=e1) (a2:=e2) (a3:=e3) (by omega) mu
      rw[il.out] at this
      exact this
     have io:Hid (R=if 60 < K' then .error 5 else .ok ⟨A3h fs x (BO.vals b) v,BO.unk b⟩):=by
      show _=_
      rw[HT.out]
      show(if 60 < A1h v then _ else _)=_
      have:=il.out
      by_cases h:60 < A1h v
      ·rw[if_pos h,if_pos (by omega)]
      ·rw[if_neg h,if_neg (by omega)]
     have j9:Hid (v.number=mu):=jf
     clear gy jc gw jf jd
     go_upto_region 9 with fail
     have dr:=gh wc
     obtain⟨⟨t0,t1⟩,⟨t2,t3,t4⟩,⟨t5,t6⟩,y4⟩:=dx wc _ d9 f9
     obtain⟨s0,s1,s2,s3⟩:=A3m xc
     go_wp2_with fail
     refine dr.mono ?_
     rintro e w8 ⟨rfl,bp⟩
     have gj:=(d9).on bp
     have k9:=(d9).size
     have kz:=bp.size
     have ii:=(bp.block (w.heap.size+3) (by omega)).trans xc
     have di:Below u.heap.size u w8:=BTr ie bp
     clear t0 t1 t2 t3 t4 t5 t6 y4 s0 s1 s2 s3
     obtain⟨⟨t0,t1⟩,⟨t2,t3,t4⟩,⟨t5,t6⟩,y4⟩:=dx w8 _ gj f9
     obtain⟨s0,s1,s2,s3⟩:=A3m ii
     obtain⟨p0,p1⟩:=A0t y4
     have bn:=A0b y4
     by_cases h60:60 < K'
     ·have cg:Hid (R = .error 5):=by show _=_;rw[io.out,if_pos h60]
      go_wp2_with fail
      refine bodyPost_ret (v:=.tuple #[.agg #[.slice none 0 0,.slice none 0 0],.int .i64 5]) (by simp[results,Tryz.results48,go_sem, *]) rfl ?_
      refine⟨?_,?_⟩
      ·first|exact di|exact KB_set (KB_set di (by omega)) (by omega)
      ·rw[cg.out]
       exact⟨by omega,rfl⟩
     ·have cg:Hid (R = .ok ⟨A3h fs x (BO.vals b) v,BO.unk b⟩):=by show _=_;rw[io.out,if_neg h60]
      obtain⟨ra,rb,rc⟩:=fd.out
      have hst:=ew w8 v e1 f1 g1 e2 f2 g2 e3 f3 g3 di j9.out (ra.below UAt.stays bp) (rb.below ZAt.stays bp) (rc.below (BAt.stays d) bp) j8.out
      go_wp2_with fail
      refine hst.mono ?_
      rintro e w9 ⟨c,i0,j0,l0,i1,j1,l1,rfl,HC,ej⟩
      have dv:=(ej.block (w.heap.size+4) (by omega)).trans y4
      clear p0 p1 bn
      obtain⟨p0,p1⟩:=A0t dv
      have bn:=A0b dv
      go_wp2_with fail
      refine bodyPost_ret (v:=.tuple #[.agg #[.slice i0 j0 l0,.slice i1 j1 l1],.int .i64 0]) (by simp[results,Tryz.results48,go_sem, *]) rfl ?_
      refine⟨KB_set (KB_set (BTr di ej) (by omega)) (by omega),?_⟩
      rw[cg.out]
      obtain⟨h1,h2,h3,h4⟩:=HC.out
      refine .inr ⟨c,i0,j0,l0,i1,j1,l1,h1,rfl,h2,OwnB.fr (d+1) [w.heap.size+4] _ _ _ (OwnB.mono (d+1) h3 (by omega)) (fr2 dv) (fun k hk hm=>?_),h4⟩
      have:=(OwnB.inB (d+1) h3 k hk).1
      rw[List.mem_singleton] at hm
      omega
end L
end Go.Proofs.YtgaoojpakjjdnaaGreatDoor
