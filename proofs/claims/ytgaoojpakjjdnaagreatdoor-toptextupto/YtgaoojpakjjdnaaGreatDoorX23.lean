import Derived.Test.YtgaoojpakjjdnaaGreatDoorX22
set_option maxHeartbeats 32000000
set_option maxRecDepth 100000
set_option linter.unusedVariables false
namespace Go.Proofs.YtgaoojpakjjdnaaGreatDoor
namespace L
open Go.RowKit
theorem D7u {d:Nat}{v:VI (BI d)}(h:VQk (BQk d) v)(hw:jW (jWB d) v≤1000000000):VOk (BOk d) v:=by
 obtain⟨q1,q2,q3,q4⟩:=h
 unfold jW at hw
 have h2:=A5t (fun s=>1+jWB d s) (fun _=>by omega) v.subs
 refine⟨q1,q2,by unfold reachBytes;omega,q3,by unfold reachBytes;omega,fun s hs=>D8z d s (q4 s hs) ?_,by unfold reachBytes;omega⟩
 have:=B7e (fun s=>1+jWB d s) hs
 omega
theorem D7v {d:Nat}{v:VI (BI d)}(h:VOk (BOk d) v):VQk (BQk d) v:=⟨h.1,h.2.1,h.2.2.2.1,fun s hs=>D9c d s (h.2.2.2.2.2.1 s hs)⟩
theorem C9r {g:GI}{d:Nat}{x:FI}{a b v:VI (BI d)}(h:D2w g d x a b = .ok v):v=A6y (jnB g.msgs d) g.msgs x a b:=by
 cases d with
 | zero=>exact(Except.ok.inj h).symm
 | succ d=>
  rw[A9r] at h
  split at h
  ·split at h
   ·split at h
    ·exact(Except.ok.inj h).symm
    ·cases h
   ·exact(Except.ok.inj h).symm
  ·exact(Except.ok.inj h).symm
def WOut (d:Nat)(w:World)(s0 s1:Value)(b:BO (BI d))(res:Except Int (BO (BI d)))(e:Ending)(w':World):Prop:=
 match res with
 | .error E=>E≠0∧e = .returned (.tuple #[.agg #[.slice none 0 0,.slice none 0 0],.int .i64 E])
 | .ok b'=>(b'=b∧e = .returned (.tuple #[.agg #[s0,s1],.int .i64 0]))∨∃ (c:LB (d+1)) (i0:Option Addr) (j0 l0:Nat) (i1:Option Addr) (j1 l1:Nat),C0u (d+1) c = [.slice i0 j0 l0,.slice i1 j1 l1]∧e = .returned (.tuple #[.agg #[.slice i0 j0 l0,.slice i1 j1 l1],.int .i64 0])∧LB.pl (d+1) c=b'∧OwnB w.heap.size (d+1) w' c∧(LB.fp (d+1) c).Nodup
theorem D8b (w:World)(o:Obj):(w.alloc o).heap[w.heap.size]?=some o∧w.heap.size+1≤(w.alloc o).heap.size:=⟨heap_alloc_new _ o,by simp⟩
theorem C3c {α β:Type}{f : α→β}{l:List α}{b : β}(h:l.map f = [b]):∃ a,l = [a]∧f a=b:=by
 rcases l with _|⟨a,_|⟨c,l⟩⟩
 ·simp at h
 ·exact⟨a,rfl,by simpa using h⟩
 ·simp at h
def E2w {d:Nat}(fs:List FI)(x:FI)(b:BO (BI d)):Except Int (VI (BI d))→Except Int (BO (BI d))
 | .error E=>.error E
 | .ok v'=>if 60<A1h v' then .error 5 else .ok ⟨A6v fs x b.vals v',b.unk⟩
theorem C7k {g:GI}{d:Nat}{fs:List FI}{x:FI}{b:BO (BI d)}{v u:VI (BI d)}(h0:A1h v≠0)(h:b.vals.find? (isV v.number)=some u):A2b g d fs x b v=E2w fs x b (D2w g d x u v):=by
 unfold A2b
 rw[if_neg h0,h]
 rfl
def MRd {d:Nat}(F:List Nat)(w0 w:World)(mu:Int)(e1:Option Addr)(f1 g1:Nat)(e2:Option Addr)(f2 g2:Nat)(e3:Option Addr)(f3 g3:Nat)(E:Int):Except Int (VI (BI d))→Prop
 | .error E'=>E=E'∧E≠0
 | .ok v=>E=0∧v.number=mu∧∀ w'',Apt F w0 w w''→RdL 1 UAt w'' (.slice e1 f1 g1) v.bits∧RdL 1 ZAt w'' (.slice e2 f2 g2) v.bytes∧RdL 2 (BAt d) w'' (.slice e3 f3 g3) v.subs
theorem B3y {β:Type}{l:List (VI β)}{x:Int}{k:Nat}{v:VI β}(h1:A0g (fun v:VI β=>decide (v.number=x)) l=(k:Int))(h2:l[k]?=some v):l.find? (isV x)=some v:=by
 rcases A2s (fun v:VI β=>decide (v.number=x)) l with⟨h,_⟩|⟨j,y,h3,h4,h5⟩
 ·rw[h] at h1
  omega
 ·rw[h3] at h1
  have:j=k:=by omega
  subst this
  rw[h4] at h2
  cases h2
  exact h5.1
theorem D6o {g:GI}{d:Nat}{W0 u w:World}(h0:Below W0.heap.size W0 u)(hu:Below u.heap.size u w){am:Option Addr}{nm cm:Nat}{ae:Option Addr}{ne ce:Nat}(hI:∀ j:Nat,j<g.msgs.length→WIn g am nm cm ae ne ce (j:Int) u){fs:List FI}{nam:List UInt8}{af ab:Option Addr}{nf cf nb cb:Nat}(hf:RdL 6 FAt u (.slice af nf cf) fs)(fok:∀ f∈fs,I64 f.number∧I64 f.choice)(fl:fs.length≤140737488355328){a0 a1:Option Addr}{n0 c0 n1 c1:Nat}{b:BI (d+1)}(hq:BRd d u (.slice a0 n0 c0) (.slice a1 n1 c1) b)(fe:BOk (d+1) b){z:VL (LB d)}(hz:OwnV (ekB d) (OwnB W0.heap.size d) w W0.heap.size z)(io:∀ k∈VL.fp (LB.fp d) z,u.heap.size≤k)(lj:(VL.fp (LB.fp d) z).Nodup)(ir:VOk (BOk d) (VL.pl (LB.pl d) z)){x:FI}(HS:Hid (x.many=false→x.kind=10→(∃ u,(BO.vals b).find? (isV z.number)=some u)→A8p g x))(hx:fs.find? (isF z.number)=some x)(hw:((BO.vals b).map (jW (jWB d))).sum+jW (jWB d) (VL.pl (LB.pl d) z)≤1000000000)
  (dy:x.many=false→x.kind=10→(∃ M,g.msgs.find? (isN x.type)=some M)∧∀ v,(v∈BO.vals b∨v=VL.pl (LB.pl d) z)→v.number=z.number→v.bits = []∧v.bytes = []∧∃ s,v.subs = [s]) :
  Calls Tryz.prog 48 #[.agg #[.slice am nm cm,.slice ae ne ce],.agg #[.string (S nam),.slice af nf cf,.slice ab nb cb],.agg #[.slice a0 n0 c0,.slice a1 n1 c1],.agg #[.int .i64 z.number,z.p1.v,z.p2.v,z.p3.v]] w fun e w'=>Below u.heap.size u w'∧WOut d w (.slice a0 n0 c0) (.slice a1 n1 c1) b (A2b g d fs x b (VL.pl (LB.pl d) z)) e w':=by
 obtain⟨r1,r2,r3⟩:=D0k hz
 obtain⟨V,HV⟩:∃ V,Hid (VL.pl (LB.pl d) z=V):=⟨_,rfl⟩
 rw[HV.out] at r1 r2 r3 ir hw dy ⊢
 have fu:Hid (V.number=z.number):=by show _=_;rw[←HV.out];rfl
 have HZ:Hid (OwnV (ekB d) (OwnB W0.heap.size d) w W0.heap.size z):=hz
 have ku:Hid (∀ k∈VL.fp (LB.fp d) z,u.heap.size≤k):=io
 clear io
 obtain⟨mu,bj,br,sv,⟨b1,m1,d1⟩,⟨b2,m2,d2⟩,⟨b3,m3,d3⟩⟩:=z
 have hx:fs.find? (isF mu)=some x:=hx
 have r1:RdL 1 UAt w (.slice b1 m1 d1) V.bits:=r1
 have r2:RdL 1 ZAt w (.slice b2 m2 d2) V.bytes:=r2
 have r3:RdL 2 (BAt d) w (.slice b3 m3 d3) V.subs:=r3
 have l1:=r1.len.1
 have l2:=r2.len.1
 have l3:=r3.len.1
 have kx:V.bits.length+V.bytes.length+V.subs.length≤1000000000:=by
  have h2:=A5t (fun s=>1+jWB d s) (fun _=>by omega) V.subs
  have h3:jW (jWB d) V≤1000000000:=by omega
  unfold jW at h3
  omega
 obtain⟨W5,fo⟩:∃ W5,Hid (W5=((((w.alloc (.cells #[.slice am nm cm,.slice ae ne ce] 25)).alloc (.cells #[.string (S nam),.slice af nf cf,.slice ab nb cb] 38)).alloc (.cells #[.slice a0 n0 c0,.slice a1 n1 c1] 29)).alloc (.cells #[.int .i64 mu,.slice b1 m1 d1,.slice b2 m2 d2,.slice b3 m3 d3] 62)).alloc (.cells #[.slice none 0 0,.slice none 0 0] 29)):=⟨_,rfl⟩
 obtain⟨x0,x1,x2,x3,x4,xz⟩:=D6t w (.cells #[.slice am nm cm,.slice ae ne ce] 25) (.cells #[.string (S nam),.slice af nf cf,.slice ab nb cb] 38) (.cells #[.slice a0 n0 c0,.slice a1 n1 c1] 29) (.cells #[.int .i64 mu,.slice b1 m1 d1,.slice b2 m2 d2,.slice b3 m3 d3] 62) (.cells #[.slice none 0 0,.slice none 0 0] 29)
 rw[←fo.out] at x0 x1 x2 x3 x4 xz
 have gj:Below w.heap.size w W5:=by rw[fo.out];exact(((((Below.refl _ _).alloc (Nat.le_refl _) _).alloc (by simp) _).alloc (by simp;omega) _).alloc (by simp;omega) _).alloc (by simp;omega) _
 have lx:w.heap.size+5≤W5.heap.size:=Nat.le_of_eq xz.symm
 clear xz
 have ee:∀ U F,FrB F W5 U→(∀ k∈F,k<w.heap.size∨k=w.heap.size+3∨W5.heap.size≤k)→(U.cell? ⟨w.heap.size,0,none⟩=some (.slice am nm cm)∧U.cell? ⟨w.heap.size,1,none⟩=some (.slice ae ne ce))∧(U.cell? ⟨w.heap.size+1,0,none⟩=some (.string (S nam))∧U.cell? ⟨w.heap.size+1,1,none⟩=some (.slice af nf cf)∧U.cell? ⟨w.heap.size+1,2,none⟩=some (.slice ab nb cb))∧(U.cell? ⟨w.heap.size+2,0,none⟩=some (.slice a0 n0 c0)∧U.cell? ⟨w.heap.size+2,1,none⟩=some (.slice a1 n1 c1))∧U.heap[w.heap.size+4]?=some (.cells #[.slice none 0 0,.slice none 0 0] 29 (0,0)):=fun U F hU hF=>by
  have hk:∀ i,i=0∨i=1∨i=2∨i=4→U.heap[w.heap.size+i]?=W5.heap[w.heap.size+i]?:=fun i hi=>hU.block _ (by omega) (.inl fun hm=>by have:=hF _ hm;omega)
  exact⟨A0r ((hk 0 (by omega)).trans x0),A5w ((hk 1 (by omega)).trans x1),A0r ((hk 2 (by omega)).trans x2),(hk 4 (by omega)).trans x4⟩
 have dw:∀ U,Below W5.heap.size W5 U→_:=fun U hU=>ee U [] (FrB.of_below hU) (fun k h=>by simp at h)
 obtain⟨K,HK⟩:∃ K:Int,Hid (((A1h V:Nat):Int)=K):=⟨_,rfl⟩
 have jf:∀ U,Calls Tryz.prog 105 #[.agg #[.int .i64 mu,.slice b1 m1 d1,.slice b2 m2 d2,.slice b3 m3 d3]] U fun e w'=>e = .returned (.int .i64 K)∧Below U.heap.size U w':=fun U=>by
  have:=B8f (w:=U) V l1 l2 l3 (c1:=d1) (c2:=d2) (c3:=d3) (a1:=b1) (a2:=b2) (a3:=b3) (by omega) mu
  rw[HK.out] at this
  exact this
 obtain⟨R,HR⟩:∃ R,Hid (A2b g d fs x b V=R):=⟨_,rfl⟩
 rw[HR.out]
 have eh:Below u.heap.size u W5:=BTr hu gj
 have io:=hu.size
 have fc:(BO.vals b).length≤1000000000:=by
  have:=A5t (jW (jWB d)) (fun v=>by unfold jW;omega) (BO.vals b)
  omega
 have fh:∀ (T:World) (V':VI (BI d)) (e1:Option Addr) (f1 g1:Nat) (e2:Option Addr) (f2 g2:Nat) (e3:Option Addr) (f3 g3:Nat),Below u.heap.size u T→V'.number=mu→RdL 1 UAt T (.slice e1 f1 g1) V'.bits→RdL 1 ZAt T (.slice e2 f2 g2) V'.bytes→RdL 2 (BAt d) T (.slice e3 f3 g3) V'.subs→VOk (BOk d) V'→Calls Tryz.prog 17 #[.agg #[.string (S nam),.slice af nf cf,.slice ab nb cb],.agg #[.slice a0 n0 c0,.slice a1 n1 c1],.agg #[.int .i64 mu,.slice e1 f1 g1,.slice e2 f2 g2,.slice e3 f3 g3]] T fun e w'=>∃ (c:LB (d+1)) (i0:Option Addr) (j0 l0:Nat) (i1:Option Addr) (j1 l1:Nat),e = .returned (.agg #[.slice i0 j0 l0,.slice i1 j1 l1])∧Hid (C0u (d+1) c = [.slice i0 j0 l0,.slice i1 j1 l1]∧LB.pl (d+1) c=(⟨A6v fs x (BO.vals b) V',BO.unk b⟩:BO (BI d))∧OwnB T.heap.size (d+1) w' c∧(LB.fp (d+1) c).Nodup)∧Below T.heap.size T w':=fun T V' e1 f1 g1 e2 f2 g2 e3 f3 g3 hT hn q1 q2 q3 ij=>by
  have:=D3g (s:=nam) (ab:=ab) (nb:=nb) (cb:=cb) (hf.below FAt.stays hT) fok fl (hq.below hT) fe (x:=x) (by rw[hn];exact hx) q1 q2 q3 ij (by omega)
  rw[hn] at this
  refine this.mono ?_
  rintro e w' ⟨c,i0,j0,l0,i1,j1,l1,h1,rfl,h2,h3,h4,h5⟩
  exact⟨c,i0,j0,l0,i1,j1,l1,rfl,⟨h1,h2,h3,h4⟩,h5⟩
 have gz:∀ U,Below u.heap.size u U→Calls Tryz.prog 18 #[.agg #[.slice a0 n0 c0,.slice a1 n1 c1],.int .i64 mu] U fun e w'=>E2i d U W0.heap.size (BO.vals b) mu e w'∧Below U.heap.size U w':=fun U hU=>B6e (Nat.le_trans h0.size hU.size) (hq.below hU) fe.1 mu
 have kg:Hid (∀ v∈BO.vals b,VQk (BQk d) v):=fun v hv=>D7v (fe.1 v hv)
 have f9:Hid (VOk (BOk d) V):=ir
 have ko:Hid (((BO.vals b).map (jW (jWB d))).sum+jW (jWB d) V≤1000000000):=hw
 have HF:Hid (RdL 6 FAt u (.slice af nf cf) fs):=hf
 have HX:Hid (fs.find? (isF mu)=some x):=hx
 have ke:Hid (∀ j:Nat,j<g.msgs.length→WIn g am nm cm ae ne ce (j:Int) u):=hI
 have ki:Hid _:=dy
 have fx:Hid (RdL 1 UAt w (.slice b1 m1 d1) V.bits∧RdL 1 ZAt w (.slice b2 m2 d2) V.bytes∧RdL 2 (BAt d) w (.slice b3 m3 d3) V.subs):=⟨r1,r2,r3⟩
 have j9:Hid (∀ v∈BO.vals b,VOk (BOk d) v):=fe.1
 clear hf fok fl hq fe hx hI dy r1 r2 r3 ir hw kx fc l1 l2 l3 hz
 have fd:=jf W5
 obtain⟨⟨t0,t1⟩,⟨t2,t3,t4⟩,⟨t5,t6⟩,y4⟩:=dw W5 (Below.refl _ _)
 obtain⟨s0,s1,s2,s3⟩:=A4i x3
 unfold PV.v
 by_cases hK0:K=0
 ·have HT:Hid (R = .ok b):=by show _=_;rw[←HR.out];unfold A2b;rw[if_pos (by have:=HK.out;omega)]
  subst hK0
  go_enter Tryz.func48,Tryz.ntmps48
  go_upto_region 1 with fail
  rw[←fo.out]
  go_wp2_with fail
  refine fd.mono ?_
  rintro e w6 ⟨rfl,dl⟩
  clear t0 t1 t2 t3 t4 t5 t6 y4 s0 s1 s2 s3
  obtain⟨⟨t0,t1⟩,⟨t2,t3,t4⟩,⟨t5,t6⟩,y4⟩:=dw w6 dl
  obtain⟨p0,p1⟩:=A0r y4
  have bt:=A0b y4
  have ly:¬ w.heap.size+2=w.heap.size+4:=by omega
  have hzz:=dl.size
  go_wp2_with fail
  refine bodyPost_ret (v:=.tuple #[.agg #[.slice a0 n0 c0,.slice a1 n1 c1],.int .i64 0]) (by simp[results,Tryz.results48,go_sem, *]) rfl ?_
  refine⟨KB_set (KB_set (BTr eh dl) (by omega)) (by omega),?_⟩
  rw[HT.out]
  exact .inl ⟨rfl,rfl⟩
 ·have lr:(K==0)=false:=by simpa using hK0
  go_enter Tryz.func48,Tryz.ntmps48
  go_upto_region 1 with fail
  rw[←fo.out]
  go_wp2_with fail
  refine fd.mono ?_
  rintro e w6 ⟨rfl,dl⟩
  clear t0 t1 t2 t3 t4 t5 t6 y4 s0 s1 s2 s3
  obtain⟨⟨t0,t1⟩,⟨t2,t3,t4⟩,⟨t5,t6⟩,y4⟩:=dw w6 dl
  have jz:=(dl.block (w.heap.size+3) (by omega)).trans x3
  obtain⟨s0,s1,s2,s3⟩:=A4i jz
  have g9:=gz w6 (BTr eh dl)
  have ln:=dl.size
  go_wp2_with fail
  refine g9.mono ?_
  rintro e w7 ⟨g8,je⟩
  have et:Below W5.heap.size W5 w7:=BTr dl je
  have lp:=je.size
  clear t0 t1 t2 t3 t4 t5 t6 y4 s0 s1 s2 s3 jz
  rcases g8 with⟨hno,rfl⟩|⟨k,V0,hk1,hk2,hk3,y,q0,x1',y1',z1',x2',y2',z2',x3',y3',z3',fw,rfl,hyp,hyo,hyb,hyn⟩
  ·have HT:Hid (R=if 60<K then .error 5 else .ok ⟨A6v fs x (BO.vals b) V,BO.unk b⟩):=by
    show _=_
    have ky:(BO.vals b).find? (isV V.number)=none:=by
     rw[List.find?_eq_none]
     intro v hv
     have:=hno v hv
     rw[fu.out]
     simpa [isV] using this
    rw[←HR.out]
    unfold A2b
    rw[if_neg (by have:=HK.out;omega),ky]
    show(if 60<A1h V then _ else _)=_
    have:=HK.out
    by_cases h:60<A1h V
    ·rw[if_pos h,if_pos (by omega)]
    ·rw[if_neg h,if_neg (by omega)]
   clear hno
   go_upto_region 9 with fail
   obtain⟨T,iw⟩:∃ T,Hid (T=w7.alloc (.cells #[.int .i64 0,.slice none 0 0,.slice none 0 0,.slice none 0 0] 62)):=⟨_,rfl⟩
   rw[←iw.out]
   have gl:Below w7.heap.size w7 T:=by rw[iw.out];exact(Below.refl _ _).alloc (Nat.le_refl _) _
   have d9:Below W5.heap.size W5 T:=BTr et gl
   have lf:Below u.heap.size u T:=BTr eh d9
   have j5:=(d9.block (w.heap.size+3) (by omega)).trans x3
   have dv:Below w.heap.size w T:=BTr gj d9
   have dx:=jf T
   obtain⟨⟨t0,t1⟩,⟨t2,t3,t4⟩,⟨t5,t6⟩,y4⟩:=ee T _ (FrB.of_below d9:FrB [] W5 T) (fun k h=>by simp at h)
   obtain⟨s0,s1,s2,s3⟩:=A4i j5
   go_wp2_with fail
   refine dx.mono ?_
   rintro e w8 ⟨rfl,bu⟩
   have gu:=((FrB.of_below d9:FrB [] W5 T)).on bu
   have li:=((FrB.of_below d9:FrB [] W5 T)).size
   have lh:=bu.size
   have ip:=(bu.block (w.heap.size+3) (by omega)).trans j5
   have dp:Below u.heap.size u w8:=BTr lf bu
   clear t0 t1 t2 t3 t4 t5 t6 y4 s0 s1 s2 s3
   obtain⟨⟨t0,t1⟩,⟨t2,t3,t4⟩,⟨t5,t6⟩,y4⟩:=ee w8 _ gu (fun k h=>by simp at h)
   obtain⟨s0,s1,s2,s3⟩:=A4i ip
   obtain⟨p0,p1⟩:=A0r y4
   have bt:=A0b y4
   by_cases h60:60<K
   ·have df:Hid (R = .error 5):=by show _=_;rw[HT.out,if_pos h60]
    go_wp2_with fail
    refine bodyPost_ret (v:=.tuple #[.agg #[.slice none 0 0,.slice none 0 0],.int .i64 5]) (by simp[results,Tryz.results48,go_sem, *]) rfl ?_
    refine⟨?_,?_⟩
    ·first|exact dp|exact KB_set (KB_set dp (by omega)) (by omega)
    ·rw[df.out]
     exact⟨by omega,rfl⟩
   ·have df:Hid (R = .ok ⟨A6v fs x (BO.vals b) V,BO.unk b⟩):=by show _=_;rw[HT.out,if_neg h60]
    obtain⟨ra,rb,rc⟩:=(⟨fx.out.1.below UAt.stays dv,fx.out.2.1.below ZAt.stays dv,fx.out.2.2.below (BAt.stays d) dv⟩:_∧_∧_)
    have hst:=fh w8 V b1 m1 d1 b2 m2 d2 b3 m3 d3 dp fu.out (ra.below UAt.stays bu) (rb.below ZAt.stays bu) (rc.below (BAt.stays d) bu) f9.out
    go_wp2_with fail
    refine hst.mono ?_
    rintro e w9 ⟨c,i0,j0,l0,i1,j1,l1,rfl,HC,ew⟩
    have dz:=(ew.block (w.heap.size+4) (by omega)).trans y4
    clear p0 p1 bt
    obtain⟨p0,p1⟩:=A0r dz
    have bt:=A0b dz
    go_wp2_with fail
    refine bodyPost_ret (v:=.tuple #[.agg #[.slice i0 j0 l0,.slice i1 j1 l1],.int .i64 0]) (by simp[results,Tryz.results48,go_sem, *]) rfl ?_
    refine⟨KB_set (KB_set (BTr dp ew) (by omega)) (by omega),?_⟩
    rw[df.out]
    obtain⟨h1,h2,h3,h4⟩:=HC.out
    refine .inr ⟨c,i0,j0,l0,i1,j1,l1,h1,rfl,h2,OwnB.fr (d+1) [w.heap.size+4] _ _ _ (OwnB.mono (d+1) h3 (by omega)) (fr2 dz) (fun k hk hm=>?_),h4⟩
    have:=(OwnB.inB (d+1) h3 k hk).1
    rw[List.mem_singleton] at hm
    omega
  ·
   have ii:y.number=mu:=by rw[←hk3,←hyp];rfl
   obtain⟨nu,bv,bw,bq,⟨ah,aj,ak⟩,⟨au,aw,a8⟩,⟨bg,bh,bk⟩⟩:=y
   have fw : [Value.int .i64 nu,Value.slice ah aj ak,Value.slice au aw a8,Value.slice bg bh bk] = [.int .i64 q0,.slice x1' y1' z1',.slice x2' y2' z2',.slice x3' y3' z3']:=fw
   have ii:mu=nu:=ii.symm
   simp only[List.cons.injEq,Value.int.injEq,Value.slice.injEq,true_and,and_true] at fw
   obtain⟨rfl,⟨rfl,rfl,rfl⟩,⟨rfl,rfl,rfl⟩,⟨rfl,rfl,rfl⟩⟩:=fw
   subst ii
   have hv0:V0∈BO.vals b:=List.mem_of_getElem? hk2
   have gy:(BO.vals b).find? (isV V.number)=some V0:=by
    rw[fu.out]
    exact B3y hk1 hk2
   have kj:Hid (x.many=false→x.kind=10→A8p g x):=fun hm hk=>HS.out hm hk ⟨V0,by rw[←fu.out];exact gy⟩
   obtain⟨Rm,fy⟩:∃ Rm,Hid (D2w g d x V0 V=Rm):=⟨_,rfl⟩
   have HT:Hid (R=E2w fs x b Rm):=by
    show _=_
    rw[←HR.out,←fy.out]
    exact C7k (by have:=HK.out;omega) gy
   have ft:Hid _:=hyp
   have iz:Hid _:=hyo
   have kt:Hid _:=hyn
   have fq:Hid _:=hyb
   have fz:Hid (V0∈BO.vals b):=hv0
   have iy:Hid (jW (jWB d) V0+jW (jWB d) V≤1000000000):=by
    show _≤_
    have h1:=B7e (jW (jWB d)) hv0
    have h2:=ko.out
    omega
   obtain⟨kf,ja,hK2⟩:=C2q (show fs.find? (fun f=>decide (f.number=mu))=some x from HX.out)
   obtain⟨bf,of,rfl,gw⟩:=HF.out.get FAt.plain hK2
   have lw:(kf:Int)<(nf:Int):=by have:=(List.getElem?_eq_some_iff.1 hK2).1;have:=HF.out.len.1;omega
   have k9:¬ (kf:Int)<0:=by omega
   obtain⟨y0,y1,y2,y3,y4,y5⟩:=gw
   rw[A0d] at y1 y2 y3 y4 y5
   have lu:=C6b y0
   have hzl:=fun k hk=>And.intro (ku.out k hk) (HZ.out.lt k hk).2
   clear hk1 hk2 hk3 hyp hyo hyn hyb hv0 gy
   go_upto_region 6 with fail
   obtain⟨W9,f6⟩:∃ W9,Hid (W9=w7.alloc (.cells #[.int .i64 mu,.slice ah aj ak,.slice au aw a8,.slice bg bh bk] 62)):=⟨_,rfl⟩
   rw[←f6.out]
   obtain⟨i6,lz⟩:W9.heap[w7.heap.size]?=some (.cells #[.int .i64 mu,.slice ah aj ak,.slice au aw a8,.slice bg bh bk] 62 (0,0))∧w7.heap.size+1≤W9.heap.size:=by
    rw[f6.out]
    exact D8b _ _
   have eu:Below w7.heap.size w7 W9:=by rw[f6.out];exact(Below.refl _ _).alloc (Nat.le_refl _) _
   have cg:Below W5.heap.size W5 W9:=BTr et eu
   have dr:Below u.heap.size u W9:=BTr eh cg
   have lg:Below w.heap.size w W9:=BTr gj cg
   have iq:=(cg.block (w.heap.size+3) (by omega)).trans x3
   have jm:=iz.out.lt
   have nI:∀ k,k∈VL.fp (LB.fp d) (⟨mu,bv,bw,bq,(ah,aj,ak),(au,aw,a8),(bg,bh,bk)⟩:VL (LB d))++VL.fp (LB.fp d) (⟨mu,bj,br,sv,(b1,m1,d1),(b2,m2,d2),(b3,m3,d3)⟩:VL (LB d))++[w.heap.size+3]→u.heap.size≤k∧(k<w.heap.size∨k=w.heap.size+3∨W5.heap.size≤k)∧k<W9.heap.size∧k≠w7.heap.size:=fun k hk=>by
    rcases List.mem_append.1 hk with hk|hk
    ·rcases List.mem_append.1 hk with hk|hk
     ·have h1:=fq.out k hk
      have h2:=jm k hk
      omega
     ·have h2:=hzl k hk
      omega
    ·rw[List.mem_singleton] at hk
     omega
   obtain⟨Q6,dt⟩:∃ Q6:World→Prop,Hid (∀ V,Q6 V↔∀ k,k<W9.heap.size→k∉VL.fp (LB.fp d) (⟨mu,bv,bw,bq,(ah,aj,ak),(au,aw,a8),(bg,bh,bk)⟩:VL (LB d))++VL.fp (LB.fp d) (⟨mu,bj,br,sv,(b1,m1,d1),(b2,m2,d2),(b3,m3,d3)⟩:VL (LB d))++[w.heap.size+3]→V.heap[k]?=W9.heap[k]?):=⟨_,fun _=>Iff.rfl⟩
   have ac:∀ V,Q6 V→(V.cell? ⟨w.heap.size,0,none⟩=some (.slice am nm cm)∧V.cell? ⟨w.heap.size,1,none⟩=some (.slice ae ne ce)∧V.cell? ⟨w.heap.size+1,0,none⟩=some (.string (S nam))∧V.cell? ⟨w.heap.size+1,1,none⟩=some (.slice (some ⟨bf,of,none⟩) nf cf)∧V.cell? ⟨w.heap.size+1,2,none⟩=some (.slice ab nb cb))∧(V.cell? ⟨bf,of+kf*6,none⟩=some (.string (S x.name))∧V.cell? ⟨bf,of+kf*6+1,none⟩=some (.int .i64 x.number)∧V.cell? ⟨bf,of+kf*6+2,none⟩=some (.int .i64 x.kind)∧V.cell? ⟨bf,of+kf*6+3,none⟩=some (.string (S x.type))∧V.cell? ⟨bf,of+kf*6+4,none⟩=some (.bool x.many)∧V.cell? ⟨bf,of+kf*6+5,none⟩=some (.int .i64 x.choice))∧V.cell? ⟨w7.heap.size,0,none⟩=some (.int .i64 mu)∧V.cell? ⟨w7.heap.size,1,none⟩=some (.slice ah aj ak)∧V.cell? ⟨w7.heap.size,2,none⟩=some (.slice au aw a8)∧V.cell? ⟨w7.heap.size,3,none⟩=some (.slice bg bh bk):=fun V hV=>by
    have q1:=(dt.out V).1 hV
    obtain⟨e0,e1⟩:=A0r ((q1 (w.heap.size) (by omega) (fun h=>by have:=nI _ h;omega)).trans ((cg.block _ (by omega)).trans x0))
    obtain⟨e2,e3,e4⟩:=A5w ((q1 (w.heap.size+1) (by omega) (fun h=>by have:=nI _ h;omega)).trans ((cg.block _ (by omega)).trans x1))
    have c1:=B8d (q1 bf (by have:=dr.size;omega) (fun h=>by have:=(nI _ h).1;omega))
    refine⟨⟨e0,e1,e2,e3,e4⟩,⟨?_,?_,?_,?_,?_,?_⟩,A4i ((q1 w7.heap.size (by omega) (fun h=>(nI _ h).2.2.2 rfl)).trans i6)⟩
    ·rw[c1];exact A0c dr y0
    ·rw[c1];exact A0c dr y1
    ·rw[c1];exact A0c dr y2
    ·rw[c1];exact A0c dr y3
    ·rw[c1];exact A0c dr y4
    ·rw[c1];exact A0c dr y5
   have jb:Q6 W9.drew:=(dt.out _).2 fun _ _ _=>rfl
   have cw:=A3g (HF.out.below FAt.stays (dr.drew)) ⟨ab,nb,cb,rfl⟩ ⟨nam,rfl⟩ mu
   rw[ja] at cw
   have cj:∀ V3,Below W9.drew.heap.size W9.drew V3→Q6 V3:=fun V3 hV=>(dt.out _).2 fun k hk _=>hV.block k hk
   have cu:∀ V3,Below W9.drew.heap.size W9.drew V3→V3.heap[w.heap.size+3]?=some (.cells #[.int .i64 mu,.slice b1 m1 d1,.slice b2 m2 d2,.slice b3 m3 d3] 62 (0,0)):=fun V3 hV=>(hV.block _ (show w.heap.size+3<W9.heap.size by omega)).trans iq
   have di:∀ V3 V4,Below W9.drew.heap.size W9.drew V3→FrB (VL.fp (LB.fp d) (⟨mu,bv,bw,bq,(ah,aj,ak),(au,aw,a8),(bg,bh,bk)⟩:VL (LB d))++VL.fp (LB.fp d) (⟨mu,bj,br,sv,(b1,m1,d1),(b2,m2,d2),(b3,m3,d3)⟩:VL (LB d))) V3 V4→V4.heap[w.heap.size+3]?=some (.cells #[.int .i64 mu,.slice b1 m1 d1,.slice b2 m2 d2,.slice b3 m3 d3] 62 (0,0)):=fun V3 V4 h3 h4=>(h4.blk (by have:=h3.size;have e:W9.drew.heap.size=W9.heap.size:=rfl;omega) (fun h=>by
    rcases List.mem_append.1 h with h|h
    ·have:=fq.out _ h;omega
    ·have:=hzl _ h;omega)).trans (cu V3 h3)
   have dg:∀ V3 V4,Below W9.drew.heap.size W9.drew V3→FrB (VL.fp (LB.fp d) (⟨mu,bv,bw,bq,(ah,aj,ak),(au,aw,a8),(bg,bh,bk)⟩:VL (LB d))++VL.fp (LB.fp d) (⟨mu,bj,br,sv,(b1,m1,d1),(b2,m2,d2),(b3,m3,d3)⟩:VL (LB d))) V3 V4→Q6 V4:=fun V3 V4 h3 h4=>(dt.out _).2 fun k hk hn=>(h4.blk (by have:=h3.size;have e:W9.drew.heap.size=W9.heap.size:=rfl;omega) (fun h=>hn (List.mem_append_left _ h))).trans ((dt.out _).1 (cj V3 h3) k hk hn)
   have dh:∀ V4 x0 x1 x2 x3,Q6 V4→V4.heap[w.heap.size+3]?=some (.cells #[.int .i64 mu,.slice b1 m1 d1,.slice b2 m2 d2,.slice b3 m3 d3] 62 (0,0))→W9.heap.size≤V4.heap.size→Q6 ((((V4.setCell ⟨w.heap.size+3,0,none⟩ x0).setCell ⟨w.heap.size+3,1,none⟩ x1).setCell ⟨w.heap.size+3,2,none⟩ x2).setCell ⟨w.heap.size+3,3,none⟩ x3):=fun V4 x0 x1 x2 x3 hV hT hs=>(dt.out _).2 fun k hk hn=>((fr4 hT).blk (by omega) (fun h=>hn (List.mem_append_right _ h))).trans ((dt.out _).1 hV k hk hn)
   have dn:∀ V3,Below W9.drew.heap.size W9.drew V3→Calls Tryz.prog 106 #[.agg #[.slice am nm cm,.slice ae ne ce],.agg #[.string (S x.name),.int .i64 x.number,.int .i64 x.kind,.string (S x.type),.bool x.many,.int .i64 x.choice],.agg #[.int .i64 mu,.slice ah aj ak,.slice au aw a8,.slice bg bh bk],.agg #[.int .i64 mu,.slice b1 m1 d1,.slice b2 m2 d2,.slice b3 m3 d3]] V3 fun e w'=>∃ (e1:Option Addr) (f1 g1:Nat) (e2:Option Addr) (f2 g2:Nat) (e3:Option Addr) (f3 g3:Nat) (E:Int),e = .returned (.tuple #[.agg #[.int .i64 mu,.slice e1 f1 g1,.slice e2 f2 g2,.slice e3 f3 g3],.int .i64 E])∧Hid (MRd (VL.fp (LB.fp d) (⟨mu,bv,bw,bq,(ah,aj,ak),(au,aw,a8),(bg,bh,bk)⟩:VL (LB d))++VL.fp (LB.fp d) (⟨mu,bj,br,sv,(b1,m1,d1),(b2,m2,d2),(b3,m3,d3)⟩:VL (LB d))) W9 w' mu e1 f1 g1 e2 f2 g2 e3 f3 g3 E Rm)∧FrB (VL.fp (LB.fp d) (⟨mu,bv,bw,bq,(ah,aj,ak),(au,aw,a8),(bg,bh,bk)⟩:VL (LB d))++VL.fp (LB.fp d) (⟨mu,bj,br,sv,(b1,m1,d1),(b2,m2,d2),(b3,m3,d3)⟩:VL (LB d))) V3 w':=fun V3 kv=>by
    have dm:Below W9.heap.size W9 V3:=BTr (Below.refl _ _).drew kv
    have hw3:Below w.heap.size w V3:=BTr lg dm
    have jk:Below u.heap.size u V3:=BTr dr dm
    have kz:MetIn d W0 V3 (⟨mu,bv,bw,bq,(ah,aj,ak),(au,aw,a8),(bg,bh,bk)⟩:VL (LB d)) (⟨mu,bj,br,sv,(b1,m1,d1),(b2,m2,d2),(b3,m3,d3)⟩:VL (LB d)):=by
     refine⟨BTr h0 jk,(iz.out.below eu).below dm,HZ.out.below hw3,fun k=>?_,?_⟩
     ·have h1:=List.nodup_iff_count.1 kt.out k
      have h2:=List.nodup_iff_count.1 lj k
      by_cases h3:0<(VL.fp (LB.fp d) (⟨mu,bv,bw,bq,(ah,aj,ak),(au,aw,a8),(bg,bh,bk)⟩:VL (LB d))).count k
      ·by_cases h4:0<(VL.fp (LB.fp d) (⟨mu,bj,br,sv,(b1,m1,d1),(b2,m2,d2),(b3,m3,d3)⟩:VL (LB d))).count k
       ·have:=fq.out k (List.count_pos_iff.1 h3)
        have:=hzl k (List.count_pos_iff.1 h4)
        omega
       ·omega
      ·omega
     ·rw[ft.out,HV.out]
      exact iy.out
    refine(D3h kz x kj.out rfl (fun j hj=>(ke.out j hj).below jk) (fun hm hk=>?_)).mono ?_
    ·obtain⟨h1,h2⟩:=ki.out hm hk
     obtain⟨g1,g2,s,g3⟩:=h2 V0 (.inl fz.out) (by rw[←ft.out];rfl)
     obtain⟨g4,g5,t,g6⟩:=h2 V (.inr rfl) (by rw[←HV.out];rfl)
     have jn:=j9.out V0 fz.out
     have oV:=f9.out
     rw[←ft.out] at g1 g2 g3 jn
     rw[←HV.out] at g4 g5 g6 oV
     obtain⟨s',hs',ik⟩:=C3c (show bq.map (LB.pl d) = [s] from g3)
     obtain⟨t',ld,il⟩:=C3c (show sv.map (LB.pl d) = [t] from g6)
     refine⟨h1,g1,List.map_eq_nil_iff.1 g2,g4,List.map_eq_nil_iff.1 g5,s',t',hs',ld,?_,?_⟩
     ·rw[ik]
      exact jn.2.2.2.2.2.1 s (by rw[g3];simp)
     ·rw[il]
      exact oV.2.2.2.2.2.1 t (by rw[g6];simp)
    ·rintro e w' ⟨e1,f1,g1,e2,f2,g2,e3,f3,g3,E,rfl,bp,hm⟩
     refine⟨e1,f1,g1,e2,f2,g2,e3,f3,g3,E,rfl,?_,bp⟩
     rw[ft.out,HV.out,fy.out] at hm
     show MRd (VL.fp (LB.fp d) (⟨mu,bv,bw,bq,(ah,aj,ak),(au,aw,a8),(bg,bh,bk)⟩:VL (LB d))++VL.fp (LB.fp d) (⟨mu,bj,br,sv,(b1,m1,d1),(b2,m2,d2),(b3,m3,d3)⟩:VL (LB d))) _ _ _ _ _ _ _ _ _ _ _ _ _ Rm
     cases Rm with
     | error E'=>exact hm
     | ok v=>exact⟨hm.1,hm.2.1,fun w'' ⟨G,hG,i7⟩=>hm.2.2 w'' ⟨G,hG,fun k hk=>⟨by have h1:=(i7 k hk).1;have h2:=dm.size;omega,(i7 k hk).2⟩⟩⟩
   obtain⟨s0,s1,s2,s3⟩:=A4i iq
   clear y0 y1 y2 y3 y4 y5 ja
   go_cut [12] from 25 to 39 (fun s12 wc=>∃ (e1:Option Addr) (f1 g1:Nat) (e2:Option Addr) (f2 g2:Nat) (e3:Option Addr) (f3 g3:Nat) (E:Int) (ei:World),s12 = .int .i64 E∧Hid (MRd (VL.fp (LB.fp d) (⟨mu,bv,bw,bq,(ah,aj,ak),(au,aw,a8),(bg,bh,bk)⟩:VL (LB d))++VL.fp (LB.fp d) (⟨mu,bj,br,sv,(b1,m1,d1),(b2,m2,d2),(b3,m3,d3)⟩:VL (LB d))) W9 ei mu e1 f1 g1 e2 f2 g2 e3 f3 g3 E Rm)∧FrB (VL.fp (LB.fp d) (⟨mu,bv,bw,bq,(ah,aj,ak),(au,aw,a8),(bg,bh,bk)⟩:VL (LB d))++VL.fp (LB.fp d) (⟨mu,bj,br,sv,(b1,m1,d1),(b2,m2,d2),(b3,m3,d3)⟩:VL (LB d))) W9 ei∧wc.heap[w.heap.size+3]?=some (.cells #[.int .i64 mu,.slice e1 f1 g1,.slice e2 f2 g2,.slice e3 f3 g3] 62 (0,0))∧FrB [w.heap.size+3] ei wc)
   case first=>
    refine wp_region_held_drew (S:=Q6) (by kernel_rfl) jb (fun hHeld=>?_)
    refine tK (i:=0) (v:=?vr1) rfl ⟨by rfl,?hyr1⟩ ?_
    case hyr1=>(intro W h;have:=ac W h;go_simp;first|done|with_reducible rfl)
    try simp only[pT,Act.put]
    refine tK (i:=1) (v:=?vr2) rfl ⟨by rfl,?hyr2⟩ ?_
    case hyr2=>(intro W h;have:=ac W h;go_simp;first|done|with_reducible rfl)
    try simp only[pT,Act.put]
    refine tK (i:=2) (v:=?vr3) rfl ⟨by rfl,?hyr3⟩ ?_
    case hyr3=>(intro W h;have:=ac W h;go_simp;first|done|with_reducible rfl)
    try simp only[pT,Act.put]
    refine tK (i:=3) (v:=?vr4) rfl ⟨by rfl,?hyr4⟩ ?_
    case hyr4=>(intro W h;have:=ac W h;go_simp;first|done|with_reducible rfl)
    try simp only[pT,Act.put]
    refine tK (i:=4) (v:=?vr5) rfl ⟨by rfl,?hyr5⟩ ?_
    case hyr5=>(intro W h;have:=ac W h;go_simp;first|done|with_reducible rfl)
    try simp only[pT,Act.put]
    refine tK (i:=9) (v:=?vr6) rfl ⟨by rfl,?hyr6⟩ ?_
    case hyr6=>(intro W h;have:=ac W h;go_simp;first|done|with_reducible rfl)
    try simp only[pT,Act.put]
    refine rB (i:=5) (j:=10) rfl (fun K hK=>?_) rfl fun K hK=>?_
    ·skip
     go_simp
     refine hK.out _ _ ?_ (fun hHeld=>?_)
     ·(try dsimp only);with_reducible assumption
     clear hK K
     try simp only[pT,Act.put]
     refine rB (i:=6) (j:=10) rfl (fun K hK=>?_) rfl fun K hK=>?_
     rotate_right
     focus
      skip
      go_simp
      refine hK.out _ _ ?_ (fun hHeld=>?_)
      ·(try dsimp only);with_reducible assumption
      clear hK K
      try simp only[pT,Act.put]
      refine rA (i:=6) rfl fun K hK=>?_
      go_simp
      refine cw.mono ?_
      rintro e V3 ⟨rfl,hb3⟩
      have jc:=cj V3 hb3
      have fj:=cu V3 hb3
      obtain⟨jo,jp,jq,t33⟩:=A4i fj
      refine hK.out _ _ ?_ (fun hHeld=>?_)
      ·(try dsimp only);with_reducible assumption
      clear hK K
      try simp only[pT,Act.put]
      refine tK (i:=7) (v:=?vr12) rfl ⟨by rfl,?hyr12⟩ ?_
      case hyr12=>(intro W h;have:=ac W h;go_simp;first|done|with_reducible rfl)
      try simp only[pT,Act.put]
      refine tK (i:=8) (v:=?vr13) rfl ⟨by rfl,?hyr13⟩ ?_
      case hyr13=>(intro W h;have:=ac W h;go_simp;first|done|with_reducible rfl)
      try simp only[pT,Act.put]
      refine rA (i:=11) rfl fun K hK=>?_
      go_simp
      refine(dn V3 hb3).mono ?_
      rintro e V4 ⟨e1,f1,g1,e2,f2,g2,e3,f3,g3,E,rfl,HM,bp⟩
      have eo:=dg V3 V4 hb3 bp
      have ag:=di V3 V4 hb3 bp
      obtain⟨jr,js,jt,ju⟩:=A4i ag
      have jv:=A0b ag 0
      have jw:=A0b ag 1
      have jx:=A0b ag 2
      have jy:=A0b ag 3
      have j6:=hb3.size
      have j7:=bp.size
      have j8:W9.heap.size≤W9.drew.heap.size:=Nat.le_refl _
      have jd:=dh V4 (.int .i64 mu) (.slice e1 f1 g1) (.slice e2 f2 g2) (.slice e3 f3 g3) eo ag (by omega)
      refine hK.out _ _ ?_ (fun hHeld=>?_)
      ·(try dsimp only);with_reducible assumption
      clear hK K
      try simp only[pT,Act.put]
      refine tK (i:=12) (v:=?vr14) rfl ⟨by rfl,?hyr14⟩ ?_
      case hyr14=>(intro W h;have:=ac W h;go_simp;first|done|with_reducible rfl)
      try simp only[pT,Act.put]
      refine tK (i:=13) (v:=?vr15) rfl ⟨by rfl,?hyr15⟩ ?_
      case hyr15=>(intro W h;have:=ac W h;go_simp;first|done|with_reducible rfl)
      try simp only[pT,Act.put]
      refine tK (i:=14) (v:=?vr16) rfl ⟨by rfl,?hyr16⟩ ?_
      case hyr16=>(intro W h;have:=ac W h;go_simp;first|done|with_reducible rfl)
     rotate_right
     focus
      skip
      go_simp
      refine cw.mono ?_
      rintro e V3 ⟨rfl,hb3⟩
      have jc:=cj V3 hb3
      have fj:=cu V3 hb3
      obtain⟨jo,jp,jq,t33⟩:=A4i fj
      refine hK.out _ _ ?_ (fun hHeld=>?_)
      ·(try dsimp only);with_reducible assumption
      clear hK K
      try simp only[pT,Act.put]
      refine tK (i:=7) (v:=?vr7) rfl ⟨by rfl,?hyr7⟩ ?_
      case hyr7=>(intro W h;have:=ac W h;go_simp;first|done|with_reducible rfl)
      try simp only[pT,Act.put]
      refine tK (i:=8) (v:=?vr8) rfl ⟨by rfl,?hyr8⟩ ?_
      case hyr8=>(intro W h;have:=ac W h;go_simp;first|done|with_reducible rfl)
      try simp only[pT,Act.put]
      refine rA (i:=10) rfl fun K hK=>?_
      go_simp
      refine hK.out _ _ ?_ (fun hHeld=>?_)
      ·(try dsimp only);with_reducible assumption
      clear hK K
      try simp only[pT,Act.put]
      refine rA (i:=11) rfl fun K hK=>?_
      go_simp
      refine(dn V3 hb3).mono ?_
      rintro e V4 ⟨e1,f1,g1,e2,f2,g2,e3,f3,g3,E,rfl,HM,bp⟩
      have eo:=dg V3 V4 hb3 bp
      have ag:=di V3 V4 hb3 bp
      obtain⟨jr,js,jt,ju⟩:=A4i ag
      have jv:=A0b ag 0
      have jw:=A0b ag 1
      have jx:=A0b ag 2
      have jy:=A0b ag 3
      have j6:=hb3.size
      have j7:=bp.size
      have j8:W9.heap.size≤W9.drew.heap.size:=Nat.le_refl _
      have jd:=dh V4 (.int .i64 mu) (.slice e1 f1 g1) (.slice e2 f2 g2) (.slice e3 f3 g3) eo ag (by omega)
      refine hK.out _ _ ?_ (fun hHeld=>?_)
      ·(try dsimp only);with_reducible assumption
      clear hK K
      try simp only[pT,Act.put]
      refine tK (i:=12) (v:=?vr9) rfl ⟨by rfl,?hyr9⟩ ?_
      case hyr9=>(intro W h;have:=ac W h;go_simp;first|done|with_reducible rfl)
      try simp only[pT,Act.put]
      refine tK (i:=13) (v:=?vr10) rfl ⟨by rfl,?hyr10⟩ ?_
      case hyr10=>(intro W h;have:=ac W h;go_simp;first|done|with_reducible rfl)
      try simp only[pT,Act.put]
      refine tK (i:=14) (v:=?vr11) rfl ⟨by rfl,?hyr11⟩ ?_
      case hyr11=>(intro W h;have:=ac W h;go_simp;first|done|with_reducible rfl)
     all_goals
      try simp only[pT,Act.put]
      refine rA (i:=15) rfl fun K hK=>?_
      go_simp
      refine hK.out _ _ ?_ (fun hHeld=>?_)
      ·(try dsimp only);with_reducible assumption
      clear hK K
      try simp only[pT,Act.put]
      refine rA (i:=16) rfl fun K hK=>?_
      go_simp
      refine hK.out _ _ ?_ (fun hHeld=>?_)
      ·(try dsimp only);with_reducible assumption
      clear hK K
      try simp only[pT,Act.put]
      refine wpAnyH_done (by kernel_rfl) ?_ _
      go_wp2_with fail
      go_meet
      refine⟨e1,f1,g1,e2,f2,g2,e3,f3,g3,E,V4,rfl,HM,?_,?_,?_⟩
      ·exact(FrB.of_below (BTr (Below.refl _ W9).drew hb3):FrB [] W9 V3).trans bp (fun _ hi=>by simp at hi) (fun _ hi=>.inl hi)
      ·exact heap_setCell_same _ _ 3 _ _ _ (heap_setCell_same _ _ 2 _ _ _ (heap_setCell_same _ _ 1 _ _ _ (heap_setCell_same _ _ 0 _ _ _ ag)))
      ·exact fr4 ag
    ·skip
     go_simp
     refine hK.out _ _ ?_ (fun hHeld=>?_)
     ·(try dsimp only);with_reducible assumption
     clear hK K
     try simp only[pT,Act.put]
     refine rA (i:=5) rfl fun K hK=>?_
     go_simp
     refine hK.out _ _ ?_ (fun hHeld=>?_)
     ·(try dsimp only);with_reducible assumption
     clear hK K
     try simp only[pT,Act.put]
     refine rA (i:=6) rfl fun K hK=>?_
     go_simp
     refine cw.mono ?_
     rintro e V3 ⟨rfl,hb3⟩
     have jc:=cj V3 hb3
     have fj:=cu V3 hb3
     obtain⟨jo,jp,jq,t33⟩:=A4i fj
     refine hK.out _ _ ?_ (fun hHeld=>?_)
     ·(try dsimp only);with_reducible assumption
     clear hK K
     try simp only[pT,Act.put]
     refine tK (i:=7) (v:=?vr17) rfl ⟨by rfl,?hyr17⟩ ?_
     case hyr17=>(intro W h;have:=ac W h;go_simp;first|done|with_reducible rfl)
     try simp only[pT,Act.put]
     refine tK (i:=8) (v:=?vr18) rfl ⟨by rfl,?hyr18⟩ ?_
     case hyr18=>(intro W h;have:=ac W h;go_simp;first|done|with_reducible rfl)
     try simp only[pT,Act.put]
     refine rA (i:=11) rfl fun K hK=>?_
     go_simp
     refine(dn V3 hb3).mono ?_
     rintro e V4 ⟨e1,f1,g1,e2,f2,g2,e3,f3,g3,E,rfl,HM,bp⟩
     have eo:=dg V3 V4 hb3 bp
     have ag:=di V3 V4 hb3 bp
     obtain⟨jr,js,jt,ju⟩:=A4i ag
     have jv:=A0b ag 0
     have jw:=A0b ag 1
     have jx:=A0b ag 2
     have jy:=A0b ag 3
     have j6:=hb3.size
     have j7:=bp.size
     have j8:W9.heap.size≤W9.drew.heap.size:=Nat.le_refl _
     have jd:=dh V4 (.int .i64 mu) (.slice e1 f1 g1) (.slice e2 f2 g2) (.slice e3 f3 g3) eo ag (by omega)
     refine hK.out _ _ ?_ (fun hHeld=>?_)
     ·(try dsimp only);with_reducible assumption
     clear hK K
     try simp only[pT,Act.put]
     refine tK (i:=12) (v:=?vr19) rfl ⟨by rfl,?hyr19⟩ ?_
     case hyr19=>(intro W h;have:=ac W h;go_simp;first|done|with_reducible rfl)
     try simp only[pT,Act.put]
     refine tK (i:=13) (v:=?vr20) rfl ⟨by rfl,?hyr20⟩ ?_
     case hyr20=>(intro W h;have:=ac W h;go_simp;first|done|with_reducible rfl)
     try simp only[pT,Act.put]
     refine tK (i:=14) (v:=?vr21) rfl ⟨by rfl,?hyr21⟩ ?_
     case hyr21=>(intro W h;have:=ac W h;go_simp;first|done|with_reducible rfl)
     try simp only[pT,Act.put]
     refine rA (i:=15) rfl fun K hK=>?_
     go_simp
     refine hK.out _ _ ?_ (fun hHeld=>?_)
     ·(try dsimp only);with_reducible assumption
     clear hK K
     try simp only[pT,Act.put]
     refine rA (i:=16) rfl fun K hK=>?_
     go_simp
     refine hK.out _ _ ?_ (fun hHeld=>?_)
     ·(try dsimp only);with_reducible assumption
     clear hK K
     try simp only[pT,Act.put]
     refine wpAnyH_done (by kernel_rfl) ?_ _
     go_wp2_with fail
     go_meet
     refine⟨e1,f1,g1,e2,f2,g2,e3,f3,g3,E,V4,rfl,HM,?_,?_,?_⟩
     ·exact(FrB.of_below (BTr (Below.refl _ W9).drew hb3):FrB [] W9 V3).trans bp (fun _ hi=>by simp at hi) (fun _ hi=>.inl hi)
     ·exact heap_setCell_same _ _ 3 _ _ _ (heap_setCell_same _ _ 2 _ _ _ (heap_setCell_same _ _ 1 _ _ _ (heap_setCell_same _ _ 0 _ _ _ ag)))
     ·exact fr4 ag
   case rest=>
    obtain⟨e1,f1,g1,e2,f2,g2,e3,f3,g3,E,ei,rfl,HM,gq,xc,jg⟩:=hcut
    have gh:FrB (VL.fp (LB.fp d) (⟨mu,bv,bw,bq,(ah,aj,ak),(au,aw,a8),(bg,bh,bk)⟩:VL (LB d))++VL.fp (LB.fp d) (⟨mu,bj,br,sv,(b1,m1,d1),(b2,m2,d2),(b3,m3,d3)⟩:VL (LB d))++[w.heap.size+3]) W5 ei:=(FrB.of_below cg:FrB [] W5 W9).trans gq (fun _ hi=>by simp at hi) (fun _ hi=>.inl (List.mem_append_left _ hi))
    have ej:FrB (VL.fp (LB.fp d) (⟨mu,bv,bw,bq,(ah,aj,ak),(au,aw,a8),(bg,bh,bk)⟩:VL (LB d))++VL.fp (LB.fp d) (⟨mu,bj,br,sv,(b1,m1,d1),(b2,m2,d2),(b3,m3,d3)⟩:VL (LB d))++[w.heap.size+3]) W5 wc:=gh.trans jg (fun _ hi=>hi) (fun _ hi=>.inl (List.mem_append_right _ hi))
    have gi:∀ k∈VL.fp (LB.fp d) (⟨mu,bv,bw,bq,(ah,aj,ak),(au,aw,a8),(bg,bh,bk)⟩:VL (LB d))++VL.fp (LB.fp d) (⟨mu,bj,br,sv,(b1,m1,d1),(b2,m2,d2),(b3,m3,d3)⟩:VL (LB d))++[w.heap.size+3],k<w.heap.size∨k=w.heap.size+3∨W5.heap.size≤k:=fun k hk=>(nI k hk).2.1
    have im:Below u.heap.size u wc:=eh.trans (ej.below eh.size (fun k hk=>(nI k hk).1))
    have HA:Hid (Apt (VL.fp (LB.fp d) (⟨mu,bv,bw,bq,(ah,aj,ak),(au,aw,a8),(bg,bh,bk)⟩:VL (LB d))++VL.fp (LB.fp d) (⟨mu,bj,br,sv,(b1,m1,d1),(b2,m2,d2),(b3,m3,d3)⟩:VL (LB d))) W9 ei wc):=⟨_,jg,fun k hk=>by
     rw[List.mem_singleton] at hk
     subst hk
     refine⟨by omega,fun h=>?_⟩
     rcases List.mem_append.1 h with h|h
     ·have:=fq.out _ h;omega
     ·have:=hzl _ h;omega⟩
    clear ac jb cw cj cu di dg dh dn s0 s1 s2 s3 i6 iq jm hzl nI
    cases Rm with
    | error E'=>
     obtain⟨gc,gg⟩:=HM.out
     subst gc
     have eE:(E != 0)=true:=by simpa using gg
     have lq:(E==0)=false:=by simpa using gg
     have df:Hid (R = .error E):=HT.out
     obtain⟨⟨t0,t1⟩,⟨t2,t3,t4⟩,⟨t5,t6⟩,y4⟩:=ee wc _ ej gi
     obtain⟨p0,p1⟩:=A0r y4
     have bt:=A0b y4
     go_wp2_with fail
     refine bodyPost_ret (v:=.tuple #[.agg #[.slice none 0 0,.slice none 0 0],.int .i64 E]) (by simp[results,Tryz.results48,go_sem, *]) rfl ?_
     refine⟨?_,?_⟩
     ·first|exact im|exact KB_set (KB_set im (by omega)) (by omega)
     ·rw[df.out]
      exact⟨gg,rfl⟩
    | ok v=>
     obtain⟨gc,jl,ji⟩:=HM.out
     subst gc
     have fk:Hid _:=ji wc HA.out
     obtain⟨K',iu⟩:∃ K':Int,Hid (((A1h v:Nat):Int)=K'):=⟨_,rfl⟩
     have ig:=C9r fy.out
     have jh:VQk (BQk d) v:=by
      rw[ig]
      exact D7d (fun M s t hs ht=>C1d g.msgs d M s t hs ht) (kg.out V0 fz.out) (D7v f9.out)
     have ie:jW (jWB d) v≤1000000000:=by
      rw[ig]
      exact Nat.le_trans (E0l (fun M s t=>C9k g.msgs d M s t) g.msgs x V0 V) iy.out
     have km:Hid (VOk (BOk d) v):=D7u jh ie
     have gp:∀ U,Calls Tryz.prog 105 #[.agg #[.int .i64 mu,.slice e1 f1 g1,.slice e2 f2 g2,.slice e3 f3 g3]] U fun e w'=>e = .returned (.int .i64 K')∧Below U.heap.size U w':=fun U=>by
      have l1:=fk.out.1.len.1
      have l2:=fk.out.2.1.len.1
      have l3:=fk.out.2.2.len.1
      have h2:=A5t (fun s=>1+jWB d s) (fun _=>by omega) v.subs
      have h3:=ie
      unfold jW at h3
      have:=B8f (w:=U) v l1 l2 l3 (c1:=g1) (c2:=g2) (c3:=g3) (a1:=e1) (a2:=e2) (a3:=e3) (by omega) mu
      rw[iu.out] at this
      exact this
     have ix:Hid (R=if 60<K' then .error 5 else .ok ⟨A6v fs x (BO.vals b) v,BO.unk b⟩):=by
      show _=_
      rw[HT.out]
      show(if 60<A1h v then _ else _)=_
      have:=iu.out
      by_cases h:60<A1h v
      ·rw[if_pos h,if_pos (by omega)]
      ·rw[if_neg h,if_neg (by omega)]
     have kn:Hid (v.number=mu):=jl
     clear ig jh ie jl ji
     go_upto_region 9 with fail
     have dx:=gp wc
     obtain⟨⟨t0,t1⟩,⟨t2,t3,t4⟩,⟨t5,t6⟩,y4⟩:=ee wc _ ej gi
     obtain⟨s0,s1,s2,s3⟩:=A4i xc
     go_wp2_with fail
     refine dx.mono ?_
     rintro e w8 ⟨rfl,bu⟩
     have gu:=(ej).on bu
     have li:=(ej).size
     have lh:=bu.size
     have ip:=(bu.block (w.heap.size+3) (by omega)).trans xc
     have dp:Below u.heap.size u w8:=BTr im bu
     clear t0 t1 t2 t3 t4 t5 t6 y4 s0 s1 s2 s3
     obtain⟨⟨t0,t1⟩,⟨t2,t3,t4⟩,⟨t5,t6⟩,y4⟩:=ee w8 _ gu gi
     obtain⟨s0,s1,s2,s3⟩:=A4i ip
     obtain⟨p0,p1⟩:=A0r y4
     have bt:=A0b y4
     by_cases h60:60<K'
     ·have df:Hid (R = .error 5):=by show _=_;rw[ix.out,if_pos h60]
      go_wp2_with fail
      refine bodyPost_ret (v:=.tuple #[.agg #[.slice none 0 0,.slice none 0 0],.int .i64 5]) (by simp[results,Tryz.results48,go_sem, *]) rfl ?_
      refine⟨?_,?_⟩
      ·first|exact dp|exact KB_set (KB_set dp (by omega)) (by omega)
      ·rw[df.out]
       exact⟨by omega,rfl⟩
     ·have df:Hid (R = .ok ⟨A6v fs x (BO.vals b) v,BO.unk b⟩):=by show _=_;rw[ix.out,if_neg h60]
      obtain⟨ra,rb,rc⟩:=fk.out
      have hst:=fh w8 v e1 f1 g1 e2 f2 g2 e3 f3 g3 dp kn.out (ra.below UAt.stays bu) (rb.below ZAt.stays bu) (rc.below (BAt.stays d) bu) km.out
      go_wp2_with fail
      refine hst.mono ?_
      rintro e w9 ⟨c,i0,j0,l0,i1,j1,l1,rfl,HC,ew⟩
      have dz:=(ew.block (w.heap.size+4) (by omega)).trans y4
      clear p0 p1 bt
      obtain⟨p0,p1⟩:=A0r dz
      have bt:=A0b dz
      go_wp2_with fail
      refine bodyPost_ret (v:=.tuple #[.agg #[.slice i0 j0 l0,.slice i1 j1 l1],.int .i64 0]) (by simp[results,Tryz.results48,go_sem, *]) rfl ?_
      refine⟨KB_set (KB_set (BTr dp ew) (by omega)) (by omega),?_⟩
      rw[df.out]
      obtain⟨h1,h2,h3,h4⟩:=HC.out
      refine .inr ⟨c,i0,j0,l0,i1,j1,l1,h1,rfl,h2,OwnB.fr (d+1) [w.heap.size+4] _ _ _ (OwnB.mono (d+1) h3 (by omega)) (fr2 dz) (fun k hk hm=>?_),h4⟩
      have:=(OwnB.inB (d+1) h3 k hk).1
      rw[List.mem_singleton] at hm
      omega
end L
end Go.Proofs.YtgaoojpakjjdnaaGreatDoor
