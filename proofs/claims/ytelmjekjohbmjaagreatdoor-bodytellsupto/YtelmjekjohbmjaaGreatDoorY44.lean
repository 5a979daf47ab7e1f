import Derived.Test.YtelmjekjohbmjaaGreatDoorY27
import Derived.Test.YtelmjekjohbmjaaGreatDoorY32
import Derived.Test.YtelmjekjohbmjaaGreatDoorY14
namespace Go.Proofs.YtelmjekjohbmjaaGreatDoor
namespace L
open Go.RowKit
set_option linter.unusedVariables false
theorem A8j {W0:World}{ms:List MI}{am:Option Addr}{nm cm:Nat}{ae:Option Addr}{ne ce:Nat}(hms:RdL 3 MAt W0 (.slice am nm cm) ms) (hok:∀ M∈ms,(∀ f∈M.fields,I64 f.number∧I64 f.choice)∧M.fields.length≤140737488355328):∀ d,A3b W0 ms am nm cm ae ne ce d
 | 0=>fun _ _ _ _ _ _ _ _ _ a=>nomatch (a:Empty)
 | d+1=>B1p hms hok (A8j hms hok d)
def A3q (g:GI) (d:Nat) (msg:Int) (a b:BI (d+1)):Int:=
 if A0g (A0z g d msg) [a,b]≠0 then A0g (A0z g d msg) [a,b]
 else match g.msgs[msg.toNat]? with
  | some M=>A0z g d msg (jnB g.msgs (d+1) M a b)
  | none=>0
theorem B9r {α:Type}{f : α→Int}{a b : α}(h:A0g f [a,b]=0):f a=0∧f b=0:=⟨A2i h a (by simp),A2i h b (by simp)⟩
theorem A3x {g:GI}{d:Nat}{msg:Int}{x:BI (d+1)}(h:A0z g d msg x=0):(A0p g).1=0∧0≤msg∧msg < (g.msgs.length:Int)∧∃ M,g.msgs[msg.toNat]?=some M∧A2o g (d+1) 1 M.fields x=0:=by
 unfold A0z at h
 split at h
 ·rename_i h1;exact absurd h h1
 ·rename_i h1
  split at h
  ·cases h
  ·rename_i h2
   split at h
   ·rename_i M hM
    exact⟨by simpa using h1,by omega,by omega,M,hM,h⟩
   ·cases h
def C0f (B:Nat) (g:GI) (d:Nat) (msg:Int) (a b:BI (d+1)) (e:Ending) (w':World):Prop:=
 (A3q g d msg a b≠0∧e = .returned (.tuple #[.agg #[.slice none 0 0,.slice none 0 0],.int .i64 (A3q g d msg a b)]))∨
 (A3q g d msg a b=0∧∃ (M:MI) (e0:Option Addr) (f0 g0:Nat) (e1:Option Addr) (f1 g1:Nat),A0z g d msg a=0∧A0z g d msg b=0∧g.msgs[msg.toNat]?=some M∧A0z g d msg (jnB g.msgs (d+1) M a b)=0∧e = .returned (.tuple #[.agg #[.slice e0 f0 g0,.slice e1 f1 g1],.int .i64 0])∧∃ c:LB (d+1),A6i (d+1) c = [.slice e0 f0 g0,.slice e1 f1 g1]∧LB.pl (d+1) c=jnB g.msgs (d+1) M a b∧OwnB B (d+1) w' c)
theorem C0b {B d:Nat}{w:World}{c:LB (d+1)}{e0:Option Addr}{f0 g0:Nat}{e1:Option Addr}{f1 g1:Nat}{x:BI (d+1)}(h1:A6i (d+1) c = [.slice e0 f0 g0,.slice e1 f1 g1]) (h2:LB.pl (d+1) c=x) (h:OwnB B (d+1) w c):BRd d w (.slice e0 f0 g0) (.slice e1 f1 g1) x:=by
 have h5:=OwnB.rd h
 obtain⟨h6,h7⟩:(BL.q0 c).v = .slice e0 f0 g0∧(BL.q1 c).v = .slice e1 f1 g1:=by
  have : [(BL.q0 c).v,(BL.q1 c).v] = [.slice e0 f0 g0,.slice e1 f1 g1]:=h1
  simpa using this
 rw[h6,h7,h2] at h5
 exact h5
set_option maxHeartbeats 8000000 in
set_option maxRecDepth 100000 in
theorem B8t {g:GI}{am:Option Addr}{nm cm:Nat}{ae:Option Addr}{ne ce:Nat}{msg:Int}{w:World}(hI:WIn g am nm cm ae ne ce msg w){d:Nat}{v0 v1 u0 u1:Value}{a b:BI (d+1)}(ha:BRd d w v0 v1 a) (hoka:BOk (d+1) a) (hb:BRd d w u0 u1 b) (hokb:BOk (d+1) b) (hW:jWB (d+1) a+jWB (d+1) b≤1000000000) :
  Calls Tryz.prog 12 #[.agg #[.slice am nm cm,.slice ae ne ce],.int .i64 msg,.agg #[v0,v1],.agg #[u0,u1]] w fun e w'=>Below w.heap.size w w'∧C0f w.heap.size g d msg a b e w':=by
 obtain⟨a0,n0,c0,a1,n1,c1,rfl,rfl⟩:=ha.shape
 obtain⟨b0,m0,d0,b1,m1,d1,rfl,rfl⟩:=hb.shape
 obtain⟨W5,HW5⟩:∃ W5,Hid (W5=((((w.alloc (.cells #[.slice am nm cm,.slice ae ne ce] 25)).alloc (.cells #[.int .i64 msg] 3)).alloc (.cells #[.slice a0 n0 c0,.slice a1 n1 c1] 29)).alloc (.cells #[.slice b0 m0 d0,.slice b1 m1 d1] 29)).alloc (.cells #[.slice none 0 0,.slice none 0 0] 29)):=⟨_,rfl⟩
 have hb5:Below w.heap.size w W5:=by rw[HW5.out];exact(((((Below.refl _ _).alloc (Nat.le_refl _) _).alloc (by simp) _).alloc (by simp;omega) _).alloc (by simp;omega) _).alloc (by simp;omega) _
 obtain⟨x0,x1,x2,x3,x4,xz⟩:=B2c w (.cells #[.slice am nm cm,.slice ae ne ce] 25) (.cells #[.int .i64 msg] 3) (.cells #[.slice a0 n0 c0,.slice a1 n1 c1] 29) (.cells #[.slice b0 m0 d0,.slice b1 m1 d1] 29) (.cells #[.slice none 0 0,.slice none 0 0] 29)
 rw[←HW5.out] at x0 x1 x2 x3 x4 xz
 obtain⟨W6,HW6⟩:∃ W6,Hid (W6=W5.alloc (.cells #[.slice a0 n0 c0,.slice a1 n1 c1,.slice b0 m0 d0,.slice b1 m1 d1] 29)):=⟨_,rfl⟩
 have hb56:Below W5.heap.size W5 W6:=by rw[HW6.out];exact(Below.refl _ _).alloc (Nat.le_refl _) _
 have x5:W6.heap[W5.heap.size]?=some (.cells #[.slice a0 n0 c0,.slice a1 n1 c1,.slice b0 m0 d0,.slice b1 m1 d1] 29 (0,0)):=by rw[HW6.out];exact heap_alloc_new _ _
 have hz6:W6.heap.size=W5.heap.size+1:=by rw[HW6.out];simp
 have hb6:Below w.heap.size w W6:=BTr hb5 hb56
 have z5:=Nat.le_of_eq xz
 have z5':=Nat.le_of_eq xz.symm
 have z6:=Nat.le_of_eq hz6.symm
 have k0:=(hb56.block w.heap.size (by omega)).trans x0
 have k1:=(hb56.block (w.heap.size+1) (by omega)).trans x1
 have hlist:RdL 2 (BAt (d+1)) W6 (.slice (some ⟨W5.heap.size,0,none⟩) 2 2) [a,b]:=by
  obtain⟨q0,q1,q2,q3⟩:=A3k x5
  have ha6:=ha.below hb6
  have hb6':=hb.below hb6
  refine⟨_,_,_,rfl,rfl,by omega,by unfold maxLen;omega,fun h=>(by cases h),fun x hx k y hy=>?_⟩
  cases hx
  match k,hy with
  | 0,hy=>
   obtain rfl:a=y:=by simpa using hy
   exact⟨_,_,q0,q1,ha6.1,ha6.2⟩
  | 1,hy=>
   obtain rfl:b=y:=by simpa using hy
   exact⟨_,_,q2,q3,hb6'.1,hb6'.2⟩
  | k+2,hy=>simp at hy
 have hfirst:=B6d (hI.below hb6) k0 k1 hlist (fun s hs=>by
  rcases List.mem_cons.1 hs with rfl|hs
  ·exact hoka
  ·rw[List.mem_singleton.1 hs];exact hokb)
 rw[xz] at hfirst
 obtain⟨q20,q21⟩:=A0x x2
 obtain⟨q30,q31⟩:=A0x x3
 have HI:Hid _:=hI
 have HA:Hid (BRd d w (.slice a0 n0 c0) (.slice a1 n1 c1) a):=ha
 have HB:Hid (BRd d w (.slice b0 m0 d0) (.slice b1 m1 d1) b):=hb
 have HWt:Hid _:=hW
 have HOA:Hid (BOk (d+1) a):=hoka
 have HOB:Hid (BOk (d+1) b):=hokb
 have rR:∀ V,Below W6.heap.size W6 V→V.heap[w.heap.size]?=some (.cells #[.slice am nm cm,.slice ae ne ce] 25 (0,0))∧V.heap[w.heap.size+1]?=some (.cells #[.int .i64 msg] 3 (0,0))∧V.heap[w.heap.size+2]?=some (.cells #[.slice a0 n0 c0,.slice a1 n1 c1] 29 (0,0))∧V.heap[w.heap.size+3]?=some (.cells #[.slice b0 m0 d0,.slice b1 m1 d1] 29 (0,0))∧V.heap[w.heap.size+4]?=some (.cells #[.slice none 0 0,.slice none 0 0] 29 (0,0)):=fun V hV=>
  ⟨(hV.block _ (by omega)).trans k0,(hV.block _ (by omega)).trans k1,((hV.block _ (by omega)).trans (hb56.block _ (by omega))).trans x2,((hV.block _ (by omega)).trans (hb56.block _ (by omega))).trans x3,((hV.block _ (by omega)).trans (hb56.block _ (by omega))).trans x4⟩
 clear hI ha hb hoka hokb hW x0 x1 x4 x5 xz hz6 hlist
 generalize hE:A0g (A0z g d msg) [a,b]=E1 at hfirst
 by_cases hz:E1=0
 ·subst hz
  have ez:((0:Int) != 0)=false:=rfl
  obtain⟨hea,heb⟩:=B9r hE
  obtain⟨hrl,hm0,hm1,M,hM,hbe⟩:=A3x hea
  obtain⟨_,_,_,M',hM',hbe'⟩:=A3x heb
  obtain rfl:M=M':=by rw[hM] at hM';exact Option.some.inj hM'
  have hMm:M∈g.msgs:=List.mem_of_getElem? hM
  have hsa:=A9h (A2m hrl) (d+1) 1 M a hMm HOA.out hbe
  have hsb:=A9h (A2m hrl) (d+1) 1 M b hMm HOB.out hbe'
  obtain⟨bm,om,rfl,hmat⟩:=HI.out.hg.1.get MAt.plain hM
  obtain⟨vf,vb,hn0,hn1,hn2,hfs,hbs⟩:=hmat
  rw[A0j] at hn1 hn2
  obtain⟨af,nf,cf,rfl,_,_⟩:=hfs.shape
  obtain⟨ab,nb,cb,rfl,_,_⟩:=hbs.shape
  obtain⟨j,rfl⟩:∃ j:Nat,msg=(j:Int):=⟨msg.toNat,by omega⟩
  rw[Int.toNat_natCast] at hn0 hn1 hn2
  have hjn:(j:Int) < (nm:Int):=by have:=HI.out.hg.1.len.1;omega
  have hj0:¬ (j:Int) < 0:=by omega
  have hJT:=A8j (ae:=ae) (ne:=ne) (ce:=ce) HI.out.hg.1 HI.out.fok (d+1)
  have HJ:Hid _:=hJT
  have HS:Hid (ShB g.msgs (d+1) M a∧ShB g.msgs (d+1) M b∧M∈g.msgs∧RdL 6 FAt w (.slice af nf cf) M.fields):=⟨hsa,hsb,hMm,hfs⟩
  have HJE:Hid (A3q g d (j:Int) a b=A0z g d (j:Int) (jnB g.msgs (d+1) M a b)):=by
   show _=_
   unfold A3q
   rw[hE,if_neg (by simp),hM]
  have HEA:Hid (A0z g d (j:Int) a=0∧A0z g d (j:Int) b=0∧g.msgs[(j:Int).toNat]?=some M):=⟨hea,heb,hM⟩
  have HOC:Hid (BOk (d+1) (jnB g.msgs (d+1) M a b)):=B6a HOA.out HOB.out HWt.out
  clear hJT hsa hsb hMm hfs hbs hE hea heb hM hM' hbe hbe' hrl
  go_enter Tryz.func12,Tryz.ntmps12
  go_wp2_with fail
  rw[←HW5.out]
  go_wp2_with fail
  rw[←HW6.out]
  refine hfirst.mono ?_
  rintro e V7 ⟨rfl,hb67⟩
  have hz67:=hb67.size
  obtain⟨l0,l1,l2,l3,l4⟩:=rR V7 hb67
  have hbw7:Below w.heap.size w V7:=BTr hb6 hb67
  have hcl5:∀ V,Below V7.heap.size V7 V→(V.cell? ⟨w.heap.size,0,none⟩=some (.slice (some ⟨bm,om,none⟩) nm cm)∧V.cell? ⟨w.heap.size,1,none⟩=some (.slice ae ne ce)∧V.cell? ⟨w.heap.size+1,0,none⟩=some (.int .i64 (j:Int))∧V.cell? ⟨w.heap.size+2,0,none⟩=some (.slice a0 n0 c0)∧V.cell? ⟨w.heap.size+2,1,none⟩=some (.slice a1 n1 c1))∧(V.cell? ⟨w.heap.size+3,0,none⟩=some (.slice b0 m0 d0)∧V.cell? ⟨w.heap.size+3,1,none⟩=some (.slice b1 m1 d1))∧V.cell? ⟨bm,om+j*3,none⟩=some (.string (S M.name))∧V.cell? ⟨bm,om+j*3+1,none⟩=some (.slice af nf cf)∧V.cell? ⟨bm,om+j*3+2,none⟩=some (.slice ab nb cb):=fun V hV=>by
   obtain⟨e0,e1⟩:=A0x ((hV.block _ (by omega)).trans l0)
   obtain⟨e2,e3⟩:=A0x ((hV.block _ (by omega)).trans l2)
   obtain⟨e4,e5⟩:=A0x ((hV.block _ (by omega)).trans l3)
   have hV0:Below w.heap.size w V:=BTr hbw7 hV
   exact⟨⟨e0,e1,A0a ((hV.block _ (by omega)).trans l1) 0 _ rfl,e2,e3⟩,⟨e4,e5⟩,A0c hV0 hn0,A0c hV0 hn1,A0c hV0 hn2⟩
  have hD5:Below V7.heap.size V7 V7.drew:=(Below.refl _ _).drew
  have hAl:∀ V o,Below V7.heap.size V7 V→Below V7.heap.size V7 (V.alloc o):=fun V o hV=>hV.alloc hV.size o
  have hown:∀ (a0:Option Addr) (n0 c0:Nat) (a1:Option Addr) (n1 c1:Nat) (a:BI (d+1)),BRd d w (.slice a0 n0 c0) (.slice a1 n1 c1) a→BOk (d+1) a→∀ V,Below V7.heap.size V7 V→Calls Tryz.prog 11 #[.agg #[.slice a0 n0 c0,.slice a1 n1 c1]] V fun e w'=>∃ (y:LB (d+1)) (x0:Option Addr) (y0 z0:Nat) (x1:Option Addr) (y1 z1:Nat),e = .returned (.agg #[.slice x0 y0 z0,.slice x1 y1 z1])∧Hid (A6i (d+1) y = [.slice x0 y0 z0,.slice x1 y1 z1]∧LB.pl (d+1) y=a∧OwnB w.heap.size (d+1) w' y∧(∀ k∈LB.fp (d+1) y,V.heap.size≤k∧k < w'.heap.size)∧(LB.fp (d+1) y).Nodup)∧Below V7.heap.size V7 w'∧Below V.heap.size V w':=fun a0 n0 c0 a1 n1 c1 a hA hok V hV=>by
   have hbV:Below w.heap.size w V:=BTr hbw7 hV
   refine(A7m (d+1) V w.heap.size a0 n0 c0 a1 n1 c1 a hbV.size (show BRd d V _ _ a from hA.below hbV) hok).mono ?_
   rintro e w' ⟨y,x0,y0,z0,x1,y1,z1,h1,rfl,h3,h4,h5,h6,h7⟩
   exact⟨y,x0,y0,z0,x1,y1,z1,rfl,⟨h1,h3,h4,fun k hk=>⟨h5 k hk,(OwnB.inB (d+1) h4 k hk).2⟩,h6⟩,BTr hV h7,h7⟩
  have hOa:=hown a0 n0 c0 a1 n1 c1 a HA.out HOA.out
  have hOb:=hown b0 m0 d0 b1 m1 d1 b HB.out HOB.out
  have hJo:∀ (V Va Vb V':World) (ya yb:LB (d+1)) (x0:Option Addr) (y0 z0:Nat) (x1:Option Addr) (y1 z1:Nat) (u0:Option Addr) (v0 w0:Nat) (u1:Option Addr) (v1 w1:Nat),(A6i (d+1) ya = [.slice x0 y0 z0,.slice x1 y1 z1]∧LB.pl (d+1) ya=a∧OwnB w.heap.size (d+1) Va ya∧(∀ k∈LB.fp (d+1) ya,V.heap.size≤k∧k < Va.heap.size)∧(LB.fp (d+1) ya).Nodup)→Below Va.heap.size Va Vb→(A6i (d+1) yb = [.slice u0 v0 w0,.slice u1 v1 w1]∧LB.pl (d+1) yb=b∧OwnB w.heap.size (d+1) V' yb∧(∀ k∈LB.fp (d+1) yb,Vb.heap.size≤k∧k < V'.heap.size)∧(LB.fp (d+1) yb).Nodup)→Below Vb.heap.size Vb V'→V7.heap.size≤V.heap.size→V.heap.size≤Va.heap.size→∀ VJ,Below V'.heap.size V' VJ→Below V7.heap.size V7 VJ→Calls Tryz.prog 35 #[.agg #[.slice (some ⟨bm,om,none⟩) nm cm,.slice ae ne ce],.agg #[.string (S M.name),.slice af nf cf,.slice ab nb cb],.agg #[.slice x0 y0 z0,.slice x1 y1 z1],.agg #[.slice u0 v0 w0,.slice u1 v1 w1]] VJ fun e w'=>
    ∃ (c:LB (d+1)) (e0:Option Addr) (f0 g0:Nat) (e1:Option Addr) (f1 g1:Nat),e = .returned (.agg #[.slice e0 f0 g0,.slice e1 f1 g1])∧Hid (A6i (d+1) c = [.slice e0 f0 g0,.slice e1 f1 g1]∧LB.pl (d+1) c=jnB g.msgs (d+1) M a b∧OwnB w.heap.size (d+1) w' c∧(∀ k∈LB.fp (d+1) c,(V.heap.size≤k∧k < Va.heap.size)∨(Vb.heap.size≤k∧k < V'.heap.size)∨VJ.heap.size≤k))∧Below V7.heap.size V7 w'∧FrB (LB.fp (d+1) ya++LB.fp (d+1) yb) VJ w'∧Hid (∀ k∈LB.fp (d+1) ya++LB.fp (d+1) yb,(V.heap.size≤k∧k < Va.heap.size)∨(Vb.heap.size≤k∧k < V'.heap.size)):=fun V Va Vb V' ya yb x0 y0 z0 x1 y1 z1 u0 v0 w0 u1 v1 w1 hya hab hyb hbb h7 h8 VJ hJ' hVJ=>by
   obtain⟨p1,p2,p3,p4,p5⟩:=hya
   obtain⟨r1,r2,r3,r4,r5⟩:=hyb
   have s1:=hab.size
   have s2:=hbb.size
   have s3:=hJ'.size
   have hr:∀ k∈LB.fp (d+1) ya++LB.fp (d+1) yb,(V.heap.size≤k∧k < Va.heap.size)∨(Vb.heap.size≤k∧k < V'.heap.size):=fun k hk=>by
    rcases List.mem_append.1 hk with hk|hk
    ·exact .inl (p4 k hk)
    ·exact .inr (r4 k hk)
   have hbwJ:Below w.heap.size w VJ:=BTr hbw7 hVJ
   refine(HJ.out VJ M M.name af nf cf ab nb cb ya yb x0 y0 z0 x1 y1 z1 u0 v0 w0 u1 v1 w1 hbwJ HS.out.2.2.1 HS.out.2.2.2 p1 r1 (p3.below (BTr (BTr hab hbb) hJ')) (r3.below hJ') (fun k=>?_) (by rw[p2];exact HS.out.1) (by rw[r2];exact HS.out.2.1) (by rw[p2,r2];exact HWt.out)).mono ?_
   ·have t1:=List.nodup_iff_count.1 p5 k
    have t2:=List.nodup_iff_count.1 r5 k
    by_cases hk:k∈LB.fp (d+1) ya
    ·have t3:=p4 k hk
     have t4:(LB.fp (d+1) yb).count k=0:=List.count_eq_zero_of_not_mem fun hm=>by have:=r4 k hm;omega
     omega
    ·have t4:(LB.fp (d+1) ya).count k=0:=List.count_eq_zero_of_not_mem hk
     omega
   ·rintro e w' ⟨c,e0,f0,g0,e1,f1,g1,rfl,hE,hP,hO,hF,hfr⟩
    refine⟨c,e0,f0,g0,e1,f1,g1,rfl,⟨hE.out,by rw[hP.out,p2,r2],hO.out,fun k hk=>?_⟩,?_,hfr,hr⟩
    ·rcases hF.out.mem hk with h|h
     ·rcases hr k h with h|h
      ·exact .inl h
      ·exact .inr (.inl h)
     ·exact .inr (.inr h)
    ·exact hVJ.trans (hfr.below hVJ.size fun k hk=>by have:=hr k hk;omega)
  clear hown rR hfirst q20 q21 q30 q31 l2 l3 x2 x3 k0 k1
  go_wp2_with fail
  go_cut [12] from 24 to 34 (fun s12 wc=>∃ (c:LB (d+1)) (K:Nat) (e0:Option Addr) (f0 g0:Nat) (e1:Option Addr) (f1 g1:Nat),s12 = .pointer (some ⟨K,0,none⟩)∧V7.heap.size≤K∧wc.heap[K]?=some (.cells #[.slice e0 f0 g0,.slice e1 f1 g1] 29 (0,0))∧Hid (A6i (d+1) c = [.slice e0 f0 g0,.slice e1 f1 g1]∧LB.pl (d+1) c=jnB g.msgs (d+1) M a b∧OwnB w.heap.size (d+1) wc c∧∀ k∈LB.fp (d+1) c,V7.heap.size≤k)∧Below V7.heap.size V7 wc)
  case first=>
   refine wp_region_held_drew (S:=fun V=>Below V7.heap.size V7 V) (by kernel_rfl) hD5 (fun hHeld=>?_)
   refine tK (i:=0) (v:=?vj1) rfl (fun _ _ _ h=>h) ⟨by rfl,?hyj1⟩ (by assumption) ?_
   case hyj1=>(intro W hSw;obtain⟨⟨o1,o2,o3,o4,o5⟩,⟨o6,o7⟩,o8,o9,o10⟩:=hcl5 W hSw;go_simp;first|done|with_reducible rfl)
   try simp only[Act.put,List.setIfInBounds_toArray]
   refine tK (i:=1) (v:=?vj2) rfl (fun _ _ _ h=>h) ⟨by rfl,?hyj2⟩ (by assumption) ?_
   case hyj2=>(intro W hSw;obtain⟨⟨o1,o2,o3,o4,o5⟩,⟨o6,o7⟩,o8,o9,o10⟩:=hcl5 W hSw;go_simp;first|done|with_reducible rfl)
   try simp only[Act.put]
   refine tK (i:=2) (v:=?vj3) rfl (fun _ _ _ h=>h) ⟨by rfl,?hyj3⟩ (by assumption) ?_
   case hyj3=>(intro W hSw;obtain⟨⟨o1,o2,o3,o4,o5⟩,⟨o6,o7⟩,o8,o9,o10⟩:=hcl5 W hSw;go_simp;first|done|with_reducible rfl)
   try simp only[Act.put]
   refine tK (i:=3) (v:=?vj4) rfl (fun _ _ _ h=>h) ⟨by rfl,?hyj4⟩ (by assumption) ?_
   case hyj4=>(intro W hSw;obtain⟨⟨o1,o2,o3,o4,o5⟩,⟨o6,o7⟩,o8,o9,o10⟩:=hcl5 W hSw;go_simp;first|done|with_reducible rfl)
   try simp only[Act.put]
   refine tK (i:=4) (v:=?vj5) rfl (fun _ _ _ h=>h) ⟨by rfl,?hyj5⟩ (by assumption) ?_
   case hyj5=>(intro W hSw;obtain⟨⟨o1,o2,o3,o4,o5⟩,⟨o6,o7⟩,o8,o9,o10⟩:=hcl5 W hSw;go_simp;first|done|with_reducible rfl)
   try simp only[Act.put]
   refine tK (i:=5) (v:=?vj6) rfl (fun _ _ _ h=>h) ⟨by rfl,?hyj6⟩ (by assumption) ?_
   case hyj6=>(intro W hSw;obtain⟨⟨o1,o2,o3,o4,o5⟩,⟨o6,o7⟩,o8,o9,o10⟩:=hcl5 W hSw;go_simp;first|done|with_reducible rfl)
   try simp only[Act.put]
   refine tK (i:=6) (v:=?vj7) rfl (fun _ _ _ h=>h) ⟨by rfl,?hyj7⟩ (by assumption) ?_
   case hyj7=>(intro W hSw;obtain⟨⟨o1,o2,o3,o4,o5⟩,⟨o6,o7⟩,o8,o9,o10⟩:=hcl5 W hSw;go_simp;first|done|with_reducible rfl)
   try simp only[Act.put]
   refine tK (i:=8) (v:=?vj8) rfl (fun _ _ _ h=>h) ⟨by rfl,?hyj8⟩ (by assumption) ?_
   case hyj8=>(intro W hSw;obtain⟨⟨o1,o2,o3,o4,o5⟩,⟨o6,o7⟩,o8,o9,o10⟩:=hcl5 W hSw;go_simp;first|done|with_reducible rfl)
   try simp only[Act.put]
   refine wpAnyH_ready (rs:=[7,11]) (by kernel_rfl) (by simp) ?_
   refine AllReadyH.cons rfl (fun K hK=>?_) (AllReadyH.cons rfl (fun K hK=>?_) AllReadyH.nil)
   ·skip
    go_simp
    refine(hOa _ hD5).mono ?_
    rintro e Va ⟨ya,x0,y0,z0,x1,y1,z1,rfl,HYa,hba,hbA⟩
    have sA:=hbA.size
    refine hK.out _ _ ?_ (fun hHeld=>?_)
    ·(try dsimp only);first|with_reducible exact hD5|with_reducible exact hbj|with_reducible exact hAl _ _ hbj|with_reducible exact hbb|with_reducible exact hAl _ _ hbb|with_reducible exact hba|with_reducible exact hAl _ _ hba|with_reducible exact hAl _ _ hD5|exact hAl _ _ hD5|exact A0f (A0f hbj (by have:=hba.size;have:=hbb.size;omega)) (by have:=hba.size;have:=hbb.size;omega)
    clear hK K
    try simp only[pT,Act.put]
    refine wpAnyH_ready (rs:=[9,11]) (by kernel_rfl) (by simp) ?_
    refine AllReadyH.cons rfl (fun K hK=>?_) (AllReadyH.cons rfl (fun K hK=>?_) AllReadyH.nil)
    ·skip
     go_simp
     refine(hOb _ hba).mono ?_
     rintro e Vb ⟨yb,u0,v0,w0,u1,v1,w1,rfl,HYb,hbb,hbB⟩
     have sB:=hbB.size
     refine hK.out _ _ ?_ (fun hHeld=>?_)
     ·(try dsimp only);first|with_reducible exact hD5|with_reducible exact hbj|with_reducible exact hAl _ _ hbj|with_reducible exact hbb|with_reducible exact hAl _ _ hbb|with_reducible exact hba|with_reducible exact hAl _ _ hba|with_reducible exact hAl _ _ hD5|exact hAl _ _ hD5|exact A0f (A0f hbj (by have:=hba.size;have:=hbb.size;omega)) (by have:=hba.size;have:=hbb.size;omega)
     clear hK K
     try simp only[pT,Act.put]
     refine wpAnyH_ready (rs:=[10,11]) (by kernel_rfl) (by simp) ?_
     refine AllReadyH.cons rfl (fun K hK=>?_) (AllReadyH.cons rfl (fun K hK=>?_) AllReadyH.nil)
     ·skip
      go_simp
      have sD:V7.drew.heap.size=V7.heap.size:=rfl
      have sba:=hba.size
      have sbb:=hbb.size
      have s7:V7.heap.size≤V7.drew.heap.size:=by simp
      refine(hJo V7.drew Va Va Vb ya yb x0 y0 z0 x1 y1 z1 u0 v0 w0 u1 v1 w1 HYa.out (Below.refl _ _) HYb.out hbB s7 hbA.size _ (Below.refl _ _) hbb).mono ?_
      rintro e Vj ⟨c,e0,f0,g0,e1,f1,g1,rfl,HC,hbj,hfj,HR⟩
      have sJ:=hfj.size
      refine hK.out _ _ ?_ (fun hHeld=>?_)
      ·(try dsimp only);first|with_reducible exact hD5|with_reducible exact hbj|with_reducible exact hAl _ _ hbj|with_reducible exact hbb|with_reducible exact hAl _ _ hbb|with_reducible exact hba|with_reducible exact hAl _ _ hba|with_reducible exact hAl _ _ hD5|exact hAl _ _ hD5|exact A0f (A0f hbj (by have:=hba.size;have:=hbb.size;omega)) (by have:=hba.size;have:=hbb.size;omega)
      clear hK K
      try simp only[pT,Act.put]
      refine wpAnyH_ready (rs:=[11]) (by kernel_rfl) (by simp) ?_
      refine AllReadyH.cons rfl (fun K hK=>?_) AllReadyH.nil
      go_simp
      refine hK.out _ _ ?_ (fun hHeld=>?_)
      ·(try dsimp only);first|with_reducible exact hD5|with_reducible exact hbj|with_reducible exact hAl _ _ hbj|with_reducible exact hbb|with_reducible exact hAl _ _ hbb|with_reducible exact hba|with_reducible exact hAl _ _ hba|with_reducible exact hAl _ _ hD5|exact hAl _ _ hD5|exact A0f (A0f hbj (by have:=hba.size;have:=hbb.size;omega)) (by have:=hba.size;have:=hbb.size;omega)
      clear hK K
      try simp only[pT,Act.put]
      refine wpAnyH_ready (rs:=[12]) (by kernel_rfl) (by simp) ?_
      refine AllReadyH.cons rfl (fun K hK=>?_) AllReadyH.nil
      go_simp
      refine hK.out _ _ ?_ (fun hHeld=>?_)
      ·(try dsimp only);first|with_reducible exact hD5|with_reducible exact hbj|with_reducible exact hAl _ _ hbj|with_reducible exact hbb|with_reducible exact hAl _ _ hbb|with_reducible exact hba|with_reducible exact hAl _ _ hba|with_reducible exact hAl _ _ hD5|exact hAl _ _ hD5|exact A0f (A0f hbj (by have:=hba.size;have:=hbb.size;omega)) (by have:=hba.size;have:=hbb.size;omega)
      clear hK K
      try simp only[pT,Act.put]
      refine wpAnyH_done (by kernel_rfl) ?_ _
      go_wp2_with fail
      go_meet
      obtain⟨h1,h2,h3,h4⟩:=HC.out
      exact⟨c,_,e0,f0,g0,e1,f1,g1,rfl,hbj.size,heap_alloc_new _ _,⟨h1,h2,h3.below ((Below.refl _ _).alloc (Nat.le_refl _) _),fun k hk=>by have:=h4 k hk;omega⟩,hAl _ _ hbj⟩
     ·skip
      go_simp
      refine hK.out _ _ ?_ (fun hHeld=>?_)
      ·(try dsimp only);first|with_reducible exact hD5|with_reducible exact hbj|with_reducible exact hAl _ _ hbj|with_reducible exact hbb|with_reducible exact hAl _ _ hbb|with_reducible exact hba|with_reducible exact hAl _ _ hba|with_reducible exact hAl _ _ hD5|exact hAl _ _ hD5|exact A0f (A0f hbj (by have:=hba.size;have:=hbb.size;omega)) (by have:=hba.size;have:=hbb.size;omega)
      clear hK K
      try simp only[pT,Act.put]
      refine wpAnyH_ready (rs:=[10]) (by kernel_rfl) (by simp) ?_
      refine AllReadyH.cons rfl (fun K hK=>?_) AllReadyH.nil
      go_simp
      have sZ:(Vb.alloc (.cells #[.slice none 0 0,.slice none 0 0] 29)).heap.size=Vb.heap.size+1:=by simp
      have sD:V7.drew.heap.size=V7.heap.size:=rfl
      have sba:=hba.size
      have sbb:=hbb.size
      have s7:V7.heap.size≤V7.drew.heap.size:=by simp
      refine(hJo V7.drew Va Va Vb ya yb x0 y0 z0 x1 y1 z1 u0 v0 w0 u1 v1 w1 HYa.out (Below.refl _ _) HYb.out hbB s7 hbA.size _ ((Below.refl _ _).alloc (Nat.le_refl _) _) (hAl _ _ hbb)).mono ?_
      rintro e Vj ⟨c,e0,f0,g0,e1,f1,g1,rfl,HC,hbj,hfj,HR⟩
      have sJ:=hfj.size
      have hnR:Vb.heap.size∉LB.fp (d+1) ya++LB.fp (d+1) yb:=fun hm=>by
       have:=HR.out _ hm
       omega
      have kZj:=(hfj.blk (by omega) hnR).trans (heap_alloc_new _ _)
      obtain⟨z0',z1'⟩:=A0x kZj
      have zf0:=A0b kZj 0
      have zf1:=A0b kZj 1
      refine hK.out _ _ ?_ (fun hHeld=>?_)
      ·(try dsimp only);first|with_reducible exact hD5|with_reducible exact hbj|with_reducible exact hAl _ _ hbj|with_reducible exact hbb|with_reducible exact hAl _ _ hbb|with_reducible exact hba|with_reducible exact hAl _ _ hba|with_reducible exact hAl _ _ hD5|exact hAl _ _ hD5|exact A0f (A0f hbj (by have:=hba.size;have:=hbb.size;omega)) (by have:=hba.size;have:=hbb.size;omega)
      clear hK K
      try simp only[pT,Act.put]
      refine wpAnyH_ready (rs:=[12]) (by kernel_rfl) (by simp) ?_
      refine AllReadyH.cons rfl (fun K hK=>?_) AllReadyH.nil
      go_simp
      refine hK.out _ _ ?_ (fun hHeld=>?_)
      ·(try dsimp only);first|with_reducible exact hD5|with_reducible exact hbj|with_reducible exact hAl _ _ hbj|with_reducible exact hbb|with_reducible exact hAl _ _ hbb|with_reducible exact hba|with_reducible exact hAl _ _ hba|with_reducible exact hAl _ _ hD5|exact hAl _ _ hD5|exact A0f (A0f hbj (by have:=hba.size;have:=hbb.size;omega)) (by have:=hba.size;have:=hbb.size;omega)
      clear hK K
      try simp only[pT,Act.put]
      refine wpAnyH_done (by kernel_rfl) ?_ _
      go_wp2_with fail
      go_meet
      obtain⟨h1,h2,h3,h4⟩:=HC.out
      have hKK:V7.heap.size≤Vb.heap.size:=by have:=hba.size;have:=hbb.size;omega
      refine⟨c,Vb.heap.size,e0,f0,g0,e1,f1,g1,rfl,hKK,heap_setCell_same _ _ 1 _ _ _ (heap_setCell_same _ _ 0 _ _ _ kZj),⟨h1,h2,OwnB.fr (d+1) [Vb.heap.size] _ _ c h3 (C0j kZj) (fun k hk hm=>?_),fun k hk=>by have:=h4 k hk;omega⟩,A0f (A0f hbj hKK) hKK⟩
      have:=h4 k hk
      rw[List.mem_singleton] at hm
      omega
    ·skip
     go_simp
     refine hK.out _ _ ?_ (fun hHeld=>?_)
     ·(try dsimp only);first|with_reducible exact hD5|with_reducible exact hbj|with_reducible exact hAl _ _ hbj|with_reducible exact hbb|with_reducible exact hAl _ _ hbb|with_reducible exact hba|with_reducible exact hAl _ _ hba|with_reducible exact hAl _ _ hD5|exact hAl _ _ hD5|exact A0f (A0f hbj (by have:=hba.size;have:=hbb.size;omega)) (by have:=hba.size;have:=hbb.size;omega)
     clear hK K
     try simp only[pT,Act.put]
     refine wpAnyH_ready (rs:=[9]) (by kernel_rfl) (by simp) ?_
     refine AllReadyH.cons rfl (fun K hK=>?_) AllReadyH.nil
     go_simp
     refine(hOb _ (hAl _ _ hba)).mono ?_
     rintro e Vb ⟨yb,u0,v0,w0,u1,v1,w1,rfl,HYb,hbb,hbB⟩
     have sB:=hbB.size
     have sZ:(Va.alloc (.cells #[.slice none 0 0,.slice none 0 0] 29)).heap.size=Va.heap.size+1:=by simp
     have kZb:=(hbB.block Va.heap.size (by simp)).trans (heap_alloc_new _ _)
     refine hK.out _ _ ?_ (fun hHeld=>?_)
     ·(try dsimp only);first|with_reducible exact hD5|with_reducible exact hbj|with_reducible exact hAl _ _ hbj|with_reducible exact hbb|with_reducible exact hAl _ _ hbb|with_reducible exact hba|with_reducible exact hAl _ _ hba|with_reducible exact hAl _ _ hD5|exact hAl _ _ hD5|exact A0f (A0f hbj (by have:=hba.size;have:=hbb.size;omega)) (by have:=hba.size;have:=hbb.size;omega)
     clear hK K
     try simp only[pT,Act.put]
     refine wpAnyH_ready (rs:=[10]) (by kernel_rfl) (by simp) ?_
     refine AllReadyH.cons rfl (fun K hK=>?_) AllReadyH.nil
     go_simp
     have sD:V7.drew.heap.size=V7.heap.size:=rfl
     have sba:=hba.size
     have sbb:=hbb.size
     have s7:V7.heap.size≤V7.drew.heap.size:=by simp
     refine(hJo V7.drew Va (Va.alloc (.cells #[.slice none 0 0,.slice none 0 0] 29)) Vb ya yb x0 y0 z0 x1 y1 z1 u0 v0 w0 u1 v1 w1 HYa.out ((Below.refl _ _).alloc (Nat.le_refl _) _) HYb.out hbB s7 hbA.size _ (Below.refl _ _) hbb).mono ?_
     rintro e Vj ⟨c,e0,f0,g0,e1,f1,g1,rfl,HC,hbj,hfj,HR⟩
     have sJ:=hfj.size
     have hnR:Va.heap.size∉LB.fp (d+1) ya++LB.fp (d+1) yb:=fun hm=>by
      have:=HR.out _ hm
      omega
     have kZj:=(hfj.blk (by omega) hnR).trans kZb
     obtain⟨z0',z1'⟩:=A0x kZj
     have zf0:=A0b kZj 0
     have zf1:=A0b kZj 1
     refine hK.out _ _ ?_ (fun hHeld=>?_)
     ·(try dsimp only);first|with_reducible exact hD5|with_reducible exact hbj|with_reducible exact hAl _ _ hbj|with_reducible exact hbb|with_reducible exact hAl _ _ hbb|with_reducible exact hba|with_reducible exact hAl _ _ hba|with_reducible exact hAl _ _ hD5|exact hAl _ _ hD5|exact A0f (A0f hbj (by have:=hba.size;have:=hbb.size;omega)) (by have:=hba.size;have:=hbb.size;omega)
     clear hK K
     try simp only[pT,Act.put]
     refine wpAnyH_ready (rs:=[12]) (by kernel_rfl) (by simp) ?_
     refine AllReadyH.cons rfl (fun K hK=>?_) AllReadyH.nil
     go_simp
     refine hK.out _ _ ?_ (fun hHeld=>?_)
     ·(try dsimp only);first|with_reducible exact hD5|with_reducible exact hbj|with_reducible exact hAl _ _ hbj|with_reducible exact hbb|with_reducible exact hAl _ _ hbb|with_reducible exact hba|with_reducible exact hAl _ _ hba|with_reducible exact hAl _ _ hD5|exact hAl _ _ hD5|exact A0f (A0f hbj (by have:=hba.size;have:=hbb.size;omega)) (by have:=hba.size;have:=hbb.size;omega)
     clear hK K
     try simp only[pT,Act.put]
     refine wpAnyH_done (by kernel_rfl) ?_ _
     go_wp2_with fail
     go_meet
     obtain⟨h1,h2,h3,h4⟩:=HC.out
     have hKK:V7.heap.size≤Va.heap.size:=by have:=hba.size;have:=hbb.size;omega
     refine⟨c,Va.heap.size,e0,f0,g0,e1,f1,g1,rfl,hKK,heap_setCell_same _ _ 1 _ _ _ (heap_setCell_same _ _ 0 _ _ _ kZj),⟨h1,h2,OwnB.fr (d+1) [Va.heap.size] _ _ c h3 (C0j kZj) (fun k hk hm=>?_),fun k hk=>by have:=h4 k hk;omega⟩,A0f (A0f hbj hKK) hKK⟩
     have:=h4 k hk
     rw[List.mem_singleton] at hm
     omega
   ·skip
    go_simp
    refine hK.out _ _ ?_ (fun hHeld=>?_)
    ·(try dsimp only);first|with_reducible exact hD5|with_reducible exact hbj|with_reducible exact hAl _ _ hbj|with_reducible exact hbb|with_reducible exact hAl _ _ hbb|with_reducible exact hba|with_reducible exact hAl _ _ hba|with_reducible exact hAl _ _ hD5|exact hAl _ _ hD5|exact A0f (A0f hbj (by have:=hba.size;have:=hbb.size;omega)) (by have:=hba.size;have:=hbb.size;omega)
    clear hK K
    try simp only[pT,Act.put]
    refine wpAnyH_ready (rs:=[7]) (by kernel_rfl) (by simp) ?_
    refine AllReadyH.cons rfl (fun K hK=>?_) AllReadyH.nil
    go_simp
    refine(hOa _ (hAl _ _ hD5)).mono ?_
    rintro e Va ⟨ya,x0,y0,z0,x1,y1,z1,rfl,HYa,hba,hbA⟩
    have sA:=hbA.size
    have sZ:(V7.drew.alloc (.cells #[.slice none 0 0,.slice none 0 0] 29)).heap.size=V7.drew.heap.size+1:=by simp
    have sD:V7.drew.heap.size=V7.heap.size:=rfl
    have kZa:=(hbA.block V7.heap.size (by simp)).trans (heap_alloc_new _ _)
    refine hK.out _ _ ?_ (fun hHeld=>?_)
    ·(try dsimp only);first|with_reducible exact hD5|with_reducible exact hbj|with_reducible exact hAl _ _ hbj|with_reducible exact hbb|with_reducible exact hAl _ _ hbb|with_reducible exact hba|with_reducible exact hAl _ _ hba|with_reducible exact hAl _ _ hD5|exact hAl _ _ hD5|exact A0f (A0f hbj (by have:=hba.size;have:=hbb.size;omega)) (by have:=hba.size;have:=hbb.size;omega)
    clear hK K
    try simp only[pT,Act.put]
    refine wpAnyH_ready (rs:=[9]) (by kernel_rfl) (by simp) ?_
    refine AllReadyH.cons rfl (fun K hK=>?_) AllReadyH.nil
    go_simp
    refine(hOb _ hba).mono ?_
    rintro e Vb ⟨yb,u0,v0,w0,u1,v1,w1,rfl,HYb,hbb,hbB⟩
    have sB:=hbB.size
    have kZb:=(hbB.block V7.heap.size (by have:=hba.size;omega)).trans kZa
    refine hK.out _ _ ?_ (fun hHeld=>?_)
    ·(try dsimp only);first|with_reducible exact hD5|with_reducible exact hbj|with_reducible exact hAl _ _ hbj|with_reducible exact hbb|with_reducible exact hAl _ _ hbb|with_reducible exact hba|with_reducible exact hAl _ _ hba|with_reducible exact hAl _ _ hD5|exact hAl _ _ hD5|exact A0f (A0f hbj (by have:=hba.size;have:=hbb.size;omega)) (by have:=hba.size;have:=hbb.size;omega)
    clear hK K
    try simp only[pT,Act.put]
    refine wpAnyH_ready (rs:=[10]) (by kernel_rfl) (by simp) ?_
    refine AllReadyH.cons rfl (fun K hK=>?_) AllReadyH.nil
    go_simp
    have sba:=hba.size
    have sbb:=hbb.size
    have s7:V7.heap.size≤(V7.drew.alloc (.cells #[.slice none 0 0,.slice none 0 0] 29)).heap.size:=by simp
    refine(hJo (V7.drew.alloc (.cells #[.slice none 0 0,.slice none 0 0] 29)) Va Va Vb ya yb x0 y0 z0 x1 y1 z1 u0 v0 w0 u1 v1 w1 HYa.out (Below.refl _ _) HYb.out hbB s7 hbA.size _ (Below.refl _ _) hbb).mono ?_
    rintro e Vj ⟨c,e0,f0,g0,e1,f1,g1,rfl,HC,hbj,hfj,HR⟩
    have sJ:=hfj.size
    have hnR:V7.heap.size∉LB.fp (d+1) ya++LB.fp (d+1) yb:=fun hm=>by
     have:=HR.out _ hm
     omega
    have kZj:=(hfj.blk (by omega) hnR).trans kZb
    obtain⟨z0',z1'⟩:=A0x kZj
    have zf0:=A0b kZj 0
    have zf1:=A0b kZj 1
    refine hK.out _ _ ?_ (fun hHeld=>?_)
    ·(try dsimp only);first|with_reducible exact hD5|with_reducible exact hbj|with_reducible exact hAl _ _ hbj|with_reducible exact hbb|with_reducible exact hAl _ _ hbb|with_reducible exact hba|with_reducible exact hAl _ _ hba|with_reducible exact hAl _ _ hD5|exact hAl _ _ hD5|exact A0f (A0f hbj (by have:=hba.size;have:=hbb.size;omega)) (by have:=hba.size;have:=hbb.size;omega)
    clear hK K
    try simp only[pT,Act.put]
    refine wpAnyH_ready (rs:=[12]) (by kernel_rfl) (by simp) ?_
    refine AllReadyH.cons rfl (fun K hK=>?_) AllReadyH.nil
    go_simp
    refine hK.out _ _ ?_ (fun hHeld=>?_)
    ·(try dsimp only);first|with_reducible exact hD5|with_reducible exact hbj|with_reducible exact hAl _ _ hbj|with_reducible exact hbb|with_reducible exact hAl _ _ hbb|with_reducible exact hba|with_reducible exact hAl _ _ hba|with_reducible exact hAl _ _ hD5|exact hAl _ _ hD5|exact A0f (A0f hbj (by have:=hba.size;have:=hbb.size;omega)) (by have:=hba.size;have:=hbb.size;omega)
    clear hK K
    try simp only[pT,Act.put]
    refine wpAnyH_done (by kernel_rfl) ?_ _
    go_wp2_with fail
    go_meet
    obtain⟨h1,h2,h3,h4⟩:=HC.out
    have hKK:V7.heap.size≤V7.heap.size:=by have:=hba.size;have:=hbb.size;omega
    refine⟨c,V7.heap.size,e0,f0,g0,e1,f1,g1,rfl,hKK,heap_setCell_same _ _ 1 _ _ _ (heap_setCell_same _ _ 0 _ _ _ kZj),⟨h1,h2,OwnB.fr (d+1) [V7.heap.size] _ _ c h3 (C0j kZj) (fun k hk hm=>?_),fun k hk=>by have:=h4 k hk;omega⟩,A0f (A0f hbj hKK) hKK⟩
    have:=h4 k hk
    rw[List.mem_singleton] at hm
    omega
  case rest=>
   obtain⟨c,K,e0,f0,g0,e1,f1,g1,rfl,hK,xK,HC,hbc⟩:=hcut
   have hzc:=hbc.size
   have hbwc:Below w.heap.size w wc:=BTr hbw7 hbc
   have hrd:BRd d wc (.slice e0 f0 g0) (.slice e1 f1 g1) (jnB g.msgs (d+1) M a b):=by
    obtain⟨h1,h2,h3,_⟩:=HC.out
    have h4:=OwnB.rd h3
    obtain⟨h5,h6⟩:(BL.q0 c).v = .slice e0 f0 g0∧(BL.q1 c).v = .slice e1 f1 g1:=by
     have : [(BL.q0 c).v,(BL.q1 c).v] = [.slice e0 f0 g0,.slice e1 f1 g1]:=h1
     simpa using this
    rw[h5,h6,h2] at h4
    exact h4
   have lc0:=(hbc.block w.heap.size (by omega)).trans l0
   have lc1:=(hbc.block (w.heap.size+1) (by omega)).trans l1
   have lc4:=(hbc.block (w.heap.size+4) (by omega)).trans l4
   have hcall:=A8i (HI.out.below hbwc) lc0 lc1 hrd HOC.out
   obtain⟨qK0,qK1⟩:=A0x xK
   have HRD:Hid _:=hrd
   generalize hF:A0z g d (j:Int) (jnB g.msgs (d+1) M a b)=F at hcall
   have HJF:Hid (A3q g d (j:Int) a b=F):=by
    show _=_
    rw[HJE.out,hF]
   have HF:Hid (A0z g d (j:Int) (jnB g.msgs (d+1) M a b)=F):=hF
   clear hcl5 hAl hOa hOb hJo hrd lc0 lc1 hF
   by_cases hz:F=0
   ·have ez2:(F != 0)=false:=by simp[hz]
    go_wp2_with fail
    refine hcall.mono ?_
    rintro e wE ⟨rfl,hbE⟩
    have lE:=(hbE.block (w.heap.size+4) (by omega)).trans lc4
    have lK:=(hbE.block K (Array.getElem?_eq_some_iff.1 xK).1).trans xK
    obtain⟨qE0,qE1⟩:=A0x lE
    obtain⟨qL0,qL1⟩:=A0x lK
    have fE0:=A0b lE 0
    have fE1:=A0b lE 1
    go_wp2_with fail
    refine bodyPost_ret (v:=.tuple #[.agg #[.slice e0 f0 g0,.slice e1 f1 g1],.int .i64 0]) (by simp[results,Tryz.results12,go_sem, *]) rfl ?_
    have hbf:Below w.heap.size w wE:=BTr hbwc hbE
    refine⟨A0f (A0f hbf (by omega)) (by omega),.inr ⟨by rw[HJF.out,hz],M,e0,f0,g0,e1,f1,g1,HEA.out.1,HEA.out.2.1,HEA.out.2.2,by rw[HF.out,hz],rfl,?_⟩⟩
    obtain⟨h1,h2,h3,h4⟩:=HC.out
    exact⟨c,h1,h2,OwnB.fr (d+1) [w.heap.size+4] _ _ c (h3.below hbE) (C0j lE (x0:=.slice e0 f0 g0) (x1:=.slice e1 f1 g1)) fun k hk hm=>by
     have:=h4 k hk
     rw[List.mem_singleton] at hm
     omega⟩
   ·have ez2:(F != 0)=true:=by simpa using hz
    go_wp2_with fail
    refine hcall.mono ?_
    rintro e wE ⟨rfl,hbE⟩
    have lE:=(hbE.block (w.heap.size+4) (by omega)).trans lc4
    obtain⟨qE0,qE1⟩:=A0x lE
    have fE0:=A0b lE 0
    have fE1:=A0b lE 1
    go_wp2_with fail
    refine bodyPost_ret (v:=.tuple #[.agg #[.slice none 0 0,.slice none 0 0],.int .i64 F]) (by simp[results,Tryz.results12,go_sem, *]) rfl ?_
    have hbf:Below w.heap.size w wE:=BTr hbwc hbE
    exact⟨A0f (A0f hbf (by omega)) (by omega),.inl ⟨by rw[HJF.out];exact hz,by rw[HJF.out]⟩⟩
 ·have ez:(E1 != 0)=true:=by simpa using hz
  have HJF:Hid (A3q g d msg a b=E1):=by
   show _=_
   unfold A3q
   rw[hE,if_pos hz]
  clear hE
  go_enter Tryz.func12,Tryz.ntmps12
  go_wp2_with fail
  rw[←HW5.out]
  go_wp2_with fail
  rw[←HW6.out]
  refine hfirst.mono ?_
  rintro e V7 ⟨rfl,hb67⟩
  obtain⟨_,_,_,_,l4⟩:=rR V7 hb67
  obtain⟨qE0,qE1⟩:=A0x l4
  have fE0:=A0b l4 0
  have fE1:=A0b l4 1
  go_wp2_with fail
  refine bodyPost_ret (v:=.tuple #[.agg #[.slice none 0 0,.slice none 0 0],.int .i64 E1]) (by simp[results,Tryz.results12,go_sem, *]) rfl ?_
  have hbf:Below w.heap.size w V7:=BTr hb6 hb67
  exact⟨A0f (A0f hbf (by omega)) (by omega),.inl ⟨by rw[HJF.out];exact hz,by rw[HJF.out]⟩⟩
end L
end Go.Proofs.YtelmjekjohbmjaaGreatDoor
