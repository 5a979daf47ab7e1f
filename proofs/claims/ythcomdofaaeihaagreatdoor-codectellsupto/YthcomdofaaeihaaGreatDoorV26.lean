import Derived.Test.YthcomdofaaeihaaGreatDoorV24
set_option maxHeartbeats 32000000
set_option maxRecDepth 100000
set_option linter.unusedVariables false
namespace Go.Proofs.YthcomdofaaeihaaGreatDoor
namespace L
open Go.RowKit
variable{d:Nat}{g:GI}{msg:Int}{w:World}
theorem B4k {W0:World}{ms:List MI}{am:Option Addr}{nm cm:Nat}{ae:Option Addr}{ne ce:Nat}(ac:RdL 3 MAt W0 (.slice am nm cm) ms)(ag:∀ M∈ms,(∀ f∈M.fD,I64 f.nU∧I64 f.cE)∧M.fD.length≤140737488355328):∀ d,cV W0 ms am nm cm ae ne ce d
 | 0=>fun _ _ _ _ _ _ _ _ _ a=>nomatch (a:Empty)
 | d+1=>C0k ac ag (B4k ac ag d)
def sI (g:GI)(d:Nat)(msg:Int)(a b:BI (d+1)):Int:=
 if yJ (wD g d msg) [a,b]≠0 then yJ (wD g d msg) [a,b]
 else match g.mG[msg.toNat]? with
  | some M=>wD g d msg (jnB g.mG (d+1) M a b)
  | none=>0
theorem D6d {α:Type}{f : α→Int}{a b : α}(h:yJ f [a,b]=0):f a=0∧f b=0:=⟨gC h a (by simp),gC h b (by simp)⟩
theorem TR {x:BI (d+1)}(h:wD g d msg x=0):(yB g).1=0∧0≤msg∧msg<(g.mG.length:Int)∧∃ M,g.mG[msg.toNat]?=some M∧yT g (d+1) 1 M.fD x=0:=by
 unfold wD at h;split at h
 ·rename_i h1;exact absurd h h1
 rename_i h1;split at h
 ·cases h
 rename_i h2;split at h
 ·rename_i M hM;exact⟨by simpa using h1,by omega,by omega,M,hM,h⟩
 cases h
def D7p (B:Nat)(g:GI)(d:Nat)(msg:Int)(a b:BI (d+1))(e:Ending)(w':World):Prop:=
 (sI g d msg a b≠0∧e = .returned (.tuple #[.agg #[.slice none 0 0,.slice none 0 0],.int .i64 (sI g d msg a b)]))∨
 (sI g d msg a b=0∧∃ (M:MI) (e0:Option Addr) (f0 g0:Nat) (e1:Option Addr) (f1 g1:Nat),wD g d msg a=0∧wD g d msg b=0∧g.mG[msg.toNat]?=some M∧wD g d msg (jnB g.mG (d+1) M a b)=0∧e = .returned (.tuple #[.agg #[.slice e0 f0 g0,.slice e1 f1 g1],.int .i64 0])∧∃ c:LB (d+1),vO (d+1) c = [.slice e0 f0 g0,.slice e1 f1 g1]∧LB.pl (d+1) c=jnB g.mG (d+1) M a b∧OwnB B (d+1) w' c)
theorem VE {B:Nat}{c:LB (d+1)}{e0:Option Addr}{f0 g0:Nat}{e1:Option Addr}{f1 g1:Nat}{x:BI (d+1)}(h1:vO (d+1) c = [.slice e0 f0 g0,.slice e1 f1 g1])(h2:LB.pl (d+1) c=x)(h:OwnB B (d+1) w c):BRd d w (.slice e0 f0 g0) (.slice e1 f1 g1) x:=by
 have h5:=OwnB.rd h;obtain⟨h6,h7⟩:(BL.q0 c).v = .slice e0 f0 g0∧(BL.q1 c).v = .slice e1 f1 g1:=by
  have : [(BL.q0 c).v,(BL.q1 c).v] = [.slice e0 f0 g0,.slice e1 f1 g1]:=h1;simpa using this
 rw[h6,h7,h2] at h5;exact h5
theorem Qk2{P:Prop}(h:P:=by
 (try dsimp only);first|with_reducible exact ak|with_reducible exact aj|with_reducible exact ac _ _ aj|with_reducible exact ag|with_reducible exact ac _ _ ag|with_reducible exact ah|with_reducible exact ac _ _ ah|with_reducible exact ac _ _ ak|exact ac _ _ ak|exact yL (yL aj (by have:=ah.size;have:=ag.size;omega)) (by have:=ah.size;have:=ag.size;omega)):P:=h
theorem D4b {am:Option Addr}{nm cm:Nat}{ae:Option Addr}{ne ce:Nat}(hI:WIn g am nm cm ae ne ce msg w){v0 v1 u0 u1:Value}{a b:BI (d+1)}(ha:BRd d w v0 v1 a)(cw:BOk (d+1) a)(hb:BRd d w u0 u1 b)(df:BOk (d+1) b)(hW:jWB (d+1) a+jWB (d+1) b≤1000000000) :
  Calls Tryz.prog 181 #[.agg #[.slice am nm cm,.slice ae ne ce],.int .i64 msg,.agg #[v0,v1],.agg #[u0,u1]] w fun e w'=>zB w w'∧D7p w.heap.size g d msg a b e w':=by
 obtain⟨a0,n0,c0,a1,n1,c1,rfl,rfl⟩:=ha.sH;obtain⟨b0,m0,d0,b1,m1,d1,rfl,rfl⟩:=hb.sH;obtain⟨W5,dw⟩:=zM (((((w.alloc (.cells #[.slice am nm cm,.slice ae ne ce] 25)).alloc (.cells #[.int .i64 msg] 3)).alloc (.cells #[.slice a0 n0 c0,.slice a1 n1 c1] 29)).alloc (.cells #[.slice b0 m0 d0,.slice b1 m1 d1] 29)).alloc (.cells #[.slice none 0 0,.slice none 0 0] 29));have iw:zB w W5:=by rw[dw.out];exact(((((zH _ _).alloc (zG _) _).alloc (by simp) _).alloc (by simp;omega) _).alloc (by simp;omega) _).alloc (by simp;omega) _
 obtain⟨x0,x1,x2,x3,x4,xz⟩:=iM w (.cells #[.slice am nm cm,.slice ae ne ce] 25) (.cells #[.int .i64 msg] 3) (.cells #[.slice a0 n0 c0,.slice a1 n1 c1] 29) (.cells #[.slice b0 m0 d0,.slice b1 m1 d1] 29) (.cells #[.slice none 0 0,.slice none 0 0] 29);rw[←dw.out] at x0 x1 x2 x3 x4 xz;obtain⟨W6,eh,ba,x5,-⟩:=zV W5 (.cells #[.slice a0 n0 c0,.slice a1 n1 c1,.slice b0 m0 d0,.slice b1 m1 d1] 29);have g9:W6.heap.size=W5.heap.size+1:=by rw[eh.out];simp
 have dm:=zP iw ba;have z5:=xD xz;have jp:=xD xz.symm;have z6:=xD g9.symm;have k0:=(ba.block w.heap.size (by omega)).trans x0;have k1:=(ba.block (w.heap.size+1) (by omega)).trans x1;have cg:RdL 2 (BAt (d+1)) W6 (.slice (some ⟨W5.heap.size,0,none⟩) 2 2) [a,b]:=by
  obtain⟨q0,q1,q2,q3⟩:=wK x5;have gl:=ha.bL dm;have dn:=hb.bL dm;refine⟨_,_,_,rfl,rfl,by omega,by unfold maxLen;omega,fun h=>(by cases h),fun x hx k y hy=>?_⟩;cases hx
  match k,hy with
  | 0,hy=>
   obtain rfl:a=y:=by simpa using hy
   exact⟨_,_,q0,q1,gl.1,gl.2⟩
  | 1,hy=>
   obtain rfl:b=y:=by simpa using hy
   exact⟨_,_,q2,q3,dn.1,dn.2⟩
  | k+2,hy=>simp at hy
 have au:=C8w (hI.bL dm) k0 k1 cg (fun s hs=>by
  rcases yY.1 hs with rfl|hs
  ·exact cw
  rw[zS.1 hs];exact df)
 rw[xz] at au;obtain⟨i7,i9⟩:=zO x2;obtain⟨ja,jb⟩:=zO x3;have HI:Hid _:=hI;have HA:=zI ha;have HB:=zI hb;have gg:Hid _:=hW;have d9:=zI cw;have ee:=zI df;have rR:∀ V,zB W6 V→V.heap[w.heap.size]?=some (.cells #[.slice am nm cm,.slice ae ne ce] 25 (0,0))∧V.heap[w.heap.size+1]?=some (.cells #[.int .i64 msg] 3 (0,0))∧V.heap[w.heap.size+2]?=some (.cells #[.slice a0 n0 c0,.slice a1 n1 c1] 29 (0,0))∧V.heap[w.heap.size+3]?=some (.cells #[.slice b0 m0 d0,.slice b1 m1 d1] 29 (0,0))∧V.heap[w.heap.size+4]?=some (.cells #[.slice none 0 0,.slice none 0 0] 29 (0,0)):=fun V hV=>
  ⟨(zN hV).trans k0,(zN hV).trans k1,((zN hV).trans (zN ba)).trans x2,((zN hV).trans (zN ba)).trans x3,((zN hV).trans (zN ba)).trans x4⟩
 clear hI ha hb cw df hW x0 x1 x4 x5 xz g9 cg;generalize hE:yJ (wD g d msg) [a,b]=E1 at au;by_cases hz:E1=0
 ·subst hz;have ez:((0:Int) != 0)=false:=rfl;obtain⟨fh,fj⟩:=D6d hE;obtain⟨fz,jg,jh,M,hM,gq⟩:=TR fh;obtain⟨_,_,_,M',eo,dr⟩:=TR fj;obtain rfl:M=M':=by rw[hM] at eo;exact Option.some.inj eo
  have dx:=xV hM;have g7:=UC (sY fz) (d+1) 1 M a dx d9.out gq;have g8:=UC (sY fz) (d+1) 1 M b dx ee.out dr;obtain⟨bm,om,rfl,fq⟩:=HI.out.hg.1.get MAt.plain hM;obtain⟨vf,vb,gz,fu,fw,fk,gu⟩:=fq;rw[xS] at fu fw;obtain⟨af,nf,cf,rfl,_,_⟩:=fk.sH;obtain⟨ab,nb,cb,rfl,_,_⟩:=gu.sH;obtain⟨j,rfl⟩:∃ j:Nat,msg=(j:Int):=⟨msg.toNat,by omega⟩
  rw[qU] at gz fu fw;have je:(j:Int)<(nm:Int):=by have:=HI.out.hg.1.len.1;omega
  have jd:¬ (j:Int)<0:=by omega
  have gj:=B4k (ae:=ae) (ne:=ne) (ce:=ce) HI.out.hg.1 HI.out.fok (d+1);have HJ:Hid _:=gj;have HS:Hid (ShB g.mG (d+1) M a∧ShB g.mG (d+1) M b∧M∈g.mG∧RdL 6 FAt w (.slice af nf cf) M.fD):=⟨g7,g8,dx,fk⟩
  have iq:Hid (sI g d (j:Int) a b=wD g d (j:Int) (jnB g.mG (d+1) M a b)):=by
   show _=_;unfold sI;rw[hE,zC (by simp),hM]
  have dz:Hid (wD g d (j:Int) a=0∧wD g d (j:Int) b=0∧g.mG[(j:Int).toNat]?=some M):=⟨fh,fj,hM⟩
  have ir:Hid (BOk (d+1) (jnB g.mG (d+1) M a b)):=D8h d9.out ee.out gg.out;clear gj g7 g8 dx fk gu hE fh fj hM eo gq dr fz;go_enter Tryz.func181,Tryz.ntmps181;go_wp2_with fail
  rw[←dw.out];go_wp2_with fail
  rw[←eh.out];refine au.mono ?_;rintro e V7 ⟨rfl,bc⟩;have i5:=bc.size;obtain⟨l0,l1,l2,l3,l4⟩:=rR V7 bc;have bn:=zP dm bc;have av:∀ V,zB V7 V→(V.cell? ⟨w.heap.size,0,none⟩=some (.slice (some ⟨bm,om,none⟩) nm cm)∧V.cell? ⟨w.heap.size,1,none⟩=some (.slice ae ne ce)∧V.cell? ⟨w.heap.size+1,0,none⟩=some (.int .i64 (j:Int))∧V.cell? ⟨w.heap.size+2,0,none⟩=some (.slice a0 n0 c0)∧V.cell? ⟨w.heap.size+2,1,none⟩=some (.slice a1 n1 c1))∧(V.cell? ⟨w.heap.size+3,0,none⟩=some (.slice b0 m0 d0)∧V.cell? ⟨w.heap.size+3,1,none⟩=some (.slice b1 m1 d1))∧V.cell? ⟨bm,om+j*3,none⟩=some (.string (S M.name))∧V.cell? ⟨bm,om+j*3+1,none⟩=some (.slice af nf cf)∧V.cell? ⟨bm,om+j*3+2,none⟩=some (.slice ab nb cb):=fun V hV=>by
   obtain⟨e0,e1⟩:=zO ((zN hV).trans l0);obtain⟨e2,e3⟩:=zO ((zN hV).trans l2);obtain⟨e4,e5⟩:=zO ((zN hV).trans l3);have ew:=zP bn hV;exact⟨⟨e0,e1,zL ((zN hV).trans l1) 0 _ rfl,e2,e3⟩,⟨e4,e5⟩,zQ ew gz,zQ ew fu,zQ ew fw⟩
  have ak:zB V7 V7.drew:=(zH _ _).drew;have ac:∀ V o,zB V7 V→zB V7 (V.alloc o):=fun V o hV=>hV.alloc hV.size o
  have hown:∀ (a0:Option Addr) (n0 c0:Nat) (a1:Option Addr) (n1 c1:Nat) (a:BI (d+1)),BRd d w (.slice a0 n0 c0) (.slice a1 n1 c1) a→BOk (d+1) a→∀ V,zB V7 V→Calls Tryz.prog 183 #[.agg #[.slice a0 n0 c0,.slice a1 n1 c1]] V fun e w'=>∃ (y:LB (d+1)) (x0:Option Addr) (y0 z0:Nat) (x1:Option Addr) (y1 z1:Nat),e = .returned (.agg #[.slice x0 y0 z0,.slice x1 y1 z1])∧Hid (vO (d+1) y = [.slice x0 y0 z0,.slice x1 y1 z1]∧LB.pl (d+1) y=a∧OwnB w.heap.size (d+1) w' y∧(∀ k∈LB.fp (d+1) y,V.heap.size≤k∧k<w'.heap.size)∧(LB.fp (d+1) y).Nodup)∧zB V7 w'∧zB V w':=fun a0 n0 c0 a1 n1 c1 a hA ix V hV=>by
   have gp:=zP bn hV;refine(ZQ (d+1) V w.heap.size a0 n0 c0 a1 n1 c1 a gp.size (show BRd d V _ _ a from hA.bL gp) ix).mono ?_;rintro e w' ⟨y,x0,y0,z0,x1,y1,z1,h1,rfl,h3,h4,h5,h6,h7⟩;exact⟨y,x0,y0,z0,x1,y1,z1,rfl,⟨h1,h3,h4,fun k hk=>⟨h5 k hk,(OwnB.inB (d+1) h4 k hk).2⟩,h6⟩,zP hV h7,h7⟩
  have eu:=hown a0 n0 c0 a1 n1 c1 a HA.out d9.out;have dy:=hown b0 m0 d0 b1 m1 d1 b HB.out ee.out;have dl:∀ (V Va Vb V':World) (ya yb:LB (d+1)) (x0:Option Addr) (y0 z0:Nat) (x1:Option Addr) (y1 z1:Nat) (u0:Option Addr) (v0 w0:Nat) (u1:Option Addr) (v1 w1:Nat),(vO (d+1) ya = [.slice x0 y0 z0,.slice x1 y1 z1]∧LB.pl (d+1) ya=a∧OwnB w.heap.size (d+1) Va ya∧(∀ k∈LB.fp (d+1) ya,V.heap.size≤k∧k<Va.heap.size)∧(LB.fp (d+1) ya).Nodup)→zB Va Vb→(vO (d+1) yb = [.slice u0 v0 w0,.slice u1 v1 w1]∧LB.pl (d+1) yb=b∧OwnB w.heap.size (d+1) V' yb∧(∀ k∈LB.fp (d+1) yb,Vb.heap.size≤k∧k<V'.heap.size)∧(LB.fp (d+1) yb).Nodup)→zB Vb V'→V7.heap.size≤V.heap.size→V.heap.size≤Va.heap.size→∀ VJ,zB V' VJ→zB V7 VJ→Calls Tryz.prog 214 #[.agg #[.slice (some ⟨bm,om,none⟩) nm cm,.slice ae ne ce],.agg #[.string (S M.name),.slice af nf cf,.slice ab nb cb],.agg #[.slice x0 y0 z0,.slice x1 y1 z1],.agg #[.slice u0 v0 w0,.slice u1 v1 w1]] VJ fun e w'=>
    ∃ (c:LB (d+1)) (e0:Option Addr) (f0 g0:Nat) (e1:Option Addr) (f1 g1:Nat),e = .returned (.agg #[.slice e0 f0 g0,.slice e1 f1 g1])∧Hid (vO (d+1) c = [.slice e0 f0 g0,.slice e1 f1 g1]∧LB.pl (d+1) c=jnB g.mG (d+1) M a b∧OwnB w.heap.size (d+1) w' c∧(∀ k∈LB.fp (d+1) c,(V.heap.size≤k∧k<Va.heap.size)∨(Vb.heap.size≤k∧k<V'.heap.size)∨VJ.heap.size≤k))∧zB V7 w'∧FrB (LB.fp (d+1) ya++LB.fp (d+1) yb) VJ w'∧Hid (∀ k∈LB.fp (d+1) ya++LB.fp (d+1) yb,(V.heap.size≤k∧k<Va.heap.size)∨(Vb.heap.size≤k∧k<V'.heap.size)):=fun V Va Vb V' ya yb x0 y0 z0 x1 y1 z1 u0 v0 w0 u1 v1 w1 iy hab iz ag h7 h8 VJ ei fd=>by
   obtain⟨p1,p2,p3,p4,p5⟩:=iy;obtain⟨r1,r2,r3,r4,r5⟩:=iz;have s1:=hab.size;have s2:=ag.size;have s3:=ei.size;have hr:∀ k∈LB.fp (d+1) ya++LB.fp (d+1) yb,(V.heap.size≤k∧k<Va.heap.size)∨(Vb.heap.size≤k∧k<V'.heap.size):=fun k hk=>by
    rcases zU.1 hk with hk|hk
    ·exact .inl (p4 k hk)
    ·exact .inr (r4 k hk)
   have fe:=zP bn fd;refine(HJ.out VJ M M.name af nf cf ab nb cb ya yb x0 y0 z0 x1 y1 z1 u0 v0 w0 u1 v1 w1 fe HS.out.2.2.1 HS.out.2.2.2 p1 r1 (p3.bL (zP (zP hab ag) ei)) (r3.bL ei) (fun k=>?_) (by rw[p2];exact HS.out.1) (by rw[r2];exact HS.out.2.1) (by rw[p2,r2];exact gg.out)).mono ?_
   ·have t1:=mR.1 p5 k;have t2:=mR.1 r5 k;by_cases hk:k∈LB.fp (d+1) ya
    ·have t3:=p4 k hk;have t4:(LB.fp (d+1) yb).count k=0:=XF fun hm=>by have:=r4 k hm;omega
     omega
    ·have t4:=XF hk;omega
   ·rintro e w' ⟨c,e0,f0,g0,e1,f1,g1,rfl,hE,hP,hO,hF,gw⟩;refine⟨c,e0,f0,g0,e1,f1,g1,rfl,⟨hE.out,by rw[hP.out,p2,r2],hO.out,fun k hk=>?_⟩,?_,gw,hr⟩
    ·rcases hF.out.mem hk with h|h
     ·rcases hr k h with h|h
      ·exact .inl h
      ·exact .inr (.inl h)
     ·exact .inr (.inr h)
    ·exact fd.trans (gw.bL fd.size fun k hk=>by have:=hr k hk;omega)
  clear hown rR au i7 i9 ja jb l2 l3 x2 x3 k0 k1;go_wp2_with fail
  go_cut [12] from 24 to 34 (fun s12 wc=>∃ (c:LB (d+1)) (K:Nat) (e0:Option Addr) (f0 g0:Nat) (e1:Option Addr) (f1 g1:Nat),s12 = .pointer (some ⟨K,0,none⟩)∧V7.heap.size≤K∧wc.heap[K]?=some (.cells #[.slice e0 f0 g0,.slice e1 f1 g1] 29 (0,0))∧Hid (vO (d+1) c = [.slice e0 f0 g0,.slice e1 f1 g1]∧LB.pl (d+1) c=jnB g.mG (d+1) M a b∧OwnB w.heap.size (d+1) wc c∧∀ k∈LB.fp (d+1) c,V7.heap.size≤k)∧zB V7 wc)
  case first=>
   refine wp_region_held_drew (S:=fun V=>zB V7 V) (by kernel_rfl) ak (fun hHeld=>?_);refine zTk 0 rfl av ?_
   try simp only[Act.put,oS]
   refine zTk 1 rfl av ?_
   try simp only[Act.put]
   refine zTk 2 rfl av ?_
   try simp only[Act.put]
   refine zTk 3 rfl av ?_
   try simp only[Act.put]
   refine zTk 4 rfl av ?_
   try simp only[Act.put]
   refine zTk 5 rfl av ?_
   try simp only[Act.put]
   refine zTk 6 rfl av ?_
   try simp only[Act.put]
   refine zTk 8 rfl av ?_
   try simp only[Act.put]
   refine rB (i:=7) (j:=11) rfl (fun K hK=>?_) rfl fun K hK=>?_
   ·skip;go_simp;refine(eu _ ak).mono ?_;rintro e Va ⟨ya,x0,y0,z0,x1,y1,z1,rfl,di,ah,bu⟩;have sA:=bu.size;refine hK.out _ _ ?_ (fun hHeld=>?_)
    ·exact Qk2
    clear hK K
    try simp only[zE]
    refine rB (i:=9) (j:=11) rfl (fun K hK=>?_) rfl fun K hK=>?_
    ·skip;go_simp;refine(dy _ ah).mono ?_;rintro e Vb ⟨yb,u0,v0,w0,u1,v1,w1,rfl,dh,ag,bh⟩;have sB:=bh.size;refine hK.out _ _ ?_ (fun hHeld=>?_)
     ·exact Qk2
     clear hK K
     try simp only[zE]
     refine rB (i:=10) (j:=11) rfl (fun K hK=>?_) rfl fun K hK=>?_
     ·skip;go_simp;have sD:V7.drew.heap.size=V7.heap.size:=rfl;have f9:=ah.size;have gc:=ag.size;have s7:V7.heap.size≤V7.drew.heap.size:=by simp
      refine(dl V7.drew Va Va Vb ya yb x0 y0 z0 x1 y1 z1 u0 v0 w0 u1 v1 w1 di.out (zH _ _) dh.out bh s7 bu.size _ (zH _ _) ag).mono ?_;rintro e Vj ⟨c,e0,f0,g0,e1,f1,g1,rfl,HC,aj,bl,HR⟩;have sJ:=bl.size;refine hK.out _ _ ?_ (fun hHeld=>?_)
      ·exact Qk2
      clear hK K
      try simp only[zE]
      refine rA (i:=11) rfl fun K hK=>?_
      go_simp;refine hK.out _ _ ?_ (fun hHeld=>?_)
      ·exact Qk2
      clear hK K
      try simp only[zE]
      refine rA (i:=12) rfl fun K hK=>?_
      go_simp;refine hK.out _ _ ?_ (fun hHeld=>?_)
      ·exact Qk2
      clear hK K
      try simp only[zE]
      refine wpAnyH_done (by kernel_rfl) ?_ _;go_wp2_with fail
      go_meet;obtain⟨h1,h2,h3,h4⟩:=HC.out;exact⟨c,_,e0,f0,g0,e1,f1,g1,rfl,aj.size,yM _ _,⟨h1,h2,h3.bL ((zH _ _).alloc (zG _) _),fun k hk=>by have:=h4 k hk;omega⟩,ac _ _ aj⟩
     skip;go_simp;refine hK.out _ _ ?_ (fun hHeld=>?_)
     ·exact Qk2
     clear hK K
     try simp only[zE]
     refine rA (i:=10) rfl fun K hK=>?_
     go_simp;have sZ:(Vb.alloc (.cells #[.slice none 0 0,.slice none 0 0] 29)).heap.size=Vb.heap.size+1:=by simp
     have sD:V7.drew.heap.size=V7.heap.size:=rfl;have f9:=ah.size;have gc:=ag.size;have s7:V7.heap.size≤V7.drew.heap.size:=by simp
     refine(dl V7.drew Va Va Vb ya yb x0 y0 z0 x1 y1 z1 u0 v0 w0 u1 v1 w1 di.out (zH _ _) dh.out bh s7 bu.size _ ((zH _ _).alloc (zG _) _) (ac _ _ ag)).mono ?_;rintro e Vj ⟨c,e0,f0,g0,e1,f1,g1,rfl,HC,aj,bl,HR⟩;have sJ:=bl.size;have dv:Vb.heap.size∉LB.fp (d+1) ya++LB.fp (d+1) yb:=fun hm=>by
      have:=HR.out _ hm;omega
     have aw:=(bl.blk (by omega) dv).trans (yM _ _);obtain⟨il,im⟩:=zO aw;have io:=zJ aw 0;have ip:=zJ aw 1;refine hK.out _ _ ?_ (fun hHeld=>?_)
     ·exact Qk2
     clear hK K
     try simp only[zE]
     refine rA (i:=12) rfl fun K hK=>?_
     go_simp;refine hK.out _ _ ?_ (fun hHeld=>?_)
     ·exact Qk2
     clear hK K
     try simp only[zE]
     refine wpAnyH_done (by kernel_rfl) ?_ _;go_wp2_with fail
     go_meet;obtain⟨h1,h2,h3,h4⟩:=HC.out;have bg:V7.heap.size≤Vb.heap.size:=by have:=ah.size;have:=ag.size;omega
     refine⟨c,Vb.heap.size,e0,f0,g0,e1,f1,g1,rfl,bg,yO _ _ 1 _ _ _ (yO _ _ 0 _ _ _ aw),⟨h1,h2,OwnB.fr (d+1) [Vb.heap.size] _ _ c h3 (fC aw) (fun k hk hm=>?_),fun k hk=>by have:=h4 k hk;omega⟩,yL (yL aj bg) bg⟩;have:=h4 k hk;rw[zS] at hm;omega
    skip;go_simp;refine hK.out _ _ ?_ (fun hHeld=>?_)
    ·exact Qk2
    clear hK K
    try simp only[zE]
    refine rA (i:=9) rfl fun K hK=>?_
    go_simp;refine(dy _ (ac _ _ ah)).mono ?_;rintro e Vb ⟨yb,u0,v0,w0,u1,v1,w1,rfl,dh,ag,bh⟩;have sB:=bh.size;have sZ:(Va.alloc (.cells #[.slice none 0 0,.slice none 0 0] 29)).heap.size=Va.heap.size+1:=by simp
    have f6:=(bh.block Va.heap.size (by simp)).trans (yM _ _);refine hK.out _ _ ?_ (fun hHeld=>?_)
    ·exact Qk2
    clear hK K
    try simp only[zE]
    refine rA (i:=10) rfl fun K hK=>?_
    go_simp;have sD:V7.drew.heap.size=V7.heap.size:=rfl;have f9:=ah.size;have gc:=ag.size;have s7:V7.heap.size≤V7.drew.heap.size:=by simp
    refine(dl V7.drew Va (Va.alloc (.cells #[.slice none 0 0,.slice none 0 0] 29)) Vb ya yb x0 y0 z0 x1 y1 z1 u0 v0 w0 u1 v1 w1 di.out ((zH _ _).alloc (zG _) _) dh.out bh s7 bu.size _ (zH _ _) ag).mono ?_;rintro e Vj ⟨c,e0,f0,g0,e1,f1,g1,rfl,HC,aj,bl,HR⟩;have sJ:=bl.size;have dv:Va.heap.size∉LB.fp (d+1) ya++LB.fp (d+1) yb:=fun hm=>by
     have:=HR.out _ hm;omega
    have aw:=(bl.blk (by omega) dv).trans f6;obtain⟨il,im⟩:=zO aw;have io:=zJ aw 0;have ip:=zJ aw 1;refine hK.out _ _ ?_ (fun hHeld=>?_)
    ·exact Qk2
    clear hK K
    try simp only[zE]
    refine rA (i:=12) rfl fun K hK=>?_
    go_simp;refine hK.out _ _ ?_ (fun hHeld=>?_)
    ·exact Qk2
    clear hK K
    try simp only[zE]
    refine wpAnyH_done (by kernel_rfl) ?_ _;go_wp2_with fail
    go_meet;obtain⟨h1,h2,h3,h4⟩:=HC.out;have bg:V7.heap.size≤Va.heap.size:=by have:=ah.size;have:=ag.size;omega
    refine⟨c,Va.heap.size,e0,f0,g0,e1,f1,g1,rfl,bg,yO _ _ 1 _ _ _ (yO _ _ 0 _ _ _ aw),⟨h1,h2,OwnB.fr (d+1) [Va.heap.size] _ _ c h3 (fC aw) (fun k hk hm=>?_),fun k hk=>by have:=h4 k hk;omega⟩,yL (yL aj bg) bg⟩;have:=h4 k hk;rw[zS] at hm;omega
   skip;go_simp;refine hK.out _ _ ?_ (fun hHeld=>?_)
   ·exact Qk2
   clear hK K
   try simp only[zE]
   refine rA (i:=7) rfl fun K hK=>?_
   go_simp;refine(eu _ (ac _ _ ak)).mono ?_;rintro e Va ⟨ya,x0,y0,z0,x1,y1,z1,rfl,di,ah,bu⟩;have sA:=bu.size;have sZ:(V7.drew.alloc (.cells #[.slice none 0 0,.slice none 0 0] 29)).heap.size=V7.drew.heap.size+1:=by simp
   have sD:V7.drew.heap.size=V7.heap.size:=rfl;have i6:=(bu.block V7.heap.size (by simp)).trans (yM _ _);refine hK.out _ _ ?_ (fun hHeld=>?_)
   ·exact Qk2
   clear hK K
   try simp only[zE]
   refine rA (i:=9) rfl fun K hK=>?_
   go_simp;refine(dy _ ah).mono ?_;rintro e Vb ⟨yb,u0,v0,w0,u1,v1,w1,rfl,dh,ag,bh⟩;have sB:=bh.size;have f6:=(bh.block V7.heap.size (by have:=ah.size;omega)).trans i6;refine hK.out _ _ ?_ (fun hHeld=>?_)
   ·exact Qk2
   clear hK K
   try simp only[zE]
   refine rA (i:=10) rfl fun K hK=>?_
   go_simp;have f9:=ah.size;have gc:=ag.size;have s7:V7.heap.size≤(V7.drew.alloc (.cells #[.slice none 0 0,.slice none 0 0] 29)).heap.size:=by simp
   refine(dl (V7.drew.alloc (.cells #[.slice none 0 0,.slice none 0 0] 29)) Va Va Vb ya yb x0 y0 z0 x1 y1 z1 u0 v0 w0 u1 v1 w1 di.out (zH _ _) dh.out bh s7 bu.size _ (zH _ _) ag).mono ?_;rintro e Vj ⟨c,e0,f0,g0,e1,f1,g1,rfl,HC,aj,bl,HR⟩;have sJ:=bl.size;have dv:V7.heap.size∉LB.fp (d+1) ya++LB.fp (d+1) yb:=fun hm=>by
    have:=HR.out _ hm;omega
   have aw:=(bl.blk (by omega) dv).trans f6;obtain⟨il,im⟩:=zO aw;have io:=zJ aw 0;have ip:=zJ aw 1;refine hK.out _ _ ?_ (fun hHeld=>?_)
   ·exact Qk2
   clear hK K
   try simp only[zE]
   refine rA (i:=12) rfl fun K hK=>?_
   go_simp;refine hK.out _ _ ?_ (fun hHeld=>?_)
   ·exact Qk2
   clear hK K
   try simp only[zE]
   refine wpAnyH_done (by kernel_rfl) ?_ _;go_wp2_with fail
   go_meet;obtain⟨h1,h2,h3,h4⟩:=HC.out;have bg:V7.heap.size≤V7.heap.size:=by have:=ah.size;have:=ag.size;omega
   refine⟨c,V7.heap.size,e0,f0,g0,e1,f1,g1,rfl,bg,yO _ _ 1 _ _ _ (yO _ _ 0 _ _ _ aw),⟨h1,h2,OwnB.fr (d+1) [V7.heap.size] _ _ c h3 (fC aw) (fun k hk hm=>?_),fun k hk=>by have:=h4 k hk;omega⟩,yL (yL aj bg) bg⟩;have:=h4 k hk;rw[zS] at hm;omega
  obtain⟨c,K,e0,f0,g0,e1,f1,g1,rfl,hK,xK,HC,dp⟩:=hcut;have ji:=dp.size;have cu:=zP bn dp;have fy:BRd d wc (.slice e0 f0 g0) (.slice e1 f1 g1) (jnB g.mG (d+1) M a b):=by
   obtain⟨h1,h2,h3,_⟩:=HC.out;have h4:=OwnB.rd h3;obtain⟨h5,h6⟩:(BL.q0 c).v = .slice e0 f0 g0∧(BL.q1 c).v = .slice e1 f1 g1:=by
    have : [(BL.q0 c).v,(BL.q1 c).v] = [.slice e0 f0 g0,.slice e1 f1 g1]:=h1;simpa using this
   rw[h5,h6,h2] at h4;exact h4
  have ie:=(dp.block w.heap.size (by omega)).trans l0;have ig:=(dp.block (w.heap.size+1) (by omega)).trans l1;have ii:=(dp.block (w.heap.size+4) (by omega)).trans l4;have bk:=B4j (HI.out.bL cu) ie ig fy ir.out;obtain⟨jk,jl⟩:=zO xK;have jc:Hid _:=fy;generalize hF:wD g d (j:Int) (jnB g.mG (d+1) M a b)=F at bk;have dg:Hid (sI g d (j:Int) a b=F):=by
   show _=_;rw[iq.out,hF]
  have HF:=zI hF;clear av ac eu dy dl fy ie ig hF;by_cases hz:F=0
  ·have iu:(F != 0)=false:=by simp[hz]
   go_wp2_with fail
   refine bk.mono ?_;rintro e wE ⟨rfl,cj⟩;have lE:=(cj.block (w.heap.size+4) (by omega)).trans ii;have lK:=(cj.block K (zR xK)).trans xK;obtain⟨ij,ik⟩:=zO lE;obtain⟨jn,jo⟩:=zO lK;have gh:=zJ lE 0;have gi:=zJ lE 1;go_wp2_with fail
   refine bodyPost_ret (v:=.tuple #[.agg #[.slice e0 f0 g0,.slice e1 f1 g1],.int .i64 0]) (by simp[results,Tryz.results181,go_sem, *]) rfl ?_;have dt:=zP cu cj;refine⟨yL (yL dt (by omega)) (by omega),.inr ⟨by rw[dg.out,hz],M,e0,f0,g0,e1,f1,g1,dz.out.1,dz.out.2.1,dz.out.2.2,by rw[HF.out,hz],rfl,?_⟩⟩;obtain⟨h1,h2,h3,h4⟩:=HC.out;exact⟨c,h1,h2,OwnB.fr (d+1) [w.heap.size+4] _ _ c (h3.bL cj) (fC lE (x0:=.slice e0 f0 g0) (x1:=.slice e1 f1 g1)) fun k hk hm=>by
    have:=h4 k hk;rw[zS] at hm;omega⟩
  have iu:(F != 0)=true:=by simpa using hz
  go_wp2_with fail
  refine bk.mono ?_;rintro e wE ⟨rfl,cj⟩;have lE:=(cj.block (w.heap.size+4) (by omega)).trans ii;obtain⟨ij,ik⟩:=zO lE;have gh:=zJ lE 0;have gi:=zJ lE 1;go_wp2_with fail
  refine bodyPost_ret (v:=.tuple #[.agg #[.slice none 0 0,.slice none 0 0],.int .i64 F]) (by simp[results,Tryz.results181,go_sem, *]) rfl ?_;have dt:=zP cu cj;exact⟨yL (yL dt (by omega)) (by omega),.inl ⟨by rw[dg.out];exact hz,by rw[dg.out]⟩⟩
 have ez:(E1 != 0)=true:=by simpa using hz
 have dg:Hid (sI g d msg a b=E1):=by
  show _=_;unfold sI;rw[hE,zF hz]
 clear hE;go_enter Tryz.func181,Tryz.ntmps181;go_wp2_with fail
 rw[←dw.out];go_wp2_with fail
 rw[←eh.out];refine au.mono ?_;rintro e V7 ⟨rfl,bc⟩;obtain⟨_,_,_,_,l4⟩:=rR V7 bc;obtain⟨ij,ik⟩:=zO l4;have gh:=zJ l4 0;have gi:=zJ l4 1;go_wp2_with fail
 refine bodyPost_ret (v:=.tuple #[.agg #[.slice none 0 0,.slice none 0 0],.int .i64 E1]) (by simp[results,Tryz.results181,go_sem, *]) rfl ?_;have dt:=zP dm bc;exact⟨yL (yL dt (by omega)) (by omega),.inl ⟨by rw[dg.out];exact hz,by rw[dg.out]⟩⟩
end L
end Go.Proofs.YthcomdofaaeihaaGreatDoor
