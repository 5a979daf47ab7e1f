import Derived.Test.YtgaoojpakjjdnaaGreatDoorX47
import Derived.Test.YtgaoojpakjjdnaaGreatDoorX37
import Derived.Test.YtgaoojpakjjdnaaGreatDoorX39
set_option maxHeartbeats 32000000
set_option maxRecDepth 100000
set_option linter.unusedVariables false
namespace Go.Proofs.YtgaoojpakjjdnaaGreatDoor
namespace L
open Go.RowKit
def C7q:List UInt8:=[10,2,104,105,16,3,24,7]
def A6m:BO (BI 11):=⟨[⟨1,[],[[104,105]],[]⟩,⟨2,[18446744073709551614],[],[]⟩,⟨3,[7],[],[]⟩],[]⟩
theorem C4m:A7l A7a 0 C7q = .ok A6m:=by kernel_rfl
theorem D6k {w:World}{a b:Option Addr}{n c n' c':Nat}(hg:GRd w (.slice a n c) (.slice b n' c') A7a)(hT:Tabs w):WIn A7a a n c b n' c' 0 w:=⟨hg,by decide,by decide,D2h,D6i,hT,by decide,by decide⟩
theorem D6j:Hid (∀ M∈A7a.msgs,∀ x∈M.fields,x.many=false→x.kind=10→A8p A7a x):=fun M hM x hx hm hk=>absurd hk ((show ∀ M∈A7a.msgs,∀ x∈M.fields,x.many=false→¬ x.kind=10 by decide) M hM x hx hm)
theorem C7r:∀ v∈A6m.vals,VOk (BOk 11) v:=by
 intro v hv
 have hv:v=⟨1,[],[[104,105]],[]⟩∨v=⟨2,[18446744073709551614],[],[]⟩∨v=⟨3,[7],[],[]⟩:=by simpa [A6m] using hv
 rcases hv with rfl|rfl|rfl <;> refine⟨by unfold I64;decide,by decide,by unfold reachBytes;decide,?_,by unfold reachBytes;decide,fun s hs=>(List.not_mem_nil hs).elim,by unfold reachBytes;decide⟩
 ·intro l hl
  rw[List.mem_singleton.1 hl]
  unfold reachBytes
  decide
 ·intro l hl;exact(List.not_mem_nil hl).elim
 ·intro l hl;exact(List.not_mem_nil hl).elim
theorem D5l {w:World}{g n:Nat}{t:TypeId}{l:List UInt8}(hl:l.length=n)(hn:n≤1000000)(hx:w.heap[g]?=some (.cells (l.map fun b=>Value.int .u8 (b.toNat:Int)).toArray t (0,0))):RdL 1 YAt w (.slice (some ⟨g,0,none⟩) n n) l:=by
 refine⟨_,n,n,rfl,hl,Nat.le_refl _,by unfold maxLen;omega,(fun e=>by cases e),fun x ac k a ha=>?_⟩
 cases ac
 rw[A0d,Nat.zero_add,Nat.mul_one]
 exact A0a hx k _ (by simp[ha])
theorem D8o {w:World}{v0 v1:Value}(h:BRd 11 w v0 v1 A6m) :
  Calls Tryz.prog 18 #[.agg #[v0,v1],.int .i64 2] w fun e w'=>∃ (g c:Nat) (a2:Option Addr) (n2 c2:Nat) (a3:Option Addr) (n3 c3:Nat),e = .returned (.tuple #[.agg #[.int .i64 2,.slice (some ⟨g,0,none⟩) 1 c,.slice a2 n2 c2,.slice a3 n3 c3],.bool true])∧w'.cell? ⟨g,0,none⟩=some (.int .u64 18446744073709551614)∧Below w.heap.size w w':=by
 refine(B6e (B0:=0) (Nat.zero_le _) h C7r 2).mono ?_
 rintro e w' ⟨⟨hno,rfl⟩|⟨k,v,ak,hk2,hk3,y,q0,u1,v1,z1,u2,v2,z2,u3,v3,z3,ag,rfl,hpl,aj,_,_⟩,hb⟩
 ·exact absurd (hno ⟨2,[18446744073709551614],[],[]⟩ (by simp[A6m])) (by decide)
 ·have hk:k=1:=by
   have:A0g (fun v:VI (BI 11)=>decide (v.number=2)) A6m.vals=1:=by decide +kernel
   omega
  subst hk
  have hv:v=⟨2,[18446744073709551614],[],[]⟩:=by
   have:A6m.vals[1]?=some ⟨2,[18446744073709551614],[],[]⟩:=rfl
   rw[this] at hk2
   exact(Option.some.inj hk2).symm
  subst hv
  have h0 : [Value.int .i64 y.number,y.p1.v,y.p2.v,y.p3.v] = [.int .i64 q0,.slice u1 v1 z1,.slice u2 v2 z2,.slice u3 v3 z3]:=ag
  simp only[List.cons.injEq,and_true,Value.int.injEq,true_and] at h0
  obtain⟨e0,e1,e2,e3⟩:=h0
  have ah:q0=2:=by rw[←e0];exact congrArg VI.number hpl
  subst ah
  have ac:y.bits = [18446744073709551614]:=congrArg VI.bits hpl
  have hr:=aj.r1
  rw[e1,ac] at hr
  obtain rfl:v1=1:=hr.len
  obtain⟨g,rfl,hc⟩:=hr.get (k:=0) rfl
  have hc:=hc 0 _ rfl
  exact⟨g,z1,u2,v2,z2,u3,v3,z3,rfl,hc,hb⟩
theorem C7s {B:Nat}{w:World}(hg:Gl B w)(hB:B≤w.heap.size)(hT:Tabs w) :
  Calls Tryz.prog 7 #[] w fun e w'=>e = .returned (.bool true)∧Below w.heap.size w w':=by
 have hf:=C8r hg hB
 go_enter Tryz.func7,Tryz.ntmps7
 go_wp2_with fail
 refine hf.mono ?_
 rintro e w1 ⟨am,nm,cm,ae,ne,ce,rfl,hG,hb1⟩
 obtain⟨W3,ah⟩:∃ W3,Hid (W3=(w1.alloc (.cells #[.slice am nm cm,.slice ae ne ce] 25)).alloc (.cells #[.int .u8 10,.int .u8 2,.int .u8 104,.int .u8 105,.int .u8 16,.int .u8 3,.int .u8 24,.int .u8 7] 5)):=⟨_,rfl⟩
 have x3:W3.heap[w1.heap.size+1]?=some (.cells #[.int .u8 10,.int .u8 2,.int .u8 104,.int .u8 105,.int .u8 16,.int .u8 3,.int .u8 24,.int .u8 7] 5 (0,0)):=by rw[ah.out];exact A0i _ _ _
 have hb3:Below w1.heap.size w1 W3:=by rw[ah.out];exact((Below.refl _ _).alloc (Nat.le_refl _) _).alloc (by simp) _
 have ac:Below w.heap.size w W3:=KBT hb1 hb3
 have bk:Calls Tryz.prog 9 #[.agg #[.slice am nm cm,.slice ae ne ce],.int .i64 0,.slice (some ⟨w1.heap.size+1,0,none⟩) 8 8] W3 fun e w'=>∃ (i0:Option Addr) (l0:Nat) (i1:Option Addr) (j1 l1:Nat),e = .returned (.tuple #[.agg #[.slice i0 3 l0,.slice i1 j1 l1],.int .i64 0])∧Hid (BRd 11 w' (.slice i0 3 l0) (.slice i1 j1 l1) A6m)∧Below W3.heap.size W3 w':=by
  refine(C6n D6j (D6k (hG.below hb3) (hT.below ac)) (D5l (l:=C7q) rfl (by decide) x3)).mono ?_
  intro e w' ho
  rw[C4m] at ho
  obtain⟨c,i0,j0,l0,i1,j1,l1,h1,h2,h3,h4,_,h5⟩:=ho
  have h6:=OwnB.rd (show OwnB W3.heap.size (11+1) w' c from h4)
  have h7 : [PV.v (BL.q0 c),PV.v (BL.q1 c)] = [.slice i0 j0 l0,.slice i1 j1 l1]:=h1
  simp only[List.cons.injEq,and_true] at h7
  rw[h7.1,h7.2,show LB.pl (11+1) c=A6m from h3] at h6
  obtain rfl:j0=3:=h6.1.len.1
  exact⟨i0,l0,i1,j1,l1,h2,h6,h5⟩
 clear hf
 go_wp2_with fail
 rw[←ah.out]
 refine bk.mono ?_
 rintro e w4 ⟨i0,l0,i1,j1,l1,rfl,hR,hb4⟩
 obtain⟨W5,ag⟩:∃ W5,Hid (W5=w4.alloc (.cells #[.slice i0 3 l0,.slice i1 j1 l1] 29)):=⟨_,rfl⟩
 have x5:W5.heap[w4.heap.size]?=some (.cells #[.slice i0 3 l0,.slice i1 j1 l1] 29 (0,0)):=by rw[ag.out];exact heap_alloc_new _ _
 have bg:Below w4.heap.size w4 W5:=by rw[ag.out];exact(Below.refl _ _).alloc (Nat.le_refl _) _
 have z5:w4.heap.size+1≤W5.heap.size:=by rw[ag.out];simp
 have bh:=D8o (hR.out.below bg)
 have aw:Below w.heap.size w W5:=KBT (KBT ac hb4) bg
 clear bk
 go_wp2_with fail
 rw[←ag.out]
 refine bh.mono ?_
 rintro e w6 ⟨g,c,a2,n2,c2,a3,n3,c3,rfl,hc,ak⟩
 obtain⟨W7,aj⟩:∃ W7,Hid (W7=w6.alloc (.cells #[.int .i64 2,.slice (some ⟨g,0,none⟩) 1 c,.slice a2 n2 c2,.slice a3 n3 c3] 62)):=⟨_,rfl⟩
 have au:Below w6.heap.size w6 W7:=by rw[aj.out];exact(Below.refl _ _).alloc (Nat.le_refl _) _
 have bq:=ak.size
 obtain⟨y0,y1⟩:=A0r ((au.block _ (by omega)).trans ((ak.block _ (by omega)).trans x5))
 have bp:=A0c au hc
 have a8:Below w.heap.size w W7:=KBT (KBT aw ak) au
 rw[aj.out] at y0 y1 bp
 have hwr:wrap64 18446744073709551614 = -2:=by decide +kernel
 clear bh hc
 go_wp2_with fail
 rw[←aj.out]
 go_ret
 exact⟨rfl,a8⟩
theorem C3z {w:World}{am ae:Option Addr}{nm cm ne ce:Nat}{g:GI}{msg:Int}(hg:GRd w (.slice am nm cm) (.slice ae ne ce) g)(ac:GOk g)(hT:Tabs w)(h1 : -9223372036854775808≤msg)(h2:msg≤9223372036854775807):WIn g am nm cm ae ne ce msg w:=by
 obtain⟨g1,g2,g3,g4⟩:=id ac
 have hr:reachBytes=140737488351232:=rfl
 refine⟨hg,by omega,by omega,ac.fits,fun M hM=>?_,hT,h1,h2⟩
 obtain⟨_,p2,_,p4,_⟩:=g1 M hM
 exact⟨fun f hf=>⟨(p2 f hf).2.2.1,(p2 f hf).2.2.2.2⟩,by omega⟩
theorem E1y {w:World}{vm ve:Value}{g:GI}(hg:GRd w vm ve g)(ac:GOk g)(h0:(wrongL g).1=0) :
  Calls Tryz.prog 13 #[.agg #[vm,ve]] w fun e w'=>∃ ao n c,e = .returned (.tuple #[.slice ao n c,.agg #[.int .i64 0,.int .i64 0]])∧RdL 1 PrAt w' (.slice ao n c) (A3s g)∧Below w.heap.size w w':=by
 obtain⟨g1,g2,g3,g4⟩:=id ac
 have hr:reachBytes=140737488351232:=rfl
 refine(D4n hg (by omega) (by omega) ac.fits).mono ?_
 rintro e w' ⟨hb,h⟩
 rcases h with⟨h1,rfl⟩|⟨_,ao,n,cap,l,rfl,hq,hl⟩
 ·exact absurd h0 h1
 ·have:=hq.rd
  rw[hl] at this
  exact⟨ao,n,cap,rfl,this,hb⟩
theorem text_walk {B:Nat}{w:World}(hg:Gl B w)(hB:B≤w.heap.size)(hT:Tabs w)(l:List UInt8)(hl:l.length≤140737488351232)(msg:Int)(ee : -9223372036854775808≤msg)(eh:msg≤9223372036854775807){kk:Nat}{a0 a1:Option Addr}{n0 c0 n1 c1:Nat}{x:BI (kk+11+1)}(hq:BRd (kk+11) w (.slice a0 n0 c0) (.slice a1 n1 c1) x)(eo:BOk (kk+11+1) x)(hsm:OSm (BSm (kk+11)) x) :
  Calls Tryz.prog 4 #[.string (S l),.int .i64 msg,.agg #[.slice a0 n0 c0,.slice a1 n1 c1]] w fun e w'=>e = .returned (.bool true)∧Below w.heap.size w w':=by
 obtain⟨W1,fk,hb1,x1,z1⟩:=E1i w (.cells #[.slice a0 n0 c0,.slice a1 n1 c1] 29)
 have ha:=C7s (w:=W1) (hg.later (hb1.mono hB)) (Nat.le_trans hB hb1.size) (hT.below hb1)
 have HQ:Hid (BRd (kk+11) w (.slice a0 n0 c0) (.slice a1 n1 c1) x):=hq
 have dv:Hid (BOk (kk+11+1) x):=eo
 have fj:Hid (OSm (BSm (kk+11)) x):=hsm
 clear hq eo hsm
 go_enter Tryz.func4,Tryz.ntmps4
 go_wp2_with fail
 rw[←fk.out]
 refine ha.mono ?_
 rintro e w2 ⟨rfl,hb2⟩
 have ac:Below w.heap.size w w2:=KBT hb1 hb2
 have hf:=D3u (hg.later (ac.mono hB)) (Nat.le_trans hB ac.size) l hl
 clear ha
 go_wp2_with fail
 refine hf.mono ?_
 rintro e w3 ⟨hb3,⟨am,nm,cm,ae,ne,ce,rfl⟩|⟨G,am,nm,cm,ae,ne,ce,rfl,hG,ak,eu⟩⟩
 ·have dn:Below w.heap.size w (w3.alloc (.cells #[.slice am nm cm,.slice ae ne ce] 25)):=(KBT ac hb3).alloc (KBT ac hb3).size _
  clear hf
  go_wp2_with fail
  go_ret
  exact⟨rfl,dn⟩
 obtain⟨W4,dw,hb4,x4,z4⟩:=E1i w3 (.cells #[.slice am nm cm,.slice ae ne ce] 25)
 have a8:Below w.heap.size w W4:=KBT (KBT ac hb3) hb4
 have br:Below W1.heap.size W1 W4:=KBT hb2 (KBT hb3 hb4)
 have fe:=(br.block w.heap.size (by omega)).trans x1
 obtain⟨y0,y1⟩:=A0r x4
 obtain⟨y2,y3⟩:=A0r fe
 have fo:=C3z (msg:=msg) (hG.below hb4) ak (hT.below a8) ee eh
 have hwr:=fo.wrong (HQ.out.below a8) dv.out
 obtain⟨Ew,dr⟩:∃ Ew,Hid (A5r G (kk+11) msg x=Ew):=⟨_,rfl⟩
 rw[dr.out] at hwr
 have bp:Hid ((wrongL G).1=0):=eu
 have dt:Hid (GOk G):=ak
 rw[dw.out] at y0 y1 y2 y3
 clear hf eu ak
 go_wp2_with fail
 rw[←dw.out]
 refine hwr.mono ?_
 rintro e w5 ⟨rfl,bt⟩
 have bw:Below w.heap.size w w5:=KBT a8 bt
 have f6:=hb4.size
 have f9:=bt.size
 have fx:=br.size
 by_cases hE:Ew=0
 rotate_left
 ·have eE:(Ew != 0)=true:=by simpa using hE
  clear hwr y0 y1 y2 y3
  go_wp2_with fail
  go_ret
  exact⟨rfl,bw⟩
 have eE:(Ew != 0)=false:=by simpa using hE
 have hW0:A5r G (kk+11) msg x=0:=by rw[dr.out];exact hE
 obtain⟨_,j,M,ei,hM,he⟩:=D2q hW0
 obtain⟨x',fc⟩:=E0w (k:=kk) 12 1 M.fields x (by decide) he
 have cw:Hid (A2g G (kk+11+1) 1 M.fields x=0):=he
 have HM:Hid (G.msgs[j]?=some M):=hM
 have dg:Hid (msg=(j:Int)):=ei
 have cj:Hid (up kk 12 x'=x):=fc
 clear ei hM he fc hW0
 have fd:=(bt.block _ (by omega)).trans x4
 have fh:=(bt.block _ (by omega)).trans fe
 obtain⟨k0,k1⟩:=A0r fd
 have dz:=(hG.below hb4).below bt
 have ej:=E1y dz dt.out bp.out
 clear hwr y0 y1 y2 y3
 go_wp2_with fail
 refine ej.mono ?_
 rintro e w6 ⟨pa,pn,pc,rfl,fu,dl⟩
 obtain⟨W7,dx,dm,x7,z7⟩:=E1i w6 (.cells #[.int .i64 0,.int .i64 0] 50)
 have cg:Below w.heap.size w W7:=KBT (KBT bw dl) dm
 have bv:Below w5.heap.size w5 W7:=KBT dl dm
 have gc:=dl.size
 have hrun:=D7y (p:=msg) (fu.below PrAt.stays dm) (HQ.out.below cg) fj.out
 have ew:D2u (A3s G) msg (kk+11) x=A1t G (kk+11+1) M x:=by rw[dg.out];exact D5x bp.out HM.out cw.out
 rw[ew] at hrun
 obtain⟨Bx,Ex,HB⟩:∃ Bx Ex,Hid (A1t G (kk+11+1) M x=(Bx,Ex)):=⟨_,_,rfl⟩
 have ah:=C4g bp.out (kk+11+1) 1 M x (List.mem_of_getElem? HM.out) cw.out
 rw[HB.out] at hrun ah
 have ah:Ex=0∨Ex=4:=ah
 obtain⟨q0,q1⟩:=A0r ((bv.block _ (by omega)).trans fh)
 rw[dx.out] at q0 q1
 clear ej k0 k1 ew
 go_wp2_with fail
 rw[←dx.out]
 refine hrun.mono ?_
 rintro e w8 ⟨ba,bn,bc,rfl,fw,cu⟩
 have bg:Below w.heap.size w w8:=KBT cg cu
 have gg:=cu.size
 obtain⟨t0,t1⟩:=A0r ((cu.block _ (by omega)).trans x7)
 clear hrun q0 q1
 rcases ah with hE0|hE4
 rotate_left
 ·subst hE4
  go_wp2_with fail
  go_ret
  exact⟨rfl,bg⟩
 subst hE0
 have aw:Below w5.heap.size w5 w8:=KBT bv cu
 obtain⟨k0,k1⟩:=A0r ((aw.block _ (by omega)).trans fd)
 have ag:A1t G 12 M x'=(Bx,0):=by
  have e:A1t G (kk+12) M (up kk 12 x')=A1t G 12 M x':=D2g 12 M x'
  rw[←e,cj.out]
  exact HB.out
 have bh:A2g G 12 1 M.fields x'=0:=by
  have e:A2g G (kk+12) 1 M.fields (up kk 12 x')=A2g G 12 1 M.fields x':=C4a 12 1 M.fields x'
  rw[←e,cj.out]
  exact cw.out
 have bk:BQk 12 x':=E0x (k:=kk) 12 x' (by rw[cj.out];exact D9c _ _ dv.out)
 have dh:=List.mem_of_getElem? HM.out
 have HP:Hid (A7l G msg Bx = .ok x'):=by
  show _=_
  rw[dg.out,D0l bp.out HM.out]
  have:=B9t bp.out 12 1 M x' dh bh bk (by rw[ag])
  rw[ag] at this
  exact this
 have et:Calls Tryz.prog 9 #[.agg #[.slice am nm cm,.slice ae ne ce],.int .i64 msg,.slice ba bn bc] w8 fun e w'=>∃ (i0:Option Addr) (j0 l0:Nat) (i1:Option Addr) (j1 l1:Nat),e = .returned (.tuple #[.agg #[.slice i0 j0 l0,.slice i1 j1 l1],.int .i64 0])∧Hid (BRd 11 w' (.slice i0 j0 l0) (.slice i1 j1 l1) x')∧Below w8.heap.size w8 w':=by
  refine(B4w (E2h bp.out) (C3z (msg:=msg) (dz.below aw) dt.out (hT.below bg) ee eh) fw.rdY (fun i N hi hN=>?_)).mono ?_
  ·have ft:i=j:=by have:=dg.out;omega
   subst ft
   rw[HM.out] at hN
   cases hN
   exact⟨dh,1,x',bh,bk,by rw[ag],by rw[ag]⟩
  intro e w' ho
  rw[HP.out] at ho
  obtain⟨c,i0,j0,l0,i1,j1,l1,h1,h2,h3,h4,_,h5⟩:=ho
  have h6:=OwnB.rd (show OwnB w8.heap.size (11+1) w' c from h4)
  have h7 : [PV.v (BL.q0 c),PV.v (BL.q1 c)] = [.slice i0 j0 l0,.slice i1 j1 l1]:=h1
  simp only[List.cons.injEq,and_true] at h7
  rw[h7.1,h7.2,show LB.pl (11+1) c=x' from h3] at h6
  exact⟨i0,j0,l0,i1,j1,l1,h2,h6,h5⟩
 have df:Hid (BRd 11 w (.slice a0 n0 c0) (.slice a1 n1 c1) x'):=by
  have h:=HQ.out
  rw[←cj.out] at h
  exact E2g (k:=kk) (n:=11) h
 clear ag bh bk dh
 go_wp2_with fail
 refine et.mono ?_
 rintro e w9 ⟨i0,j0,l0,i1,j1,l1,rfl,hR,d9⟩
 obtain⟨dy,bq,au,fz,gh⟩:=E1i w9 (.cells #[.slice i0 j0 l0,.slice i1 j1 l1] 29)
 have aj:Below w.heap.size w dy:=KBT (KBT bg d9) au
 have bu:Below w5.heap.size w5 dy:=KBT aw (KBT d9 au)
 have dp:=C8b (df.out.below aj) (hR.out.below au)
 obtain⟨q0,q1⟩:=A0r ((bu.block _ (by omega)).trans fh)
 obtain⟨q2,q3⟩:=A0r fz
 rw[bq.out] at q0 q1 q2 q3
 clear et k0 k1 t0 t1
 go_wp2_with fail
 rw[←bq.out]
 refine dp.mono ?_
 rintro e fy ⟨rfl,di⟩
 have fq:Below w.heap.size w fy:=KBT aj di
 go_wp2
 go_ret
 exact⟨rfl,fq⟩
theorem A4v {α:Type}{sz:Nat}{P:World→Addr→α→Prop}{w:World}{v:Value}(hP:∀ x a b,P w x a→P w x b→a=b){l l':List α}(h:RdL sz P w v l)(h':RdL sz P w v l'):l=l':=by
 obtain⟨ao,n,cap,rfl,h1,h2,h3,h4,h5⟩:=h
 obtain⟨aj,n',cap',e,ac,ak,au,aw,ag⟩:=h'
 cases e
 cases ao with
 | none=>
  have:=(h4 rfl).1
  rw[List.eq_nil_of_length_eq_zero (by omega:l.length=0),List.eq_nil_of_length_eq_zero (by omega:l'.length=0)]
 | some x=>exact List.ext_getElem (h1.trans ac.symm) fun k hk ah=>hP _ _ _ (h5 x rfl k _ (List.getElem?_eq_getElem hk)) (ag x rfl k _ (List.getElem?_eq_getElem ah))
theorem D6f {w:World}(x:Addr)(a b:Nat)(h:UAt w x a)(h':UAt w x b):a=b:=by
 have e:=h.symm.trans h'
 simp only[Option.some.injEq,Value.int.injEq,true_and] at e
 omega
theorem C4h {w:World}(x:Addr)(a b:UInt8)(h:YAt w x a)(h':YAt w x b):a=b:=by
 have e:=h.symm.trans h'
 simp only[Option.some.injEq,Value.int.injEq,true_and] at e
 exact UInt8.toNat_inj.1 (by omega)
theorem D6s {w:World}(x:Addr)(a b:List UInt8)(h:ZAt w x a)(h':ZAt w x b):a=b:=by
 obtain⟨v,h1,h2⟩:=h
 obtain⟨v',ac,ag⟩:=h'
 cases Option.some.inj (h1.symm.trans ac)
 exact A4v C4h h2 ag
theorem C3q {w:World}(x:Addr)(a b:RI)(h:RAt w x a)(h':RAt w x b):a=b:=by
 obtain⟨v,h1,h2,h3,h4,h5⟩:=h
 obtain⟨v',ac,ag,ah,aj,ak⟩:=h'
 have e1:=h1.symm.trans ac
 have e2:=h2.symm.trans ag
 have e3:=h3.symm.trans ah
 cases Option.some.inj (h4.symm.trans aj)
 have e5:=A4v C4h h5 ak
 simp only[Option.some.injEq,Value.int.injEq,true_and] at e1 e2 e3
 obtain⟨n1,n2,n3,n4⟩:=a
 obtain⟨m1,m2,m3,m4⟩:=b
 simp only at e1 e2 e3 e5
 rw[e1,e2,e5,show n3=m3 by omega]
theorem C4d {β:Type}{P:World→Addr→β→Prop}{w:World}(hP:∀ x a b,P w x a→P w x b→a=b)(x:Addr)(a b:VI β)(h:VAt P w x a)(h':VAt P w x b):a=b:=by
 obtain⟨v1,v2,v3,h1,h2,h3,h4,h5,h6,h7⟩:=h
 obtain⟨a8,bg,bh,ac,ag,ah,aj,ak,au,aw⟩:=h'
 have e1:=h1.symm.trans ac
 cases Option.some.inj (h2.symm.trans ag)
 cases Option.some.inj (h3.symm.trans ah)
 cases Option.some.inj (h4.symm.trans aj)
 have e5:=A4v D6f h5 ak
 have e6:=A4v D6s h6 au
 have e7:=A4v hP h7 aw
 simp only[Option.some.injEq,Value.int.injEq,true_and] at e1
 obtain⟨n1,n2,n3,n4⟩:=a
 obtain⟨m1,m2,m3,m4⟩:=b
 simp only at e1 e5 e6 e7
 rw[e1,e5,e6,e7]
theorem C2k {w:World}:∀ (d:Nat) (x:Addr) (a b:BI d),BAt d w x a→BAt d w x b→a=b
 | 0,_,a,_,_,_=>nomatch (a:Empty)
 | d+1,x,a,b,h,h'=>by
  obtain⟨v0,v1,h1,h2,h3,h4⟩:=h
  obtain⟨ak,au,ac,ag,ah,aj⟩:=h'
  cases Option.some.inj (h1.symm.trans ac)
  cases Option.some.inj (h2.symm.trans ag)
  have e3:=A4v (C4d (C2k d)) h3 ah
  have e4:=A4v C3q h4 aj
  have ea:(a:BO (BI d))=⟨BO.vals a,BO.unk a⟩:=rfl
  have eb:(b:BO (BI d))=⟨BO.vals b,BO.unk b⟩:=rfl
  refine(show(a:BO (BI d))=b from ?_)
  rw[ea,eb,e3,e4]
theorem brd_uniq {w:World}{d:Nat}{v0 v1:Value}{a b:BO (BI d)}(h:BRd d w v0 v1 a)(h':BRd d w v0 v1 b):a=b:=by
 have e3:=A4v (C4d (C2k d)) h.1 h'.1
 have e4:=A4v C3q h.2 h'.2
 obtain⟨a1,a2⟩:=a
 obtain⟨b1,b2⟩:=b
 simp only at e3 e4
 rw[e3,e4]
end L
end Go.Proofs.YtgaoojpakjjdnaaGreatDoor
