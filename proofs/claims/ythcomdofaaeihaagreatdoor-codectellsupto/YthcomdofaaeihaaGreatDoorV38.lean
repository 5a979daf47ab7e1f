import Derived.Test.YthcomdofaaeihaaGreatDoorV37
import Derived.Test.YthcomdofaaeihaaGreatDoorV28
set_option maxHeartbeats 32000000
set_option maxRecDepth 100000
set_option linter.unusedVariables false
namespace Go.Proofs.YthcomdofaaeihaaGreatDoor
namespace L
open Go.RowKit Go.WideMaps Go.Maps
variable{g n:Nat}{x:FI}{x3 x1 x2 x0:Value}{V w:World}
def E1v (n:Nat)(u w:World)(res:Except Int (VI (BI n)))(e:Ending)(w':World):Prop:=zB w w'∧match res with
 | .error E=>E≠0∧∃ (q:Int) (a1:Option Addr) (n1 c1:Nat) (a2:Option Addr) (n2 c2:Nat) (a3:Option Addr) (n3 c3:Nat),e = .returned (.tuple #[.agg #[.int .i64 q,.slice a1 n1 c1,.slice a2 n2 c2,.slice a3 n3 c3],.int .i64 E])
 | .ok v=>∃ (a1:Option Addr) (n1 c1:Nat) (a2:Option Addr) (n2 c2:Nat) (a3:Option Addr) (n3 c3:Nat),e = .returned (.tuple #[.agg #[.int .i64 v.nU,.slice a1 n1 c1,.slice a2 n2 c2,.slice a3 n3 c3],.int .i64 0])∧∀ u',Over u w w' u'→QRd n u' (v,(a1,n1,c1),(a2,n2,c2),(a3,n3,c3))
def aW (n:Nat)(u w:World)(res:Except Int (BI n))(e:Ending)(w':World):Prop:=zB w w'∧match res with
 | .error E=>E≠0∧e = .returned (.tuple #[.agg #[.slice none 0 0,.slice none 0 0],.int .i64 E])
 | .ok b=>∃ (a0:Option Addr) (n0 c0:Nat) (a1:Option Addr) (n1 c1:Nat),e = .returned (.tuple #[.agg #[.slice a0 n0 c0,.slice a1 n1 c1],.int .i64 0])∧∀ u',Over u w w' u'→BQ n u' (.slice a0 n0 c0) (.slice a1 n1 c1) b
def cO (g:GI)(W0:World)(vm ve:Value)(n:Nat):Prop:=∀ (u w:World) (j:Nat) (M:MI) (deep:Nat) (ao:Option Addr) (m c:Nat) (l:List UInt8),Sub u w→zB W0 w→g.mG[j]?=some M→deep+n=13→RdL 1 YAt u (.slice ao m c) l→Calls Tryz.prog 22 #[.agg #[vm,ve],.int .i64 (j:Int),.slice ao m c,.int .i64 (deep:Int)] w (aW n u w (vR g n M l))
def E2c {n:Nat}(num:Int):Except Int (BI n)→Except Int (VI (BI n))
 | .error E=>.error E
 | .ok s=>.ok ⟨num,[],[],[s]⟩
def RRes {n:Nat}(P:BI n→Prop)(E:Int):Except Int (BI n)→Prop
 | .error E'=>E=E'∧E≠0
 | .ok s=>E=0∧P s
theorem RRes.imp {P P':BI n→Prop}{E:Int}:∀ {Q:Except Int (BI n)},RRes P E Q→(∀ s,P s→P' s)→RRes P' E Q
 | .error _,h,_=>h
 | .ok s,h,k=>⟨h.1,k s h.2⟩
theorem VM {t:TypeId}{a0 a1 a2 a3:Value}(h:V.heap[g]?=some (.cells #[a0,a1,a2,a3] t (0,0))):((((V.setCell ⟨g,0,none⟩ x0).setCell ⟨g,1,none⟩ x1).setCell ⟨g,2,none⟩ x2).setCell ⟨g,3,none⟩ x3).heap[g]?=some (.cells #[x0,x1,x2,x3] t (0,0)):=
 yO _ _ _ _ _ _ (yO _ _ _ _ _ _ (yO _ _ _ _ _ _ (yO _ _ _ _ _ _ h)))
theorem pS {W:World}{B:Nat}(h:Below B W V)(hg:B≤g):Below B W ((((V.setCell ⟨g,0,none⟩ x0).setCell ⟨g,1,none⟩ x1).setCell ⟨g,2,none⟩ x2).setCell ⟨g,3,none⟩ x3):=zT (zT (zT (zT h hg) hg) hg) hg
theorem TA {rd:List UInt8→List UInt8→Except Int (BI n)}{r:RI}{L:List Nat}{E:Nat}(h:yI x.kind≠2)(ht:tnN x r=(L,E)):uT rd x r=if E=0 then .ok ⟨x.nU,L,[],[]⟩ else .error ((E:Nat):Int):=by
 rw[uT,zF h,ht]
theorem WW {α:Type}{sz:Nat}{P:World→Addr→α→Prop}{a : α}(h:P w ⟨g,0,none⟩ a):RdL sz P w (.slice (some ⟨g,0,none⟩) 1 1) [a]:=by
 refine⟨_,1,1,rfl,rfl,zG _,by unfold maxLen;omega,(fun e=>by cases e),fun x hx k y hy=>?_⟩;cases hx
 cases k with
 | zero=>simp at hy;subst hy;rw[jZ,xS];exact h
 | succ k=>simp at hy
theorem C8d {w2:World}{c8 c10 i:Nat}(hb:zB w w2)(h8:w.heap.size≤c8)(h10:w.heap.size≤c10)(q q0 q1 q2 q3:Value)(o:Obj):zB w ((((((w2.setCell ⟨c10,i,none⟩ q).setCell ⟨c8,0,none⟩ q0).setCell ⟨c8,1,none⟩ q1).setCell ⟨c8,2,none⟩ q2).setCell ⟨c8,3,none⟩ q3).alloc o)∧((((((w2.setCell ⟨c10,i,none⟩ q).setCell ⟨c8,0,none⟩ q0).setCell ⟨c8,1,none⟩ q1).setCell ⟨c8,2,none⟩ q2).setCell ⟨c8,3,none⟩ q3).alloc o).heap[w2.heap.size]?=some o:=by
 have h:=pS (x0:=q0) (x1:=q1) (x2:=q2) (x3:=q3) (zT (i:=i) (x:=q) hb h10) h8;refine⟨h.alloc h.size _,?_⟩;have:=yM (((((w2.setCell ⟨c10,i,none⟩ q).setCell ⟨c8,0,none⟩ q0).setCell ⟨c8,1,none⟩ q1).setCell ⟨c8,2,none⟩ q2).setCell ⟨c8,3,none⟩ q3) o;simpa using this
theorem XL{P:Prop}(h:P:=by
 refine rgL (fun V=>V.cell? ⟨bx,ox+2,none⟩=some (.int .i64 x.kind)∧V.cell? ⟨c10,1,none⟩=some (.slice a1 n1 c1)) 11 (ag _ ah v1) ?_;refine tkF 0 rfl (ag _ ah v1) (fun _ h=>h) ?_
 try simp only[zE]
 refine tkF 1 rfl (ag _ ah v1) (fun _ h=>h) ?_
 try simp only[zE]
 refine tkF 2 rfl (ag _ ah v1) (fun _ h=>h) ?_
 try simp only[zE]
 refine tkF 3 rfl (ag _ ah v1) (fun _ h=>h) ?_
 try simp only[zE]
 refine tkF 4 rfl (ag _ ah v1) (fun _ h=>h) ?_
 try simp only[zE]
 refine tkF 5 rfl (ag _ ah v1) (fun _ h=>h) ?_
 try simp only[zE]
 refine tkF 6 rfl (ag _ ah v1) (fun _ h=>h) ?_
 try simp only[zE]
 refine xT 7 rfl (fun K hK=>?_);go_simp;refine(dl _).mono ?_;rintro e y ⟨rfl,rfl⟩;refine hK.out _ _ (fun _=>ag _ ah v1) ?_;clear hK K
 try simp only[zE]
 refine xT 8 rfl (fun K hK=>?_);go_simp;rw[←dn.out];refine hK.out _ _ (fun _=>ag _ bu ix) ?_;clear hK K
 try simp only[zE]
 refine xT 9 rfl (fun K hK=>?_);skip;refine vS (by rfl) ekU _ _ (by rfl) (c10+1) (.slice a1 n1 c1) (acc.map (xN x.kind)) [tn] (by rfl) hr1 (some ⟨Y.heap.size,0,none⟩) 1 1 (by rfl) rfl (by simp) dx (by decide) (by show(_+1)*8≤_;rw[yX];omega) (by omega) ?_;intro v5 w5 h5 g5;obtain⟨a5,n5,c5,rfl,H5⟩:=h5.shape';have x5:=(g5.block c10 (by omega) (fun hh=>by have:=(hr1.own c10 hh.symm).1;omega)).trans fj;have u0:=zL x5 1 _ rfl;have u1:=zJ x5 1;have dp:=bu.grown g5 (by omega) (fun k hk=>by have:=(hr1.own k hk).1;omega);refine hK.out _ _ (fun _=>ag _ dp u0) ?_;clear hK K
 try simp only[zE]
 refine tkF 10 rfl (ag _ dp u0) (fun _ h=>h) ?_
 try simp only[zE]
 refine xT 11 rfl (fun K hK=>?_);go_simp;refine hK.out _ _ (fun h=>(h rfl).elim) ?_;clear hK K
 try simp only[zE]
 refine dnL ?_;have x6:=yO w5 c10 1 _ _ (.slice a5 n5 c5) x5;have ip:Row ekU (w5.setCell ⟨c10,1,none⟩ (.slice a5 n5 c5)) (c10+1) (.slice a5 n5 c5) ((acc++[A]).map (xN x.kind)):=by rw[dr.out];exact h5.low (by omega) _ _
 have g8:Below c10 W1 (w5.setCell ⟨c10,1,none⟩ (.slice a5 n5 c5)):=zT dp (zG _);clear h5 g5;go_wp2_with fail
 go_roundg j
 case measure=>omega
 case rel=>exact⟨T,acc++[A],a5,n5,c5,rfl,ig,by have:=HT.out;omega,by rw[yQ];simp;have:=HT.out;omega,x6,ip,g8,hgo⟩):P:=h
theorem XK{P:Prop}(h:P:=by
 (try dsimp only);with_reducible refine au _ ?_;with_reducible (first|exact aj|exact ak|exact av|exact zT (zT aj ac) ac|exact zT (zT ak ac) ac)):P:=h
theorem XJ{P:Prop}(h:P:=by
 go_wp2;refine bodyPost_ret (v:=.tuple #[.agg #[.int .i64 x.nU,.slice none 0 0,.slice none 0 0,.slice none 0 0],.int .i64 8]) (by simp[results,Tryz.results52,go_sem, *]) rfl ⟨pS (ba _ bg) (by omega),by decide,_,_,_,_,_,_,_,_,_,_,rfl⟩):P:=h
theorem Qn9{P:Prop}(h:P:=by
 go_wp2;refine bodyPost_ret (v:=.tuple #[.agg #[.int .i64 x.nU,.slice none 0 0,.slice (some ⟨w2.heap.size,0,none⟩) 1 1,.slice none 0 0],.int .i64 0]) (by simp[results,Tryz.results52,go_sem, *]) rfl ⟨dh,_,_,_,_,_,_,_,_,_,rfl,dy⟩):P:=h
theorem D5s {g:GI}{W0:World}{am ae:Option Addr}{nm cm ne ce:Nat}(hg:GRd W0 (.slice am nm cm) (.slice ae ne ce) g){deep:Nat}(hd:deep+(n+1)=13)(ih:cO g W0 (.slice am nm cm) (.slice ae ne ce) n){u:World}(hsu:Sub u w)(h0:zB W0 w){bx ox:Nat}(hx:FAt W0 ⟨bx,ox,none⟩ x)(jy:1≤x.kind∧x.kind≤10)(fd:x.kind=10→∃ M,g.mG.find? (isN x.type)=some M)(r:RI)(ji:r.bits≤18446744073709551615)(jk:r.bytes.length≤4000)(jw:0≤r.how∧r.how≤7){ay:Option Addr}{ny cy:Nat}(gi:RdL 1 YAt u (.slice ay ny cy) r.bytes) :
  Calls Tryz.prog 52 #[.agg #[.slice am nm cm,.slice ae ne ce],.pointer (some ⟨bx,ox,none⟩),.agg #[.int .i64 r.nU,.int .i64 r.how,.int .u64 (r.bits:Int),.slice ay ny cy],.int .i64 (deep:Int)] w (E1v n u w (uT (fun t l=>vR g n (msgD g t) l) x r)):=by
 have eo:=gi.sub YAt.gW hsu;obtain⟨R,HR⟩:∃ R,Hid (uT (fun t l=>vR g n (msgD g t) l) x r=R):=⟨_,rfl⟩
 rw[HR.out];have cj:zB w (((w.alloc (.cells #[.slice am nm cm,.slice ae ne ce] 25)).alloc (.cells #[.int .i64 r.nU,.int .i64 r.how,.int .u64 (r.bits:Int),.slice ay ny cy] 78)).alloc (.cells #[.int .i64 0,.slice none 0 0,.slice none 0 0,.slice none 0 0] 63)):=(((zH _ _).alloc (zG _) _).alloc (by simp) _).alloc (by simp;omega) _;have ir:=FAt.sT _ _ _ _ h0 hx;obtain⟨-,yA,-,-,-,-⟩:=(FAt.sT _ _ _ _ cj ir).at;obtain⟨W1,fq⟩:=zM ((((w.alloc (.cells #[.slice am nm cm,.slice ae ne ce] 25)).alloc (.cells #[.int .i64 r.nU,.int .i64 r.how,.int .u64 (r.bits:Int),.slice ay ny cy] 78)).alloc (.cells #[.int .i64 0,.slice none 0 0,.slice none 0 0,.slice none 0 0] 63)).alloc (.cells #[.int .i64 x.nU,.slice none 0 0,.slice none 0 0,.slice none 0 0] 63));obtain⟨x0,x1,x2,x3,z0⟩:=C7j w (.cells #[.slice am nm cm,.slice ae ne ce] 25) (.cells #[.int .i64 r.nU,.int .i64 r.how,.int .u64 (r.bits:Int),.slice ay ny cy] 78) (.cells #[.int .i64 0,.slice none 0 0,.slice none 0 0,.slice none 0 0] 63) (.cells #[.int .i64 x.nU,.slice none 0 0,.slice none 0 0,.slice none 0 0] 63);rw[←fq.out] at x0 x1 x2 x3 z0;have z1:=xD z0;have z2:=xD z0.symm;have hb1:zB w W1:=by rw[fq.out];exact cj.alloc cj.size _
 clear z0 cj;obtain⟨c8,H8,jq,jr⟩:∃ c,Hid (c=w.heap.size+1+1)∧c≤w.heap.size+2∧w.heap.size+2≤c:=⟨_,rfl,zG _,zG _⟩
 obtain⟨c10,gl,gz,g7⟩:∃ c,Hid (c=w.heap.size+1+1+1)∧c≤w.heap.size+3∧w.heap.size+3≤c:=⟨_,rfl,zG _,zG _⟩
 have x2:W1.heap[c8]?=some (.cells #[.int .i64 0,.slice none 0 0,.slice none 0 0,.slice none 0 0] 63 (0,0)):=by rw[H8.out];exact x2
 have x3:W1.heap[c10]?=some (.cells #[.int .i64 x.nU,.slice none 0 0,.slice none 0 0,.slice none 0 0] 63 (0,0)):=by rw[gl.out];exact x3
 have ba:=fun V (hV:Below c10 W1 V)=>hb1.trans (hV.mono (by omega))
 have dg:∀ V,Below c10 W1 V→(V.cell? ⟨w.heap.size,0,none⟩=some (.slice am nm cm)∧V.cell? ⟨w.heap.size,1,none⟩=some (.slice ae ne ce))∧(V.cell? ⟨w.heap.size+1,0,none⟩=some (.int .i64 r.nU)∧V.cell? ⟨w.heap.size+1,1,none⟩=some (.int .i64 r.how)∧V.cell? ⟨w.heap.size+1,2,none⟩=some (.int .u64 (r.bits:Int))∧V.cell? ⟨w.heap.size+1,3,none⟩=some (.slice ay ny cy))∧V.cell? ⟨bx,ox+1,none⟩=some (.int .i64 x.nU)∧V.cell? ⟨bx,ox+2,none⟩=some (.int .i64 x.kind)∧V.cell? ⟨bx,ox+3,none⟩=some (.string (S x.type))∧V.cell? ⟨bx,ox+4,none⟩=some (.bool x.many):=fun V hV=>by
  obtain⟨-,k1,k2,k3,k4,-⟩:=(FAt.sT _ _ _ _ (ba V hV) ir).at;exact⟨zO ((zN hV).trans x0),vI ((zN hV).trans x1),k1,k2,k3,k4⟩
 have dz:=fun V (hV:Below c10 W1 V)=>(zN hV).trans x2
 have dt:Below c10 W1 W1:=zH _ _;obtain⟨-,-,-,p2,p3,p4⟩:=dg W1 dt;have dw:=UD x.kind W1 (by omega);obtain⟨hw,cu⟩:=zM (yI x.kind);rw[←cu.out] at dw;go_enter Tryz.func52,Tryz.ntmps52;go_upto_region 2 with fail
 rw[←fq.out];go_wp2_with fail
 refine dw.mono ?_;rintro e w2 ⟨rfl,hb2⟩;have bg:Below c10 W1 w2:=hb2.mono (by omega);obtain⟨⟨t0,t1⟩,⟨t2,t3,t4,t5⟩,t6,t7,t8,t9⟩:=dg w2 bg;have bl:=(zN hb2).trans x3;have y8:=dz w2 bg;obtain⟨v0,v1,v2,v3⟩:=vI bl;obtain⟨e0,e1,cg,e3⟩:=vI y8;have f0:=zJ y8 0;have f1:=zJ y8 1;have f2:=zJ y8 2;have f3:=zJ y8 3;have l8:=(zR y8)
 have iw:=(zR bl)
 have fh:c8≠c10:=by omega
 rw[←gl.out,←H8.out];clear dw p2 p3 p4 yA;by_cases h2:hw=2
 ·have e2:=beq_iff_eq.2 h2;have hk2:Hid (yI x.kind=2):=by show _=_;rw[←cu.out];exact h2
  by_cases hr2:r.how=2
  ·have er:(r.how != 2)=false:=by simp[hr2]
   have hT:∀ p,(if x.kind=10 then(match vR g n (msgD g x.type) r.bytes with|.error E=>.error E|.ok s=>.ok ⟨x.nU,[],[],[s]⟩) else if x.kind=8∧Lib.validD r.bytes=false then .error 9 else .ok ⟨x.nU,[],[r.bytes],[]⟩)=p→R=p:=fun p hp=>by rw[←HR.out,uT,zC (by simp[hk2.out]),zC (by simp[hr2])];exact hp
   clear h2 hr2;have eu:=eo.bL YAt.sT (ba _ bg);by_cases h10:x.kind=10
   ·have b8:(x.kind==8)=false:=by simp[h10]
    have b9:(x.kind==9)=false:=by simp[h10]
    have jp:(x.kind==10)=true:=by simp[h10]
    obtain⟨M',ie⟩:=fd h10;obtain⟨jj,jd,jc⟩:=SA ie;have jg:msgD g x.type=M':=by unfold msgD;rw[ie];rfl
    obtain⟨Q,HQ⟩:=yP (vR g n M' r.bytes);have iz:Hid (R=E2c x.nU Q):=hT _ ((zF h10).trans (by rw[jg,HQ.out];cases Q <;> rfl));have hw2:=ba _ bg;have gw:=zK h0 hw2;have ew:=hsu.trans (Sub.of hw2);have gh:∀ V,zB w2 V→Calls Tryz.prog 22 #[.agg #[.slice am nm cm,.slice ae ne ce],.int .i64 (jj:Int),.slice ay ny cy,.int .i64 (IntKind.i64.wrap ((deep:Int)+1))] V fun e w'=>∃ (i0:Option Addr) (j0 l0:Nat) (i1:Option Addr) (j1 l1:Nat) (E:Int),e = .returned (.tuple #[.agg #[.slice i0 j0 l0,.slice i1 j1 l1],.int .i64 E])∧zB V w'∧Hid (RRes (fun s=>∀ u',Over u V w' u'→BQ n u' (.slice i0 j0 l0) (.slice i1 j1 l1) s) E Q):=fun V hV=>by
     have:=ih u V jj M' (deep+1) ay ny cy r.bytes (ew.trans (Sub.of hV)) (zK gw hV) jd (by omega) gi;rw[HQ.out,show((deep+1:Nat):Int)=IntKind.i64.wrap ((deep:Int)+1) by rw[IntKind.wrap_i64];omega] at this;refine this.mono ?_;rintro e w' ⟨hb,h⟩;cases Q with
     | error E=>exact⟨none,0,0,none,0,0,E,h.2,hb,rfl,h.1⟩
     | ok s=>obtain⟨i0,j0,l0,i1,j1,l1,h1,h2⟩:=h;exact⟨i0,j0,l0,i1,j1,l1,0,h1,hb,rfl,h2⟩
    have io:∀ V,zB w2 V→Calls Tryz.prog 36 #[.agg #[.slice am nm cm,.slice ae ne ce],.string (S x.type)] V fun e w'=>e = .returned (.int .i64 (jj:Int))∧zB V w':=fun V hV=>by
     have:=bA (hg.1.bL MAt.sT (zK gw hV)) ⟨ae,ne,ce,rfl⟩ x.type;rw[jc] at this;exact this
    have au:=fun V (hV:zB w2 V)=>yH hV (yH (yH (zQ hV t0) (zQ hV t1)) (yH (zQ hV t5) (zQ hV t8)))
    have hD:zB w2 w2.drew:=(zH _ _).drew;clear h10 hT dg dz hk2 ih ie jg;go_upto_region 11 with fail
    go_cut [12,13] from 73 to 87 (fun p e wc=>∃ (fw:Nat) (E:Int) (i0:Option Addr) (j0 l0:Nat) (i1:Option Addr) (j1 l1:Nat),p = .pointer (some ⟨fw,0,none⟩)∧e = .int .i64 E∧wc.heap[fw]?=some (.cells #[.slice i0 j0 l0,.slice i1 j1 l1] 29 (0,0))∧zB w2 wc∧w2.heap.size≤fw∧Hid (RRes (fun s=>∀ u',Over u w2 wc u'→BQ n u' (.slice i0 j0 l0) (.slice i1 j1 l1) s) E Q))
    case first=>
     clear t2 t3 t4 t6 t7 t9 v0 v1 v2 v3 e0 e1 cg e3 f0 f1 f2 f3 y8 bl l8 iw fh ba x0 x1 x2 x3 hb1 ir hx hg hd jy fd ji jk jw gi eo eu HR jq jr gz g7 H8 gl z1 z2 dt hb2 bg cu fq HQ iz jd jc gw ew hw2 h0 hsu;refine wp_region_held_drew (S:=fun V=>zB w2 V∧(V.cell? ⟨w.heap.size,0,none⟩=some (.slice am nm cm)∧V.cell? ⟨w.heap.size,1,none⟩=some (.slice ae ne ce))∧V.cell? ⟨w.heap.size+1,3,none⟩=some (.slice ay ny cy)∧V.cell? ⟨bx,ox+3,none⟩=some (.string (S x.type))) (by kernel_rfl) (au _ hD) (fun hHeld=>?_);refine zTk 0 rfl (fun _ h=>h) ?_
     try simp only[zE]
     refine zTk 1 rfl (fun _ h=>h) ?_
     try simp only[zE]
     refine zTk 2 rfl (fun _ h=>h) ?_
     try simp only[zE]
     refine zTk 3 rfl (fun _ h=>h) ?_
     try simp only[zE]
     refine zTk 4 rfl (fun _ h=>h) ?_
     try simp only[zE]
     refine zTk 5 rfl (fun _ h=>h) ?_
     try simp only[zE]
     refine zTk 7 rfl (fun _ h=>h) ?_
     try simp only[zE]
     refine zTk 8 rfl (fun _ h=>h) ?_
     try simp only[zE]
     refine zTk 9 rfl (fun _ h=>h) ?_
     try simp only[zE]
     refine zTk 10 rfl (fun _ h=>h) ?_
     try simp only[zE]
     refine rB (i:=6) (j:=15) rfl (fun K hK=>?_) rfl fun K hK=>?_
     ·skip;go_simp;refine(io _ hD).mono ?_;rintro e wP ⟨rfl,fz⟩;have av:=zK hD fz;refine hK.out _ _ ?_ (fun hHeld=>?_)
      ·exact XK
      clear hK K
      try simp only[zE]
      refine rB (i:=11) (j:=15) rfl (fun K hK=>?_) rfl fun K hK=>?_
      ·skip;go_simp;refine(gh _ av).mono ?_;rintro e wI ⟨i0,j0,l0,i1,j1,l1,E,rfl,dv,bc⟩;have ak:=zK av dv;refine hK.out _ _ ?_ (fun hHeld=>?_)
       ·exact XK
       clear hK K
       try simp only[zE]
       refine zTk 12 rfl (fun _ h=>h) ?_
       try simp only[zE]
       refine zTk 13 rfl (fun _ h=>h) ?_
       try simp only[zE]
       refine zTk 14 rfl (fun _ h=>h) ?_
       try simp only[zE]
       refine rA (i:=15) rfl fun K hK=>?_
       go_simp;obtain⟨gA,bk⟩:=zM (wI.heap.size);obtain⟨wA,cw,cj,-,-⟩:=zV wI (.cells #[.slice none 0 0,.slice none 0 0] 29);have xA:wA.heap[gA]?=some (.cells #[.slice none 0 0,.slice none 0 0] 29 (0,0)):=by rw[cw.out,bk.out];exact yM _ _
       have aj:=zK ak cj;have ac:w2.heap.size≤gA:=by rw[bk.out];exact ak.size
       rw[←cw.out,←bk.out];obtain⟨q0,q1⟩:=zO xA;have g0:=zJ xA 0;have g1:=zJ xA 1;refine hK.out _ _ ?_ (fun hHeld=>?_)
       ·exact XK
       clear hK K
       try simp only[zE]
       refine rA (i:=16) rfl fun K hK=>?_
       go_simp;refine hK.out _ _ ?_ (fun hHeld=>?_)
       ·exact XK
       clear hK K
       try simp only[zE]
       refine zTk 17 rfl (fun _ h=>h) ?_
       try simp only[zE]
       refine wpAnyH_done (by kernel_rfl) ?_ _;go_wp2_with fail
       go_meet;have hF:=zT (i:=1) (x:=.slice i1 j1 l1) (zT (i:=0) (x:=.slice i0 j0 l0) aj ac) ac;exact⟨gA,E,i0,j0,l0,i1,j1,l1,rfl,rfl,yO _ _ 1 _ _ _ (yO _ _ 0 _ _ _ xA),hF,ac,bc.out.imp fun s h u' ho=>h u' (Over.back ho av.size (by simpa using cj.size) (fun k h1 h2=>((zZ _ _ _ k (show k≠gA by rw[bk.out];omega)).trans ((zZ _ _ _ k (show k≠gA by rw[bk.out];omega)).trans (cj.block k h2)))))⟩
      skip;go_simp;obtain⟨gA,bk⟩:=zM (wP.heap.size);obtain⟨wA,cw,cj,-,-⟩:=zV wP (.cells #[.slice none 0 0,.slice none 0 0] 29);have xA:wA.heap[gA]?=some (.cells #[.slice none 0 0,.slice none 0 0] 29 (0,0)):=by rw[cw.out,bk.out];exact yM _ _
      have aj:=zK av cj;have ac:w2.heap.size≤gA:=by rw[bk.out];exact av.size
      rw[←cw.out,←bk.out];refine hK.out _ _ ?_ (fun hHeld=>?_)
      ·exact XK
      clear hK K
      try simp only[zE]
      refine rA (i:=11) rfl fun K hK=>?_
      go_simp;refine(gh _ aj).mono ?_;rintro e wI ⟨i0,j0,l0,i1,j1,l1,E,rfl,dv,bc⟩;have ak:=zK aj dv;have lA:=(zR xA)
      have xA:=(dv.block _ lA).trans xA;obtain⟨q0,q1⟩:=zO xA;have g0:=zJ xA 0;have g1:=zJ xA 1;refine hK.out _ _ ?_ (fun hHeld=>?_)
      ·exact XK
      clear hK K
      try simp only[zE]
      refine zTk 12 rfl (fun _ h=>h) ?_
      try simp only[zE]
      refine zTk 13 rfl (fun _ h=>h) ?_
      try simp only[zE]
      refine zTk 14 rfl (fun _ h=>h) ?_
      try simp only[zE]
      refine rA (i:=16) rfl fun K hK=>?_
      go_simp;refine hK.out _ _ ?_ (fun hHeld=>?_)
      ·exact XK
      clear hK K
      try simp only[zE]
      refine zTk 17 rfl (fun _ h=>h) ?_
      try simp only[zE]
      refine wpAnyH_done (by kernel_rfl) ?_ _;go_wp2_with fail
      go_meet;have hF:=zT (i:=1) (x:=.slice i1 j1 l1) (zT (i:=0) (x:=.slice i0 j0 l0) ak ac) ac;exact⟨gA,E,i0,j0,l0,i1,j1,l1,rfl,rfl,yO _ _ 1 _ _ _ (yO _ _ 0 _ _ _ xA),hF,ac,bc.out.imp fun s h u' ho=>h u' (Over.back ho aj.size (by simp) (fun k h1 h2=>((zZ _ _ _ k (show k≠gA by omega)).trans (zZ _ _ _ k (show k≠gA by omega)))))⟩
     skip;go_simp;obtain⟨gA,bk⟩:=zM (w2.heap.size);obtain⟨wA,cw⟩:=zM ((w2.alloc (.cells #[.slice none 0 0,.slice none 0 0] 29)).drew);have aj:zB w2 wA:=by rw[cw.out];exact((zH _ _).alloc (zG _) _).drew
     have xA:wA.heap[gA]?=some (.cells #[.slice none 0 0,.slice none 0 0] 29 (0,0)):=by rw[cw.out,bk.out];exact yM _ _
     have ac:w2.heap.size≤gA:=by rw[bk.out];exact zG _
     rw[←cw.out,←bk.out];refine hK.out _ _ ?_ (fun hHeld=>?_)
     ·exact XK
     clear hK K
     try simp only[zE]
     refine rA (i:=6) rfl fun K hK=>?_
     go_simp;refine(io _ aj).mono ?_;rintro e wP ⟨rfl,fz⟩;have av:=zK aj fz;have xA:=(fz.block _ (zR xA)).trans xA;refine hK.out _ _ ?_ (fun hHeld=>?_)
     ·exact XK
     clear hK K
     try simp only[zE]
     refine rA (i:=11) rfl fun K hK=>?_
     go_simp;refine(gh _ av).mono ?_;rintro e wI ⟨i0,j0,l0,i1,j1,l1,E,rfl,dv,bc⟩;have ak:=zK av dv;have lA:=(zR xA)
     have xA:=(dv.block _ lA).trans xA;obtain⟨q0,q1⟩:=zO xA;have g0:=zJ xA 0;have g1:=zJ xA 1;refine hK.out _ _ ?_ (fun hHeld=>?_)
     ·exact XK
     clear hK K
     try simp only[zE]
     refine zTk 12 rfl (fun _ h=>h) ?_
     try simp only[zE]
     refine zTk 13 rfl (fun _ h=>h) ?_
     try simp only[zE]
     refine zTk 14 rfl (fun _ h=>h) ?_
     try simp only[zE]
     refine rA (i:=16) rfl fun K hK=>?_
     go_simp;refine hK.out _ _ ?_ (fun hHeld=>?_)
     ·exact XK
     clear hK K
     try simp only[zE]
     refine zTk 17 rfl (fun _ h=>h) ?_
     try simp only[zE]
     refine wpAnyH_done (by kernel_rfl) ?_ _;go_wp2_with fail
     go_meet;have hF:=zT (i:=1) (x:=.slice i1 j1 l1) (zT (i:=0) (x:=.slice i0 j0 l0) ak ac) ac;exact⟨gA,E,i0,j0,l0,i1,j1,l1,rfl,rfl,yO _ _ 1 _ _ _ (yO _ _ 0 _ _ _ xA),hF,ac,bc.out.imp fun s h u' ho=>h u' (Over.back ho av.size (by simp) (fun k h1 h2=>((zZ _ _ _ k (show k≠gA by omega)).trans (zZ _ _ _ k (show k≠gA by omega)))))⟩
    obtain⟨fw,E,i0,j0,l0,i1,j1,l1,rfl,rfl,xg,ik,j9,bc⟩:=hcut;have bl:=(ik.block _ iw).trans bl;have y8:=(ik.block _ l8).trans y8;clear v0 v1 v2 v3 e0 e1 cg e3 f0 f1 f2 f3;obtain⟨v0,v1,v2,v3⟩:=vI bl;have g3:=zJ bl 3;obtain⟨e0,e1,cg,e3⟩:=vI y8;have f0:=zJ y8 0;have f1:=zJ y8 1;have f2:=zJ y8 2;have f3:=zJ y8 3;obtain⟨q0,q1⟩:=zO xg;have j7:=(zR y8)
    have j6:=(zR bl)
    have hwc:=zK hw2 ik;have iq:=hwc.size;obtain⟨dh,hblk⟩:=C8d (c8:=c8) (c10:=c10) (i:=3) hwc (by omega) (by omega) (.slice (some ⟨wc.heap.size,0,none⟩) 1 1) (.int .i64 x.nU) (.slice none 0 0) (.slice none 0 0) (.slice (some ⟨wc.heap.size,0,none⟩) 1 1) (.cells #[.slice i0 j0 l0,.slice i1 j1 l1] 29);have dy:Hid (∀ u',Over u w _ u'→Over u w2 wc u'∧u'.heap[wc.heap.size]?=some (.cells #[.slice i0 j0 l0,.slice i1 j1 l1] 29 (0,0))):=fun u' (ho:Over u w ((((((wc.setCell ⟨c10,3,none⟩ (.slice (some ⟨wc.heap.size,0,none⟩) 1 1)).setCell ⟨c8,0,none⟩ (.int .i64 x.nU)).setCell ⟨c8,1,none⟩ (.slice none 0 0)).setCell ⟨c8,2,none⟩ (.slice none 0 0)).setCell ⟨c8,3,none⟩ (.slice (some ⟨wc.heap.size,0,none⟩) 1 1)).alloc (.cells #[.slice i0 j0 l0,.slice i1 j1 l1] 29)) u')=>⟨Over.back ho hw2.size (by simp) (fun k h1 h2=>(wT _ _ _ (by simpa using h2)).trans ((zZ _ _ _ _ (show k≠c8 by omega)).trans ((zZ _ _ _ _ (show k≠c8 by omega)).trans ((zZ _ _ _ _ (show k≠c8 by omega)).trans ((zZ _ _ _ _ (show k≠c8 by omega)).trans (zZ _ _ _ _ (show k≠c10 by omega))))))),(ho.new _ iq (zR hblk)).trans hblk⟩
    clear xg au io gh hD;go_wp2;refine bodyPost_ret (v:=.tuple #[.agg #[.int .i64 x.nU,.slice none 0 0,.slice none 0 0,.slice (some ⟨wc.heap.size,0,none⟩) 1 1],.int .i64 E]) (by simp[results,Tryz.results52,go_sem, *]) rfl ⟨dh,?_⟩;rw[iz.out];cases Q with
    | error E'=>obtain⟨rfl,h⟩:=bc.out;exact⟨h,_,_,_,_,_,_,_,_,_,_,rfl⟩
    | ok s=>obtain⟨rfl,h⟩:=bc.out;exact⟨_,_,_,_,_,_,_,_,_,rfl,fun u' ho=>⟨RdL.nil _ _ _,RdL.nil _ _ _,WW (BQ.at n (h u' (dy.out u' ho).1) (zL (dy.out u' ho).2 0 _ rfl) (zL (dy.out u' ho).2 1 _ rfl))⟩⟩
   have gj:=B8y eu (by omega);obtain⟨vd,gu⟩:=zM (Lib.validD r.bytes);rw[←gu.out] at gj;by_cases h89:x.kind=8∧vd=false
   ·have b8:(x.kind==8)=true:=by simp[h89.1]
    obtain rfl:=hT _ ((zC h10).trans (zF ⟨h89.1,by rw[←gu.out];exact h89.2⟩));obtain⟨-,rfl⟩:=h89;clear h10 hT;go_wp2_with fail
    refine gj.mono ?_;rintro e w3 ⟨rfl,rfl⟩;go_wp2;refine bodyPost_ret (v:=.tuple #[.agg #[.int .i64 x.nU,.slice none 0 0,.slice none 0 0,.slice none 0 0],.int .i64 9]) (by simp[results,Tryz.results52,go_sem, *]) rfl ⟨pS (ba _ bg) (by omega),by decide,_,_,_,_,_,_,_,_,_,_,rfl⟩
   obtain rfl:=hT _ ((zC h10).trans (zC (by rw[←gu.out];exact h89)));have ei:x.kind=8∨x.kind=9:=by
    have:=hk2.out;unfold yI at this;by_cases h8:x.kind=8
    ·exact .inl h8
    right
    repeat (first|omega|split at this)
   have xs:∀ V u',V.heap[w2.heap.size]?=some (.cells #[.slice ay ny cy] 30 (0,0))→Over u w V u'→QRd n u' (⟨x.nU,[],[r.bytes],[]⟩,(none,0,0),(some ⟨w2.heap.size,0,none⟩,1,1),(none,0,0)):=fun V u' h1 ho=>⟨RdL.nil _ _ _,WW ⟨_,zL ((ho.new _ (ba _ bg).size (zR h1)).trans h1) 0 _ rfl,gi.sub YAt.gW ho.sub⟩,RdL.nil _ _ _⟩
   obtain⟨dh,hblk⟩:=C8d (c8:=c8) (c10:=c10) (i:=2) (ba _ bg) (by omega) (by omega) (.slice (some ⟨w2.heap.size,0,none⟩) 1 1) (.int .i64 x.nU) (.slice none 0 0) (.slice (some ⟨w2.heap.size,0,none⟩) 1 1) (.slice none 0 0) (.cells #[.slice ay ny cy] 30);have dy:=fun u'=>xs _ u' hblk
   have g4:=zJ bl 2;clear xs hblk hT h10;by_cases h8:x.kind=8
   ·have b8:(x.kind==8)=true:=by simp[h8]
    obtain rfl:vd=true:=by cases vd with|true=>rfl|false=>exact absurd ⟨h8,rfl⟩ h89
    clear h8 h89 ei;go_wp2_with fail
    refine gj.mono ?_;rintro e w3 ⟨rfl,rfl⟩;exact Qn9
   have b8:=beq_eq_false_iff_ne.2 h8;have b9:(x.kind==9)=true:=by simp;omega
   clear h8 h89 ei gj;exact Qn9
  have er:=qK.2 hr2;obtain rfl:R = .error 8:=by rw[←HR.out,uT,zC (by simp[hk2.out]),zF hr2]
  clear h2 hr2;exact XJ
 have e2:=beq_eq_false_iff_ne.2 h2;have hk2:Hid (yI x.kind≠2):=by show _≠_;rw[←cu.out];exact h2
 have f6:x.kind≠8∧x.kind≠9∧x.kind≠10:=by
  refine⟨fun h=>hk2.out (by rw[h];rfl),fun h=>hk2.out (by rw[h];rfl),fun h=>hk2.out (by rw[h];rfl)⟩
 have b8:=beq_eq_false_iff_ne.2 f6.1;have b9:=beq_eq_false_iff_ne.2 f6.2.1;have jp:=beq_eq_false_iff_ne.2 f6.2.2;have bh:∀ (k:Nat) (V:World),k≤18446744073709551615→Calls Tryz.prog 114 #[.int .i64 x.kind,.int .u64 (k:Int)] V fun e w'=>e = .returned (.int .u64 ((xN x.kind k:Nat):Int))∧V=w':=fun k V=>C0y x.kind k V
 clear f6 h2;by_cases hrw:r.how=hw
 ·have bw:=beq_iff_eq.2 hrw;obtain rfl:R = .ok ⟨x.nU,[xN x.kind r.bits],[],[]⟩:=by
   rw[←HR.out,TA (L:=[xN x.kind r.bits]) (E:=0) hk2.out (by rw[tnN,zF (by rw[←cu.out];exact hrw)])];rfl
  obtain⟨tn,di⟩:=zM (xN x.kind r.bits:Nat);have dl:=bh r.bits w2.drew ji;rw[←di.out] at dl ⊢;have g4:=zJ bl 1;clear hrw bh;go_upto_region 15 with fail
  go_region_with (first|(go_at_call 114;refine dl.mono ?_;rintro e y ⟨rfl,rfl⟩))
  all_goals
   obtain⟨W5,ee⟩:=zM (((w2.setCell ⟨c10,1,none⟩ (.slice (some ⟨w2.heap.size,0,none⟩) 1 1)).alloc (.cells #[.int .u64 (tn:Int)] 64)).drew);have ju:zB w W5:=by rw[ee.out];exact((zT (i:=1) (x:=.slice (some ⟨w2.heap.size,0,none⟩) 1 1) (ba _ bg) (show w.heap.size≤c10 by omega)).alloc (by simpa using (ba _ bg).size) _).drew
   have j5:W5.heap[c10]?=some (.cells #[.int .i64 x.nU,.slice (some ⟨w2.heap.size,0,none⟩) 1 1,.slice none 0 0,.slice none 0 0] 63 (0,0)):=by rw[ee.out];exact(wT _ _ _ (by simpa using iw)).trans (yO _ _ 1 _ _ _ bl)
   have k8:W5.heap[c8]?=some (.cells #[.int .i64 0,.slice none 0 0,.slice none 0 0,.slice none 0 0] 63 (0,0)):=by rw[ee.out];exact(wT _ _ _ (by simpa using l8)).trans ((zZ _ _ _ _ fh).trans y8)
   have kn:W5.heap[w2.heap.size]?=some (.cells #[.int .u64 (tn:Int)] 64 (0,0)):=by
    rw[ee.out];have:=yM (w2.setCell ⟨c10,1,none⟩ (.slice (some ⟨w2.heap.size,0,none⟩) 1 1)) (.cells #[.int .u64 (tn:Int)] 64);have h':((w2.setCell ⟨c10,1,none⟩ (.slice (some ⟨w2.heap.size,0,none⟩) 1 1)).alloc (.cells #[.int .u64 (tn:Int)] 64)).heap[w2.heap.size]?=some (.cells #[.int .u64 (tn:Int)] 64 (0,0)):=by simpa using this
    exact h'
   clear v0 v1 v2 v3 e0 e1 cg e3 f0 f1 f2 f3 g4;obtain⟨v0,v1,v2,v3⟩:=vI j5;obtain⟨e0,e1,cg,e3⟩:=vI k8;have f0:=zJ k8 0;have f1:=zJ k8 1;have f2:=zJ k8 2;have f3:=zJ k8 3;have hF:=pS (x0:=.int .i64 x.nU) (x1:=.slice (some ⟨w2.heap.size,0,none⟩) 1 1) (x2:=.slice none 0 0) (x3:=.slice none 0 0) ju (show w.heap.size≤c8 by omega);have f9:w2.heap.size≠c8:=by omega
   have ke:=(zR k8)
   rw[←ee.out];go_wp2;refine bodyPost_ret (v:=.tuple #[.agg #[.int .i64 x.nU,.slice (some ⟨w2.heap.size,0,none⟩) 1 1,.slice none 0 0,.slice none 0 0],.int .i64 0]) (by simp[results,Tryz.results52,go_sem, *]) rfl ⟨hF,_,_,_,_,_,_,_,_,_,rfl,fun u' ho=>⟨WW ?_,RdL.nil _ _ _,RdL.nil _ _ _⟩⟩;show _=_;rw[←di.out];refine zL ((ho.new _ (ba _ bg).size (by simpa using (zR kn))).trans ((zZ _ _ _ _ f9).trans ((zZ _ _ _ _ f9).trans ((zZ _ _ _ _ f9).trans ((zZ _ _ _ _ f9).trans kn))))) 0 _ rfl
 have bw:=beq_eq_false_iff_ne.2 hrw;by_cases hp:r.how=2∧x.many=true
 ·obtain⟨hr2,jh⟩:=hp;have bq:(r.how != 2)=false:=by simp[hr2]
  have fu:=zI eo.len.1;have kj:ny≤4000:=by rw[fu.out];exact jk
  obtain⟨L,E,HU⟩:∃ L E,Hid (tE hw ny (r.bytes.drop 0) []=(L,E)):=⟨_,_,rfl⟩
  have iy:Hid (R=if E=0 then .ok ⟨x.nU,L.map (xN x.kind),[],[]⟩ else .error ((E:Nat):Int)):=by
   show _=_;rw[←HR.out,TA (L:=L.map (xN x.kind)) (E:=E) hk2.out];rw[tnN,zC (by rw[←cu.out];exact hrw),zF ⟨hr2,jh⟩,←cu.out,iJ,←fu.out];have:=HU.out;rw[oC] at this;rw[this]
  have hwc:hw=0∨hw=1∨hw=5:=by
   rw[cu.out];have:=hk2.out;unfold yI at this ⊢
   repeat (first|omega|(split at this))
   all_goals simp_all
  rw[jh] at t9;have jx:=eo.bL YAt.sT (ba _ dt);have kg:=@run_makeMap Tryz.prog;have hkey:=VS hw (by omega);clear hrw hr2 HR;go_wp2_with fail
  go_loopg [14] ny (fun m jo wr=>∃ (k:Nat) (acc:List Nat) (a1:Option Addr) (n1 c1:Nat),jo = .int .i64 (k:Int)∧k≤ny∧ny≤m+k∧acc.length≤k∧wr.heap[c10]?=some (.cells #[.int .i64 x.nU,.slice a1 n1 c1,.slice none 0 0,.slice none 0 0] 63 (0,0))∧Row ekU wr (c10+1) (.slice a1 n1 c1) (acc.map (xN x.kind))∧Below c10 W1 wr∧Hid (tE hw m (r.bytes.drop k) acc=(L,E)))
  case atStart=>exact⟨0,[],none,0,0,rfl,qA _,by omega,qA _,bl,Row.nil _ _ _,bg,HU⟩
  obtain⟨k,acc,a1,n1,c1,rfl,hk,hf,j8,xr,hrow,fy,HK⟩:=hrel;clear t0 t1 t2 t3 t4 t5 t6 t7 t8 t9 v0 v1 v2 v3 e0 e1 cg e3 f0 f1 f2 f3 y8 bl;obtain⟨⟨t0,t1⟩,⟨t2,t3,t4,t5⟩,t6,t7,t8,t9⟩:=dg wr fy;have lr:=(zR xr)
  by_cases hlt:k<ny
  rotate_left
  ·have je:r.bytes.drop k = []:=sF (by rw[←fu.out];omega);have ii:=HK.out;rw[je,D2d rfl] at ii;obtain⟨rfl,rfl⟩:acc=L∧0=E:=by simpa using ii
   obtain rfl:=iy.out;have y8:=dz wr fy;obtain⟨v0,v1,v2,v3⟩:=vI xr;obtain⟨e0,e1,cg,e3⟩:=vI y8;have f0:=zJ y8 0;have f1:=zJ y8 1;have f2:=zJ y8 2;have f3:=zJ y8 3;have j7:c8<wr.heap.size:=by omega
   have hF:=pS (x0:=.int .i64 x.nU) (x1:=.slice a1 n1 c1) (x2:=.slice none 0 0) (x3:=.slice none 0 0) (ba _ fy) (show w.heap.size≤c8 by omega);have jv:=(((hrow.low (show c8<c10+1 by omega) 0 (.int .i64 x.nU)).low (show c8<c10+1 by omega) 1 (.slice a1 n1 c1)).low (show c8<c10+1 by omega) 2 (.slice none 0 0)).low (show c8<c10+1 by omega) 3 (.slice none 0 0);clear HK ii je hrow;go_wp2;refine bodyPost_ret (v:=.tuple #[.agg #[.int .i64 x.nU,.slice a1 n1 c1,.slice none 0 0,.slice none 0 0],.int .i64 0]) (by simp[results,Tryz.results52,go_sem, *]) rfl ⟨hF,_,_,_,_,_,_,_,_,_,rfl,fun u' ho=>⟨?_,RdL.nil _ _ _,RdL.nil _ _ _⟩⟩;exact(Row.over jv ho (by omega)).rdU
  obtain⟨j,rfl⟩:∃ j,gk=j+1:=⟨gk-1,by omega⟩
  obtain⟨D,HD⟩:=zM (r.bytes.drop k);have fk:Hid (D.length=ny-k):=by show _=_;rw[HD.out,vE,←fu.out]
  obtain⟨A,B,C,HB⟩:∃ A B C,Hid (vD D hw=(A,B,C)):=⟨_,_,_,rfl⟩
  obtain⟨b1,b2,b3,b4⟩:=cC HB.out;rw[fk.out] at b2;have hne:Hid (D.length≠0):=by show _≠_;rw[fk.out];omega
  have bn:C≠0→Hid (R = .error ((C:Nat):Int)):=fun hC=>by
   have h1:=HK.out;rw[←HD.out,D2e hne.out HB.out hC] at h1;obtain⟨rfl,rfl⟩ : []=L∧C=E:=by simpa using h1
   show _=_;rw[iy.out,zC hC]
  have eh:C=0→Hid (tE hw j (r.bytes.drop (k+B)) (acc++[A])=(L,E)):=fun hC=>by
   have h1:=HK.out;rw[←HD.out,D7f hne.out (by rw[HB.out,hC]),HD.out,nW] at h1;exact h1
  have ja:RMap (wr.alloc (.map #[] 0)) wr.heap.size 0 (.map []):=World.ownsMap_made wr Tryz.prog 3 (plainElem (H:=Unit) Tryz.prog 3);have hgr:∀ {V V':World},zB wr V→V.grownBy V' (some wr.heap.size)→zB wr V':=fun hV hg=>hV.grown hg hV.size (fun j hj=>by cases hj;exact zG _)
  have jb:zB wr (wr.alloc (.map #[] 0)):=(zH _ _).alloc (zG _) _;clear HK;go_upto_region 23 with(first|(refine lQ rfl _ _ _ rfl wr.heap.size 0 _ rfl ja (by omega) 1 8 (by omega) (by omega) rfl rfl ?_;intro y1 h1 g1)|(refine lQ rfl _ _ _ rfl wr.heap.size 1 _ rfl h1 (by omega) 5 4 (by omega) (by omega) rfl rfl ?_;intro Y h2 g2;have ij:zB wr Y:=hgr (hgr jb g1) g2)|(at_lookup;refine wpList_lookup_own_int _ rfl _ _ 45 rfl 3 3 .i64 ZH Tryz.underlying45 Tryz.underlying3 (WL _) wr.heap.size 2 aN rfl h2 _ _ rfl hkey ?_;intro wd hat hwc'))
  have jn:=zI (VR (hat.symm.trans (D2k hw)));have df:=fy.trans (ij.mono (by omega));have xY:=(ij.block _ lr).trans xr;have dm:=hrow.bL ij;have gg:=fN (eo.bL YAt.sT (ba _ df));clear h1 h2 g1 g2 hgr ja jb hat hwc' t0 t1 t2 t3 t4 t5 t6 t7 t8 t9 hrow xr;obtain⟨⟨t0,t1⟩,⟨t2,t3,t4,t5⟩,t6,t7,t8,t9⟩:=dg Y df;have y8:=dz Y df;obtain⟨v0,v1,v2,v3⟩:=vI xY;obtain⟨e0,e1,cg,e3⟩:=vI y8;have f0:=zJ y8 0;have f1:=zJ y8 1;have f2:=zJ y8 2;have f3:=zJ y8 3;have g1:=zJ xY 1;have lY:=(zR xY)
  have km:c8<Y.heap.size:=by omega
  by_cases h0:hw=0
  ·have b0:=beq_iff_eq.2 h0;have hwc':=hwc;have fe:=TD gg k hk (A:=A) (B:=B) (C:=C) (by rw[←HD.out];have:=HB.out;rw[vD,zF h0] at this;exact this);clear h0;by_cases hC:C=0
   ·have bC:((C:Int) != 0)=false:=by simp[hC]
    rw[zF hC] at fe;have hgo:=eh hC;subst hC;obtain⟨T,HT⟩:=zM (k+B:Nat);rw[←HT.out] at fe hgo;have ig:T≤ny:=by rw[HT.out];omega
    have js:1≤B:=by have h9:=C1s (l:=D) hwc' (by rw[HB.out]);rw[HB.out] at h9;exact h9
    go_wp2_with fail
    refine fe.mono ?_;rintro e w9 ⟨rfl,rfl⟩;obtain⟨tn,di⟩:=zM (xN x.kind A:Nat);have dl:=fun V=>bh A V b1
    rw[←di.out] at dl;have dr:Hid ((acc++[A]).map (xN x.kind)=acc.map (xN x.kind)++[tn]):=by show _=_;rw[wM,di.out];rfl
    obtain⟨Y1,dn⟩:=zM ((Y.alloc (.cells #[.int .u64 (tn:Int)] 64)).drew);have aw:zB Y Y1:=by rw[dn.out];exact((zH _ _).alloc (zG _) _).drew
    have dx:∀ ad,some (⟨Y.heap.size,0,none⟩:Addr)=some ad→∀ k y,[tn][k]?=some y→∀ j u,(ekU.enc y)[j]?=some u→Y1.cell? (ad.add (k*ekU.size+j))=some u:=by rw[dn.out];exact WZ Y tn
    have iu:=aw.size;have hr1:=dm.bL aw;have fj:=(aw.block _ lY).trans xY;have ix:=zL fj 1 _ rfl;have bu:=df.trans (aw.mono (by omega));have ah:=df.drew;have ag:∀ V,Below c10 W1 V→V.cell? ⟨c10,1,none⟩=some (.slice a1 n1 c1)→V.cell? ⟨bx,ox+2,none⟩=some (.int .i64 x.kind)∧V.cell? ⟨c10,1,none⟩=some (.slice a1 n1 c1):=fun V hV h=>⟨(dg V hV).2.2.2.1,h⟩
    go_upto_region 32 with fail
    clear bh gg dg dz t0 t1 t2 t3 t4 t5 t6 t8 t9 e0 e1 cg e3 f0 f1 f2 f3 hkey v0 v2 v3;exact XL
   have bC:((C:Int) != 0)=true:=by rw[qK];omega
   rw[zC hC] at fe;have HE:=bn hC;have g9:((C:Nat):Int)≠0:=by omega
   clear bn eh hC;go_wp2_with fail
   refine fe.mono ?_;rintro e w9 ⟨rfl,rfl⟩;obtain rfl:=HE.out;go_wp2;refine bodyPost_ret (v:=.tuple #[.agg #[.int .i64 x.nU,.slice a1 n1 c1,.slice none 0 0,.slice none 0 0],.int .i64 ((C:Nat):Int)]) (by simp[results,Tryz.results52,go_sem, *]) rfl ⟨pS (ba _ df) (by omega),g9,_,_,_,_,_,_,_,_,_,_,rfl⟩
  have b0:=beq_eq_false_iff_ne.2 h0;obtain⟨Wd,gp⟩:=zM (nP hw:Nat);have hW1:1≤Wd∧Wd≤8:=by rw[gp.out];rcases hwc with h|h|h <;> first|exact absurd h h0|(rw[h];decide)
  have jt:Hid (tG hw=Wd):=gp.out.symm;have il:Hid ((A,B,C)=if D.length<Wd then(0,0,2) else(uJ (D.take Wd),Wd,0)):=by show _=_;rw[←HB.out,vD,zC h0,jt.out]
  obtain rfl:wd=((Wd:Nat):Int):=by rw[jn.out,gp.out]
  clear h0 hwc;by_cases hS:ny-k<Wd
  ·obtain⟨rfl,rfl,rfl⟩:=xJ (il.out.trans (zF (by rw[fk.out];exact hS)));have hS1:decide ((ny:Int)<(k:Int)+((Wd:Nat):Int))=true:=xU (by omega);have HE:=bn (by decide);have g9:(2:Int)≠0:=by decide
   clear bn eh hS;obtain rfl:=HE.out;go_wp2;refine bodyPost_ret (v:=.tuple #[.agg #[.int .i64 x.nU,.slice a1 n1 c1,.slice none 0 0,.slice none 0 0],.int .i64 2]) (by simp[results,Tryz.results52,go_sem, *]) rfl ⟨pS (ba _ df) (by omega),g9,_,_,_,_,_,_,_,_,_,_,rfl⟩
  obtain⟨i6,i7,rfl⟩:=xJ (il.out.trans (zC (by rw[fk.out];exact hS)));have HA:=zI i6;have d9:=zI i7;clear i6 i7;have hS1:decide ((ny:Int)<(k:Int)+((Wd:Nat):Int))=false:=yC (by omega);have hgo:=eh rfl;obtain⟨T,HT⟩:=zM (k+B:Nat);rw[←HT.out] at hgo;have eT:(k:Int)+((Wd:Nat):Int)=(T:Int):=by rw[HT.out,d9.out];omega
  obtain⟨az,jl,hby⟩:=TC gg (i:=k) (j:=T) (by rw[HT.out];omega) (by rw[HT.out];omega);obtain⟨nz,gq⟩:=zM (T-k:Nat);obtain⟨cz,i5⟩:=zM (cy-k:Nat);rw[←gq.out,←i5.out] at jl hby;have gc:Hid (nz=Wd):=by show _=_;rw[gq.out,HT.out,d9.out,kD]
  have i9:(r.bytes.drop k).take nz=D.take Wd:=by rw[HD.out,gc.out]
  rw[i9] at hby;have im:=B8q hby (by rw[gc.out];omega) (by rw[gc.out];omega);rw[←HA.out] at im;have ig:T≤ny:=by rw[HT.out,d9.out];omega
  have js:1≤B:=by rw[d9.out];omega
  clear hS i9 hby eh bn il;go_wp2_with fail
  refine im.mono ?_;rintro e w9 ⟨rfl,rfl⟩;obtain⟨tn,di⟩:=zM (xN x.kind A:Nat);have dl:=fun V=>bh A V b1
  rw[←di.out] at dl;have dr:Hid ((acc++[A]).map (xN x.kind)=acc.map (xN x.kind)++[tn]):=by show _=_;rw[wM,di.out];rfl
  obtain⟨Y1,dn⟩:=zM ((Y.alloc (.cells #[.int .u64 (tn:Int)] 64)).drew);have aw:zB Y Y1:=by rw[dn.out];exact((zH _ _).alloc (zG _) _).drew
  have dx:∀ ad,some (⟨Y.heap.size,0,none⟩:Addr)=some ad→∀ k y,[tn][k]?=some y→∀ j u,(ekU.enc y)[j]?=some u→Y1.cell? (ad.add (k*ekU.size+j))=some u:=by rw[dn.out];exact WZ Y tn
  have iu:=aw.size;have hr1:=dm.bL aw;have fj:=(aw.block _ lY).trans xY;have ix:=zL fj 1 _ rfl;have bu:=df.trans (aw.mono (by omega));have ah:=df.drew;have ag:∀ V,Below c10 W1 V→V.cell? ⟨c10,1,none⟩=some (.slice a1 n1 c1)→V.cell? ⟨bx,ox+2,none⟩=some (.int .i64 x.kind)∧V.cell? ⟨c10,1,none⟩=some (.slice a1 n1 c1):=fun V hV h=>⟨(dg V hV).2.2.2.1,h⟩
  go_upto_region 32 with fail
  clear bh gg dg dz t0 t1 t2 t3 t4 t5 t6 t8 t9 e0 e1 cg e3 f0 f1 f2 f3 hkey v0 v2 v3 jl eT hS1 im b0 d9 HA hW1 gc gq i5;exact XL
 have bq:(r.how != 2)=true∨(r.how != 2)=false∧x.many=false:=by
  by_cases h:r.how=2
  ·right;exact⟨by simp[h],by cases hm:x.many with|true=>exact absurd ⟨h,hm⟩ hp|false=>rfl⟩
  left;exact qK.2 h
 obtain rfl:R = .error 8:=by
  rw[←HR.out,TA (L:=[]) (E:=8) hk2.out (by rw[tnN,zC (by rw[←cu.out];exact hrw),zC hp])];rfl
 clear hrw hp bh;rcases bq with bq|⟨bq,bm⟩
 ·exact XJ
 rw[bm] at t9;exact XJ
end L
end Go.Proofs.YthcomdofaaeihaaGreatDoor
