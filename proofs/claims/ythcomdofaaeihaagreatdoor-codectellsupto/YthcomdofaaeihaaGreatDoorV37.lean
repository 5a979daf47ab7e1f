import Derived.Test.YthcomdofaaeihaaGreatDoorV35
set_option maxHeartbeats 32000000
set_option maxRecDepth 100000
set_option linter.unusedVariables false
namespace Go.Proofs.YthcomdofaaeihaaGreatDoor
variable{N E C K A:Nat}{D R:List UInt8}
theorem D5j (h:yZ 0 0 D=(N,K,E))(hE:E≠0):uC D=(⟨0,0,0,[]⟩,0,E):=by
 simp[uC,tJ,qE,h,hE]
theorem D0s (h:yZ 0 0 D=(N,K,0))(hN:N / 8<1∨536870912≤N / 8):uC D=(⟨0,0,0,[]⟩,0,3):=by
 have ht:tJ D=(0,0,0,3):=by rw[tJ,h];show qE N K 0=_;rw[qE,zC (by simp),zF hN]
 rw[uC,ht];rfl
theorem D5h (h:yZ 0 0 D=(N,K,0))(h1:¬ (N / 8<1∨536870912≤N / 8))(hk:vV ((N%8:Nat):Int)=false):uC D=(⟨0,0,0,[]⟩,0,1):=by
 have ht:tJ D=(0,0,0,1):=by rw[tJ,h];show qE N K 0=_;rw[qE,zC (by simp),zC h1,zF hk]
 rw[uC,ht];rfl
theorem D5i (h:yZ 0 0 D=(N,K,0))(h1:¬ (N / 8<1∨536870912≤N / 8))(hk:vV ((N%8:Nat):Int)=true):uC D=qG (N / 8) (N%8) K (D.drop K):=by
 have ht:tJ D=(N / 8,N%8,K,0):=by rw[tJ,h];show qE N K 0=_;rw[qE,zC (by simp),zC h1,zC (by rw[hk];simp)]
 rw[uC,ht];rfl
theorem TB {B:Nat}(hB:B≠2)(h:vD R (B:Int)=(N,K,E)):qG A B C R=if E≠0 then(⟨0,0,0,[]⟩,0,E) else(⟨(A:Int),(B:Int),N,[]⟩,C+K,0):=by
 rw[qG,zC hB,h]
theorem C6r (h:yZ 0 0 R=(N,K,E)):qG A 2 C R=if E≠0 then(⟨0,0,0,[]⟩,0,E) else if R.length-K<N then(⟨0,0,0,[]⟩,0,2) else(⟨(A:Int),2,0,(R.drop K).take N⟩,C+(K+N),0):=by
 rw[qG,zF rfl,rW,lI,h];by_cases hE:E=0
 ·by_cases hN:R.length-K<N
  ·simp[hE,hN]
  simp[hE,hN]
 simp[hE]
namespace L
open Go.RowKit Go.WideMaps Go.Maps
variable{ao:Option Addr}{len cap i:Nat}{l:List UInt8}{w:World}
theorem TC (hr:RdA w ao len cap l){j:Nat}(hi:i≤j)(hj:j≤len) :
  ∃ ac,(∀ w,(Instr.slice 30 (.slice ao len cap) (some (.int .i64 (i:Int))) (some (.int .i64 (j:Int))) none).run Tryz.prog w = .ok (.slice ac (j-i) (cap-i)) w)∧RdA w ac (j-i) (cap-i) ((l.drop i).take (j-i)):=by
 refine⟨_,?_,(hr.drop (by omega)).take (by omega)⟩;intro w;have hc:=hr.2.1;have:=run_slice_lh (P:=Tryz.prog) (w:=w) 30 ao len cap Tryz.underlying30 .i64 .i64 (i:Int) (j:Int) (by omega) (by omega) (by omega);rw[this];have e1:(sizeOf (Tryz.prog.elem 30)).run Tryz.prog w = .ok 1 w:=by rfl
 rw[e1];have e3:((j:Int)-(i:Int)).toNat=j-i:=by omega
 simp[Result.andThen,sliced]
theorem E2b {n:Nat}(h:RdA w ao n cap l):RdL 1 YAt w (.slice ao n cap) l:=by
 obtain⟨h1,h2,h3,h4,h5⟩:=h;refine⟨ao,n,cap,rfl,h1,h2,h3,fun e=>⟨by have:=h4 e;omega,h4 e⟩,fun x hx k a ha=>?_⟩;have hk:=(yG.1 ha).1;have:=h5 x hx k (by omega);rw[pG,ha] at this;rw[tS];exact this
theorem RecL.cset {W:World}{base g:Nat}{v x:Value}{l:List RI}{cs:Array Value}{t:TypeId}(h:RecL W w base v l)(hg:w.heap[g]?=some (.cells cs t (0,0)))(h1:t≠ekR.elem)(h2:t≠ekY.elem):RecL W (w.setCell ⟨g,i,none⟩ x) base v l:=by
 obtain⟨l',r1,r2,r3⟩:=h;exact⟨l',r1.other (r1.ne_blk hg h1) _ _,r2,fun r hr=>(r3 r hr).imp id fun q=>q.other (q.ne_blk hg h2) _ _⟩
theorem Qm9{P:Prop}(h:P:=by
 rintro e w9 ⟨rfl,ak⟩;have y9:=(zN ak).trans x0;obtain⟨g0,g1⟩:=zO y9;have f0:=zJ y9 0;have f1:=zJ y9 1;have cu:=(zR y9)
 clear ag;go_wp2;obtain⟨rfl,h2,rfl⟩:=HX.out;refine bodyPost_ret (v:=.tuple #[.slice none 0 0,.agg #[.int .i64 (E:Int),.int .i64 (A:Int)]]) (by simp[results,Tryz.results51,go_sem,g0,g1,h2]) rfl ⟨none,0,0,rfl,RecL.nil _ _ _,zT (zT (hb0.trans (ak.mono (by omega))) (zG _)) (zG _)⟩):P:=h
theorem Qn1{P:Prop}(h:P:=by
 rw[wM];exact RecL.app (o:=none) (r1.bL ac) r2 (fun r hr=>(r3 r hr).imp id fun q=>q.bL ac) rfl (fun r hr=>by rw[zS.1 hr];exact .inl bu) h1 h2 rfl):P:=h
theorem Qn4{P:Prop}(h:P:=by
 exact(RecL.cset hro aw (by decide) (by decide)).bL ((zH _ _).alloc (zG _) _)):P:=h
theorem XM{P:Prop}(h:P:=by
 rw[dm];have h9:=yM (Z2.setCell ⟨c,0,none⟩ (.int .i64 (T3:Int))) (.cells #[.int .i64 (T3:Int)] 3);simpa using h9):P:=h
theorem mX{P:Prop}(h:P:=by
 go_wp2_with fail
 refine eu.mono ?_;rintro e w1 ⟨rfl,rfl⟩;go_upto_region 34 with fail
 rw[←HZ.out];obtain⟨s0,s1,s2,s3⟩:=vI xZ;have bg:=z1.size;have dh:=(zR z2)
 have vc:=zJ z2 0;obtain⟨l',r1,r2,r3⟩:=z3;obtain⟨Z1,bn,ac,-,-⟩:=zV Z (.cells #[.int .i64 (Q:Int),.int .i64 (H:Int),.int .u64 (bt:Int),.slice none 0 0] 78);have av:∀ ad,some (⟨Z.heap.size,0,none⟩:Addr)=some ad→∀ k y,[((⟨(Q:Int),(H:Int),bt,[]⟩:RI),((none,0,0):PV))][k]?=some y→∀ j u,(ekR.enc y)[j]?=some u→Z1.cell? (ad.add (k*ekR.size+j))=some u:=by rw[bn.out];exact ZM Z ⟨(Q:Int),(H:Int),bt,[]⟩ none 0 0
 have cj:=ac.size;have hl':l'.length≤4000:=by have:=congrArg List.length r2;simp only[yX] at this;omega
 clear ag aj bh bl ba au;go_wp2_with (at_builtin;rw[←bn.out];refine tP (by rfl) ekR _ _ (by rfl) W0.heap.size _ l' [(⟨(Q:Int),(H:Int),bt,[]⟩,(none,0,0))] (by rfl) (r1.bL ac) (some ⟨Z.heap.size,0,none⟩) 1 1 (by rfl) rfl (by simp) av (by decide) ?c2 (yN bg cj) ?_)
 case c2=>show(l'.length+1)*48≤_;omega
 intro v2 Z2 h1 h2;have aw:=(h2.block _ (by omega) (fun hh=>r1.ne_blk z2 (by decide) hh.symm)).trans ((ac.block _ dh).trans z2);have bc:=(z1.trans (ac.mono bg)).grown h2 (yN bg cj) (fun k hk=>(r1.own k hk).1);have q0:=zL aw 0 _ rfl;have q1:=zJ aw 0;have hc2:=(zR aw)
 obtain⟨a5,n5,c5,rfl,-⟩:=h1.shape';have hro:RecL u Z2 W0.heap.size (.slice a5 n5 c5) ((acc++[(⟨(Q:Int),(H:Int),bt,[]⟩:Rcd)]).map xR):=by
  exact Qn1
 clear h1 h2 r1 r2 r3 av;go_wp2_with fail
 go_roundg j
 case measure=>omega
 refine⟨k+n,_,acc++[⟨(Q:Int),(H:Int),bt,[]⟩],rfl,dn,by omega,by rw[yQ];simp;omega,?_,?_,?_,?_,hgo⟩
 ·exact bc.size
 ·exact XM
 ·exact Qn4
 exact oO (zT bc hc0) (zG _) _):P:=h
theorem gP{P:Prop}(h:P:=by
 go_wp2_with fail
 refine ah.mono ?_;rintro e w1 ⟨rfl,rfl⟩;clear ah;go_wp2_with fail
 refine(ag _ _ df dl).mono ?_;exact Qm9):P:=h
theorem gO{P:Prop}(h:P:=by
 go_wp2_with fail
 refine cg.mono ?_;rintro e w1 ⟨rfl,rfl⟩;clear cg;go_wp2_with fail
 refine(ag _ _ hbr xc).mono ?_;exact Qm9):P:=h
theorem C6f {u:World}(hu:RdA u ao len cap l)(hr:RdA w ao len cap l){rs:List Rcd}{E A:Nat}(h:uL l=(rs,E,A)) :
  Calls Tryz.prog 51 #[.slice ao len cap] w fun e w'=>∃ (a:Option Addr) (n c:Nat),e = .returned (.tuple #[.slice a n c,.agg #[.int .i64 (E:Int),.int .i64 (A:Int)]])∧RecL u w' w.heap.size (.slice a n c) (rs.map xR)∧zB w w':=by
 have HL:=zI hr.1;have hlc:=hr.2.1;have hcm:cap≤9223372036854775807:=by have:=hr.2.2.1;unfold maxLen at this;omega
 rw[uL,HL.out] at h;obtain⟨W0,ee,hb0,x0,iq⟩:=zV w (.cells #[.int .i64 0,.int .i64 0] 54);have z0:W0.heap.size≤w.heap.size+1:=by rw[ee.out];simp
 by_cases hm:4000<len
 ·rw[zF hm] at h;obtain⟨rfl,rfl,rfl⟩:=xJ h;clear h;go_enter Tryz.func51,Tryz.ntmps51;go_wp2;refine bodyPost_ret (v:=.tuple #[.slice none 0 0,.agg #[.int .i64 4,.int .i64 0]]) (by simp[results,Tryz.results51,go_sem]) rfl ⟨none,0,0,rfl,RecL.nil _ _ _,?_⟩;exact(zH _ _).alloc (zG _) _
 rw[zC hm] at h;have HP:Hid (rM len 0 [] (l.drop 0)=(rs,E,A)):=by show _=_;rw[oC];exact h
 clear h;have ip:=@run_makeMap Tryz.prog;have io:decide ((4000:Int)<(len:Int))=false:=by simp;omega
 have hl4:len≤4000:=by omega
 clear hm;go_enter Tryz.func51,Tryz.ntmps51;go_wp2_with fail
 rw[←ee.out];obtain⟨W1,gc,hb1,x1⟩:∃ X,Hid (X=W0.alloc (.cells #[.int .i64 0] 3))∧zB W0 X∧X.heap[W0.heap.size]?=some (.cells #[.int .i64 0] 3 (0,0)):=⟨_,rfl,(zH _ _).alloc (zG _) _,yM _ _⟩
 rw[←gc.out];go_loopg [4,5] len (fun m o p wr=>∃ (k c:Nat) (acc:List Rcd),p = .pointer (some ⟨c,0,none⟩)∧k≤len∧len≤m+k∧acc.length≤k∧W0.heap.size≤c∧wr.heap[c]?=some (.cells #[.int .i64 (k:Int)] 3 (0,0))∧RecL u wr W0.heap.size o (acc.map xR)∧zB W0 wr∧Hid (rM m k acc (l.drop k)=(rs,E,A)))
 case atStart=>exact⟨0,W0.heap.size,[],by rw[ee.out];simp,qA _,by omega,qA _,zG _,x1,RecL.nil _ _ _,hb1,HP⟩
 obtain⟨k,c,acc,rfl,hk,hf,ik,hc0,xc,hown,hbr,HR⟩:=hrel;obtain⟨a4,n4,c4,rfl,H4⟩:=hown.sH;have d9:=hb0.trans (hbr.mono (by omega));have hcw:=(zR xc)
 have ig:=hbr.size;have u0:=zL xc 0 _ rfl;by_cases hlt:k<len
 rotate_left
 ·obtain⟨g0,g1⟩:=zO ((zN hbr).trans x0);have f0:=zJ ((zN hbr).trans x0) 0;have f1:=zJ ((zN hbr).trans x0) 1;have im:w.heap.size<wr.heap.size:=by omega
  obtain⟨e1,rfl,rfl⟩:=xJ (show(acc,0,0)=(rs,E,A) by rw[←HR.out,cW (by rw[vE,HL.out];omega)]);have E1:=zI e1;clear HR e1;go_wp2;refine bodyPost_ret (v:=.tuple #[.slice a4 n4 c4,.agg #[.int .i64 0,.int .i64 0]]) (by simp[results,Tryz.results51,go_sem,g0,g1]) rfl ⟨a4,n4,c4,rfl,?_,zT (zT d9 (zG _)) (zG _)⟩;rw[←E1.out];obtain⟨l',r1,r2,r3⟩:=hown;exact⟨l',((r1.low (by omega) _ _).low (by omega) _ _).mono (by omega),r2,fun r hr=>(r3 r hr).imp id fun q=>((q.low (by omega) _ _).low (by omega) _ _).mono (by omega)⟩
 obtain⟨j,rfl⟩:∃ j,gk=j+1:=⟨gk-1,by omega⟩
 obtain⟨D,HD⟩:=zM (l.drop k);have fe:Hid (D.length=len-k):=by show _=_;rw[HD.out,vE,HL.out]
 have fh:Hid (D.length≠0):=by show _≠_;rw[fe.out];omega
 have aj:∀ {r n F},uC D=(r,n,F)→F≠0→Hid (rs = []∧(E:Int)=(F:Int)∧A=k):=fun hR hF=>by
  obtain⟨r1,r2,r3⟩:=xJ (show([],_,k)=(rs,E,A) by rw[←HR.out,←HD.out,YZ fh.out hR hF]);exact⟨r1.symm,by rw[r2],r3.symm⟩
 have bh:∀ {r n},uC D=(r,n,0)→Hid (rM j (k+n) (acc++[r]) (l.drop (k+n))=(rs,E,A)):=fun hR=>by
  show _=_;rw[←HR.out,←HD.out,cU fh.out hR,HD.out,nW]
 obtain⟨N,K,E0,HN⟩:∃ N K E0,Hid (yZ 0 0 D=(N,K,E0)):=⟨_,_,_,rfl⟩
 obtain⟨b1,b2,b3,b4,b5⟩:=lN HN.out;rw[fe.out] at b2;have cg:=TD (YN hr d9) k hk (A:=N) (B:=K) (C:=E0) (by rw[←HD.out];exact HN.out);have ag:∀ (V:World) (e:Int),zB W0 V→V.heap[c]?=some (.cells #[.int .i64 (k:Int)] 3 (0,0))→Calls Tryz.prog 110 #[.int .i64 e,.pointer (some ⟨c,0,none⟩)] V fun r V'=>r = .returned (.tuple #[.slice none 0 0,.agg #[.int .i64 e,.int .i64 (k:Int)]])∧zB W0 V':=fun V e hV hc=>
  (D5e (zL hc 0 _ rfl) (zR hc)).mono fun r V' ⟨h1,h2⟩=>⟨h1,hV.trans (h2.mono hV.size)⟩
 clear HR;by_cases hE:E0=0
 rotate_left
 ·have eE:((E0:Int) != 0)=true:=by rw[qK];omega
  have HX:=aj (D5j HN.out hE) hE;rw[zC hE] at cg;clear hE aj bh;exact gO
 have eE:((E0:Int) != 0)=false:=by simp[hE]
 rw[zF hE] at cg;subst hE;obtain⟨Q,HQ⟩:=zM (N / 8:Nat);obtain⟨H,HH⟩:=zM (N%8:Nat);have eQ:(N:Int) / 8=(Q:Int):=by rw[HQ.out];omega
 have eH:(N:Int)%8=(H:Int):=by rw[HH.out];omega
 have hQ:Q≤2305843009213693951:=by rw[HQ.out];omega
 have hH:H<8:=by rw[HH.out];omega
 have ii:=b5 rfl;obtain⟨T,HT⟩:=zM (k+K:Nat);rw[←HT.out] at cg;have il:k<T:=by rw[HT.out];omega
 have ie:T≤len:=by rw[HT.out];omega
 clear b4 b5;by_cases hq:Q<1∨536870912≤Q
 ·have q0:((Q:Int)==0)=true∨((Q:Int)==0)=false∧decide ((536870911:Int)<(Q:Int))=true:=by
   rcases hq with h|h
   ·left;simp;omega
   right;exact⟨beq_eq_false_iff_ne.2 (by omega),xU (by omega)⟩
  have HX:=aj (D0s HN.out (by rw[←HQ.out];exact hq)) (by decide);clear hq aj bh;rcases q0 with q0|⟨q0,q1⟩
  ·exact gO
  exact gO
 have q0:((Q:Int)==0)=false:=beq_eq_false_iff_ne.2 (by omega);have q1:decide ((536870911:Int)<(Q:Int))=false:=yC (by omega);have fu:Hid (¬ (N / 8<1∨536870912≤N / 8)):=by rw[←HQ.out];exact hq
 clear hq;obtain⟨W2,gg,hb2,x2,-⟩:=zV wr (.cells #[.int .i64 (Q:Int),.int .i64 (H:Int),.int .u64 0,.slice none 0 0] 78);have z2:=(zR x2)
 have fq:RMap (W2.alloc (.map #[] 0)) W2.heap.size 0 (.map []):=World.ownsMap_made W2 Tryz.prog 3 (plainElem (H:=Unit) Tryz.prog 3);have hgr:∀ {V V':World},zB W2 V→V.grownBy V' (some W2.heap.size)→zB W2 V':=fun hV hg=>hV.grown hg hV.size (fun j hj=>by cases hj;exact zG _)
 have hkey:=VS (H:Int) (by omega);have bc:=hbr.trans (hb2.mono (by omega));have di:=fun V (hV:zB W2 V)=>(hV.block _ z2).trans x2
 have dv:zB W2 (W2.alloc (.map #[] 0)):=(zH _ _).alloc (zG _) _;go_wp2_with fail
 refine cg.mono ?_;rintro e w1 ⟨rfl,rfl⟩;go_upto_region 13 with fail
 rw[←gg.out];go_upto_region 14 with(first|(refine lQ rfl _ _ _ rfl W2.heap.size 0 _ rfl fq (by omega) 1 8 (by omega) (by omega) rfl rfl ?_;intro y1 h1 g1)|(refine lQ rfl _ _ _ rfl W2.heap.size 1 _ rfl h1 (by omega) 5 4 (by omega) (by omega) rfl rfl ?_;intro Y h2 g2;have hY:zB W2 Y:=hgr (hgr dv g1) g2;obtain⟨t0,t1,t2,t3⟩:=vI (di Y hY))|(at_lookup;refine wpList_lookup_own_int _ rfl _ _ 45 rfl 3 3 .i64 ZH Tryz.underlying45 Tryz.underlying3 (WL _) W2.heap.size 2 aN rfl h2 _ _ rfl hkey ?_;intro wd hat hwc))
 have gl:=zI (VR (hat.symm.trans (D2k (H:Int))));have dw:=zK hb2 hY;have xY:=di Y hY;have dl:=(dw.block _ hcw).trans xc;have df:=bc.trans (hY.mono bc.size);have zY:=dw.size;have v2:=zJ xY 2;have v3:=zJ xY 3;clear h1 h2 g1 g2 hgr fq dv hat hwc cg di hkey x2 z2 bc hb2 u0 hY xc eQ eH eE q0 q1;obtain⟨R,dp⟩:=zM (l.drop T);have f9:Hid (D.drop K=R):=by show _=_;rw[HD.out,nW,←HT.out,dp.out]
 have dz:Hid (R.length=len-T):=by show _=_;rw[dp.out,vE,HL.out]
 obtain⟨N2,K2,E2,dy⟩:∃ N K E0,Hid (yZ 0 0 R=(N,K,E0)):=⟨_,_,_,rfl⟩
 obtain⟨c1,c2,c3,-,c5⟩:=lN dy.out;rw[dz.out] at c2;have ah:=TD (YN hr (zK d9 dw)) T ie (A:=N2) (B:=K2) (C:=E2) (by rw[←dp.out];exact dy.out);have bl:∀ p,vV (H:Int)=true→Hid (qG Q H K R=p)→Hid (uC D=p):=fun p h1 h2=>by
  show _=_;rw[D5i HN.out fu.out (by rw[←HH.out];exact h1),f9.out,←HQ.out,←HH.out,h2.out]
 have au:∀ i x,zB W0 (Y.setCell ⟨wr.heap.size,i,none⟩ x)∧(Y.setCell ⟨wr.heap.size,i,none⟩ x).heap[c]?=some (.cells #[.int .i64 (k:Int)] 3 (0,0))∧RecL u (Y.setCell ⟨wr.heap.size,i,none⟩ x) W0.heap.size (.slice a4 n4 c4) (acc.map xR):=fun i x=>⟨zT df ig,(zZ _ _ _ _ (show c≠wr.heap.size by omega)).trans dl,hown.bL (zT dw (zG _))⟩
 by_cases h0:H=0
 ·have b0:((H:Int)==0)=true:=by simp[h0]
  have ba:=bl _ (by rw[h0];rfl) (show _=_ from TB (by omega) (show vD R (H:Int)=(N2,K2,E2) by rw[vD,zF (by omega),dy.out]));clear h0;obtain⟨z1,z2,z3⟩:=au 2 (.int .u64 (N2:Int));by_cases hE:E2=0
  ·have eE:((E2:Int) != 0)=false:=by simp[hE]
   rw[zF hE] at ah;have hgo:=bh (ba.out.trans (zC (by simp[hE])));have g8:=c5 hE;subst hE;obtain⟨Z,HZ⟩:=zM (Y.setCell ⟨wr.heap.size,2,none⟩ (.int .u64 (N2:Int)));have xZ:=yO Y wr.heap.size 2 _ _ (.int .u64 (N2:Int)) xY;rw[←HZ.out] at xZ z1 z2 z3;obtain⟨n,Hn⟩:=zM (K+K2:Nat);rw[←Hn.out] at hgo;have dn:k+n≤len:=by rw[Hn.out];have:=HT.out;omega
   have fz:1≤n:=by rw[Hn.out];omega
   have dm:((k+n:Nat):Int)=(T:Int)+(K2:Int):=by have:=HT.out;have:=Hn.out;omega
   have bu:RdL 1 YAt u (.slice none 0 0) []:=RdL.nil _ _ _;go_wp2_with fail
   refine ah.mono ?_;rintro e w1 ⟨rfl,rfl⟩;go_upto_region 34 with fail
   rw[←HZ.out];obtain⟨s0,s1,s2,s3⟩:=vI xZ;have bg:=z1.size;have dh:=(zR z2)
   have vc:=zJ z2 0;obtain⟨l',r1,r2,r3⟩:=z3;obtain⟨Z1,bn,ac,-,-⟩:=zV Z (.cells #[.int .i64 (Q:Int),.int .i64 (H:Int),.int .u64 (N2:Int),.slice none 0 0] 78);have av:∀ ad,some (⟨Z.heap.size,0,none⟩:Addr)=some ad→∀ k y,[((⟨(Q:Int),(H:Int),N2,[]⟩:RI),((none,0,0):PV))][k]?=some y→∀ j u,(ekR.enc y)[j]?=some u→Z1.cell? (ad.add (k*ekR.size+j))=some u:=by rw[bn.out];exact ZM Z ⟨(Q:Int),(H:Int),N2,[]⟩ none 0 0
   have cj:=ac.size;have hl':l'.length≤4000:=by have:=congrArg List.length r2;simp only[yX] at this;omega
   clear ag aj bh bl ah ba au;go_wp2_with (at_builtin;rw[←bn.out];refine tP (by rfl) ekR _ _ (by rfl) W0.heap.size _ l' [(⟨(Q:Int),(H:Int),N2,[]⟩,(none,0,0))] (by rfl) (r1.bL ac) (some ⟨Z.heap.size,0,none⟩) 1 1 (by rfl) rfl (by simp) av (by decide) ?c2 (yN bg cj) ?_)
   case c2=>show(l'.length+1)*48≤_;omega
   intro v2 Z2 h1 h2;have aw:=(h2.block _ (by omega) (fun hh=>r1.ne_blk z2 (by decide) hh.symm)).trans ((ac.block _ dh).trans z2);have bc:=(z1.trans (ac.mono bg)).grown h2 (yN bg cj) (fun k hk=>(r1.own k hk).1);have q0:=zL aw 0 _ rfl;have q1:=zJ aw 0;have hc2:=(zR aw)
   obtain⟨a5,n5,c5,rfl,-⟩:=h1.shape';have hro:RecL u Z2 W0.heap.size (.slice a5 n5 c5) ((acc++[(⟨(Q:Int),(H:Int),N2,[]⟩:Rcd)]).map xR):=by
    exact Qn1
   clear h1 h2 r1 r2 r3 av;go_wp2_with fail
   go_roundg j
   case measure=>omega
   refine⟨k+n,_,acc++[⟨(Q:Int),(H:Int),N2,[]⟩],rfl,dn,by omega,by rw[yQ];simp;omega,?_,?_,?_,?_,hgo⟩
   ·exact bc.size
   ·rw[dm];have h9:=yM (Z2.setCell ⟨c,0,none⟩ (.int .i64 ((T:Int)+(K2:Int)))) (.cells #[.int .i64 ((T:Int)+(K2:Int))] 3);simpa using h9
   ·exact Qn4
   exact oO (zT bc hc0) (zG _) _
  have eE:((E2:Int) != 0)=true:=by rw[qK];omega
  rw[zC hE] at ah;have HX:=aj (ba.out.trans (zF hE)) hE;clear hE aj bh bl ba au;go_wp2_with fail
  refine ah.mono ?_;rintro e w1 ⟨rfl,rfl⟩;clear ah;go_wp2_with fail
  refine(ag _ _ z1 z2).mono ?_;exact Qm9
 have b0:((H:Int)==0)=false:=beq_eq_false_iff_ne.2 (by omega);by_cases h2:H=2
 ·have b1:((H:Int)==1)=false:=beq_eq_false_iff_ne.2 (by omega);have b5:((H:Int)==5)=false:=beq_eq_false_iff_ne.2 (by omega);have fk:((H:Int)==2)=true:=by simp[h2]
  have ba:=bl _ (by rw[h2];rfl) (show _=_ from (congrArg (fun h=>qG Q h K R) h2).trans (C6r dy.out));have gj:Hid ((2:Int)=(H:Int)):=by show _=_;omega
  clear h0 h2;by_cases hE:E2=0
  ·have eE:((E2:Int) != 0)=false:=by simp[hE]
   rw[zF hE] at ah;have dg:=ba.out.trans (zC (by simp[hE]));rw[dz.out] at dg;have fw:Hid _:=dg;clear dg;have g8:=c5 hE;subst hE;obtain⟨T2,cw⟩:=zM (T+K2:Nat);rw[←cw.out] at ah;have ij:T2≤len:=by rw[cw.out];omega
   by_cases hS:len-T-K2<N2
   ·have gu:decide ((4000:Int)<(N2:Int))=true∨decide ((4000:Int)<(N2:Int))=false∧N2≤4000∧decide ((len:Int)<(T2:Int)+(N2:Int))=true:=by
     have:=cw.out;by_cases h4:4000<N2
     ·left;exact xU (by omega)
     right;exact⟨yC (by omega),by omega,xU (by omega)⟩
    have HX:=aj (fw.out.trans (zF hS)) (by decide);clear hS aj bh bl ba au;rcases gu with hS1|⟨hS1,gw,gz⟩
    ·exact gP
    exact gP
   have hgo:=bh (fw.out.trans (zC hS));rw[gj.out] at hgo;have hS1:decide ((4000:Int)<(N2:Int))=false:=yC (by omega);have gw:decide ((len:Int)<(T2:Int)+(N2:Int))=false:=yC (by have:=cw.out;omega);have gz:N2≤4000:=by omega
   obtain⟨T3,bk⟩:=zM (T2+N2:Nat);have gq:(T2:Int)+(N2:Int)=(T3:Int):=by rw[bk.out];omega
   obtain⟨ay,fd,bu⟩:=TC hu (i:=T2) (j:=T3) (by rw[bk.out];omega) (by rw[bk.out,cw.out];omega);obtain⟨ny,dr⟩:=zM (T3-T2:Nat);obtain⟨cy,ei⟩:=zM (cap-T2:Nat);rw[←dr.out,←ei.out] at fd bu;have bu:=E2b bu;have dt:(l.drop T2).take ny=(R.drop K2).take N2:=by rw[dp.out,nW,←cw.out,dr.out,bk.out,kD]
   rw[dt] at bu;obtain⟨bs,gh⟩:=zM ((R.drop K2).take N2);rw[←gh.out] at hgo bu;obtain⟨z1,z2,z3⟩:=au 3 (.slice ay ny cy);obtain⟨Z,HZ⟩:=zM (Y.setCell ⟨wr.heap.size,3,none⟩ (.slice ay ny cy));have xZ:=yO Y wr.heap.size 3 _ _ (.slice ay ny cy) xY;rw[←HZ.out] at xZ z1 z2 z3;obtain⟨n,Hn⟩:=zM (K+(K2+N2):Nat);rw[←Hn.out] at hgo;have dn:k+n≤len:=by rw[Hn.out];have:=HT.out;omega
   have fz:1≤n:=by rw[Hn.out];omega
   have dm:((k+n:Nat):Int)=(T3:Int):=by have:=HT.out;have:=Hn.out;have:=cw.out;have:=bk.out;omega
   have eo:T3≤len:=by rw[bk.out,cw.out];omega
   have gp:=fk;clear hS dt;go_wp2_with fail
   refine ah.mono ?_;rintro e w1 ⟨rfl,rfl⟩;go_upto_region 34 with fail
   rw[←HZ.out];obtain⟨s0,s1,s2,s3⟩:=vI xZ;have bg:=z1.size;have dh:=(zR z2)
   have vc:=zJ z2 0;obtain⟨l',r1,r2,r3⟩:=z3;obtain⟨Z1,bn,ac,-,-⟩:=zV Z (.cells #[.int .i64 (Q:Int),.int .i64 (H:Int),.int .u64 (0:Int),.slice ay ny cy] 78);have av:∀ ad,some (⟨Z.heap.size,0,none⟩:Addr)=some ad→∀ k y,[((⟨(Q:Int),(H:Int),0,bs⟩:RI),((ay,ny,cy):PV))][k]?=some y→∀ j u,(ekR.enc y)[j]?=some u→Z1.cell? (ad.add (k*ekR.size+j))=some u:=by rw[bn.out];exact ZM Z ⟨(Q:Int),(H:Int),0,bs⟩ ay ny cy
   have cj:=ac.size;have hl':l'.length≤4000:=by have:=congrArg List.length r2;simp only[yX] at this;omega
   clear ag aj bh bl ah ba au;go_wp2_with (at_builtin;rw[←bn.out];refine tP (by rfl) ekR _ _ (by rfl) W0.heap.size _ l' [(⟨(Q:Int),(H:Int),0,bs⟩,(ay,ny,cy))] (by rfl) (r1.bL ac) (some ⟨Z.heap.size,0,none⟩) 1 1 (by rfl) rfl (by simp) av (by decide) ?c2 (yN bg cj) ?_)
   case c2=>show(l'.length+1)*48≤_;omega
   intro v2 Z2 h1 h2;have aw:=(h2.block _ (by omega) (fun hh=>r1.ne_blk z2 (by decide) hh.symm)).trans ((ac.block _ dh).trans z2);have bc:=(z1.trans (ac.mono bg)).grown h2 (yN bg cj) (fun k hk=>(r1.own k hk).1);have q0:=zL aw 0 _ rfl;have q1:=zJ aw 0;have hc2:=(zR aw)
   obtain⟨a5,n5,c5,rfl,-⟩:=h1.shape';have hro:RecL u Z2 W0.heap.size (.slice a5 n5 c5) ((acc++[(⟨(Q:Int),(H:Int),0,bs⟩:Rcd)]).map xR):=by
    exact Qn1
   clear h1 h2 r1 r2 r3 av;go_wp2_with fail
   go_roundg j
   case measure=>omega
   refine⟨k+n,_,acc++[⟨(Q:Int),(H:Int),0,bs⟩],rfl,dn,by omega,by rw[yQ];simp;omega,?_,?_,?_,?_,hgo⟩
   ·exact bc.size
   ·exact XM
   ·exact Qn4
   exact oO (zT bc hc0) (zG _) _
  have eE:((E2:Int) != 0)=true:=by rw[qK];omega
  rw[zC hE] at ah;have HX:=aj (ba.out.trans (zF hE)) hE;clear hE aj bh bl ba au;exact gP
 by_cases h15:H=1∨H=5
 ·have fj:((H:Int)==1)=true∨((H:Int)==1)=false∧((H:Int)==5)=true:=by
   rcases h15 with h|h
   ·left;simp[h]
   right;simp[h]
  obtain⟨Wd,eh⟩:=zM (nP (H:Int):Nat);have hW1:1≤Wd∧Wd≤8:=by rw[eh.out];rcases h15 with h|h <;> subst h <;> decide
  have g7:Hid (tG (H:Int)=Wd):=by show _=_;rw[eh.out];rcases h15 with h|h <;> subst h <;> rfl
  have f6:vV (H:Int)=true:=(gE (by omega)).symm;have fy:Hid (vD R (H:Int)=if R.length<Wd then(0,0,2) else(uJ (R.take Wd),Wd,0)):=by show _=_;rw[vD,zC (by omega),g7.out]
  have dx:H≠2:=by omega
  clear h15 h0 h2;obtain rfl:wd=((Wd:Nat):Int):=by rw[gl.out,eh.out]
  by_cases hS:len-T<Wd
  ·have ba:=bl _ f6 (show _=_ from TB dx (fy.out.trans (zF (by rw[dz.out];exact hS))));have HX:=aj (ba.out.trans (zF (by decide))) (by decide);have hS1:decide ((len:Int)<(T:Int)+((Wd:Nat):Int))=true:=xU (by omega);clear hS aj bh bl ba au ah;rcases fj with b1|⟨b1,b5⟩
   ·go_wp2_with fail
    refine(ag _ _ df dl).mono ?_;exact Qm9
   go_wp2_with fail
   refine(ag _ _ df dl).mono ?_;exact Qm9
  have ba:=bl _ f6 (show _=_ from TB dx (fy.out.trans (zC (by rw[dz.out];exact hS))));have hgo:=bh (ba.out.trans (zC (by decide)));have hS1:decide ((len:Int)<(T:Int)+((Wd:Nat):Int))=false:=yC (by omega);obtain⟨T3,bk⟩:=zM (T+Wd:Nat);have gq:(T:Int)+((Wd:Nat):Int)=(T3:Int):=by rw[bk.out];omega
  obtain⟨ay,fd,hby⟩:=TC (YN hr (zK d9 dw)) (i:=T) (j:=T3) (by rw[bk.out];omega) (by rw[bk.out];omega);obtain⟨ny,dr⟩:=zM (T3-T:Nat);obtain⟨cy,ei⟩:=zM (cap-T:Nat);rw[←dr.out,←ei.out] at fd hby;have ew:Hid (ny=Wd):=by show _=_;rw[dr.out,bk.out,kD]
  have dt:(l.drop T).take ny=R.take Wd:=by rw[dp.out,ew.out]
  rw[dt] at hby;have eu:=B8q hby (by rw[ew.out];omega) (by rw[ew.out];omega);have g9:uJ (R.take Wd)≤18446744073709551615:=by
   have h9:=dY (R.take Wd);have h8:2 ^ (8*(R.take Wd).length)≤2 ^ 64:=mU (by decide) (by rw[vZ];omega);omega
  obtain⟨bt,gi⟩:=zM (uJ (R.take Wd));rw[←gi.out] at hgo eu g9;obtain⟨z1,z2,z3⟩:=au 2 (.int .u64 (bt:Int));obtain⟨Z,HZ⟩:=zM (Y.setCell ⟨wr.heap.size,2,none⟩ (.int .u64 (bt:Int)));have xZ:=yO Y wr.heap.size 2 _ _ (.int .u64 (bt:Int)) xY;rw[←HZ.out] at xZ z1 z2 z3;obtain⟨n,Hn⟩:=zM (K+Wd:Nat);rw[←Hn.out] at hgo;have dn:k+n≤len:=by rw[Hn.out];have:=HT.out;omega
  have fz:1≤n:=by rw[Hn.out];omega
  have dm:((k+n:Nat):Int)=(T3:Int):=by have:=HT.out;have:=Hn.out;have:=bk.out;omega
  have bu:RdL 1 YAt u (.slice none 0 0) []:=RdL.nil _ _ _;have eo:T3≤len:=by rw[bk.out];omega
  clear hS dt hby ah;rcases fj with b1|⟨b1,b5⟩
  ·exact mX
  exact mX
 have b1:((H:Int)==1)=false:=beq_eq_false_iff_ne.2 (by omega);have b5:((H:Int)==5)=false:=beq_eq_false_iff_ne.2 (by omega);have fk:((H:Int)==2)=false:=beq_eq_false_iff_ne.2 (by omega);have HX:=aj (D5h HN.out fu.out (by rw[←HH.out];exact(iT (by omega)).symm)) (by decide);clear h0 h2 h15 aj bh bl au ah;go_wp2_with fail
 refine(ag _ _ df dl).mono ?_;exact Qm9
end L
end Go.Proofs.YthcomdofaaeihaaGreatDoor
