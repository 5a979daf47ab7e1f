import Derived.Test.YthcomdofaaeihaaGreatDoorV30
set_option maxHeartbeats 32000000
set_option maxRecDepth 100000
namespace Go.Proofs.YthcomdofaaeihaaGreatDoor
namespace L
open Go.RowKit Go.WideMaps Go.Maps
variable{n k:Nat}{g:GI}{pre:List (List UInt8)}{w:World}{s:List UInt8}{ve:Value}{c:Int}
theorem fG:Keyed Tryz.prog 9:=string_keyed Tryz.underlying9
theorem ZB (w:World):(zeroValue 3).run Tryz.prog w = .ok (.int .i64 0) w:=by kernel_rfl
theorem YO {w':World}{b:Nat}{D:DataW Unit}(h:w.ownsMap Tryz.prog 9 (plainElem Tryz.prog 3) b n D)(hb:zB w w'):w'.ownsMap Tryz.prog 9 (plainElem Tryz.prog 3) b n D:=by
 have hlt:=h.lt;obtain⟨es,clock,h1,F,hs,hD⟩:=h;exact⟨es,clock,(hb.block b hlt).trans h1,F,hs,hD⟩
def CntD (D:DataW Unit)(pre:List (List UInt8)):Prop:=∀ s:List UInt8,D.atKey (.string s) (.lit (.int .i64 0)) = .lit (.int .i64 ((pre.count s:Nat):Int))
theorem CntD.nil:CntD (.map []) []:=fun _=>rfl
theorem CntD.put {D:DataW Unit}(h:CntD D pre)(hD:IsMap D)(hc:c=(pre.count s:Nat)):CntD (D.put (.string s) (.lit (.int .i64 (c+1)))) (pre++[s]):=by
 intro t;by_cases e:t=s
 ·subst e;rw[atKey_put_same hD (show WideAt.IsKeyLit (.string t) from trivial),hc];simp
 rw[atKey_put_other (by simpa using e),h t];have:([s]:List (List UInt8)).count t=0:=by simp[List.count_cons];exact fun h=>e h.symm
 rw[tR,this,oX]
theorem CntD.get {D:DataW Unit}(h:CntD D pre)(hc:D.atKey (.string s) (.lit (.int .i64 0)) = .lit (.int .i64 c)):c=(pre.count s:Nat):=by
 have:=(h s).symm.trans hc;injection this with h1;injection h1 with _ h2;exact h2.symm
theorem cT {l:List (List UInt8)}(h:l[k]?=some s):nO k (l.take k) (l.drop k)=if oJ s=false∨s∈l.take k then(7,k) else nO (k+1) (l.take (k+1)) (l.drop (k+1)):=by
 obtain⟨hk,e⟩:=yG.1 h;rw[uQ hk,e,nO,vX h]
theorem D2x {W:World}{p q:Nat}{a1:Option Addr}{n1 c1:Nat}(hp:W.heap[p]?=some (.cells #[.slice a1 n1 c1,ve] 25 (0,0)))(hq:W.heap[q]?=some (.cells #[.int .i64 (k:Int)] 3 (0,0)))(h1:n1≤1000)(h2:k≤1000)(e:Int) :
  Calls Tryz.prog 49 #[.int .i64 e,.pointer (some ⟨p,0,none⟩),.pointer (some ⟨q,0,none⟩)] W fun r W'=>r = .returned (.agg #[.int .i64 e,.int .i64 ((n1:Int)+(k:Int))])∧zB W W':=by
 have c0:=zL hp 0 _ rfl;have c1:=zL hq 0 _ rfl;have l0:=(zR hp)
 have l1:=(zR hq)
 have hs:(n1:Int)+(k:Int)≤2000:=by omega
 go_enter Tryz.func49,Tryz.ntmps49;go_wp2;refine bodyPost_ret (v:=.agg #[.int .i64 e,.int .i64 ((n1:Int)+(k:Int))]) (by simp[results,Tryz.results49,go_sem, *]) rfl ?_;exact⟨rfl,(zH _ _).alloc (zG _) _⟩
theorem E0e {ao:Option Addr}{len cap:Nat}(hk:k≤len)(hc:len≤cap)(w:World) :
  (Instr.slice 90 (.slice ao len cap) none (some (.int .i64 (k:Int))) none).run Tryz.prog w = .ok (.slice ao k cap) w:=by
 have:=run_slice_h (P:=Tryz.prog) (w:=w) 90 ao len cap Tryz.underlying90 .i64 (k:Int) (by omega) (by omega);rw[this];have e1:(sizeOf (Tryz.prog.elem 90)).run Tryz.prog w = .ok 2 w:=by rfl
 rw[e1];have e2:ao.map (fun x=>x.add 0)=ao:=by cases ao <;> rfl
 simp[Result.andThen,sliced,e2]
theorem D4l {a:MI}(h:g.mG[k]?=some a):(rX g)[k]?=some a.name:=by
 have hk:=(yG.1 h).1;unfold rX;rw[gM (by simpa using hk),sE,h];rfl
theorem D3p {a:EI}(hn:n=g.mG.length)(h:g.enums[k]?=some a):(rX g)[n+k]?=some a.name:=by
 unfold rX;rw[gL (by simp;omega),yX,hn,kD,sE,h];rfl
theorem Ql4{P:Prop}(h:P:=by
 clear hr;go_wp2_with fail
 refine bu.mono ?_;rintro e w5 ⟨rfl,aw⟩;obtain⟨g1,_,aj,_⟩:=ac w5 (bn.trans (aw.mono bn.size));obtain⟨z0,z1⟩:=zO g1;have f0:=zJ g1 0;have f1:=zJ g1 1;clear ac;go_wp2;refine bodyPost_ret (v:=.agg #[.int .i64 3,.int .i64 ((n1:Int)+(k:Int))]) (by simp[results,Tryz.results21,go_sem, *]) rfl ?_;exact⟨by rw[HE.out];simp,qP aj _ _⟩):P:=h
theorem Ql5{P:Prop}(h:P:=by
 clear h0 hbadn;go_wp2_with fail
 rw[←bg.out];refine bu.mono ?_;rintro e w5 ⟨rfl,aw⟩;obtain⟨g1,_,aj,_⟩:=ac w5 aw;obtain⟨z0,z1⟩:=zO g1;have f0:=zJ g1 0;have f1:=zJ g1 1;clear ac;go_wp2;refine bodyPost_ret (v:=.agg #[.int .i64 5,.int .i64 ((n1:Int)+(k:Int))]) (by simp[results,Tryz.results21,go_sem, *]) rfl ?_;exact⟨by rw[HE.out];simp,qP aj _ _⟩):P:=h
theorem Ql6{P:Prop}(h:P:=by
 rw[bg.out] at z0 z1 f0 f1;clear ak HS;go_wp2;refine bodyPost_ret (v:=.agg #[.int .i64 5,.int .i64 (k:Int)]) (by simp[results,Tryz.results21,go_sem, *]) rfl ?_;rw[←bg.out];exact⟨by rw[HE.out],qP dl _ _⟩):P:=h
theorem Ql7{P:Prop}(h:P:=by
 go_wp2;refine bodyPost_ret (v:=.agg #[.int .i64 7,.int .i64 ((n1:Int)+(k:Int))]) (by simp[results,Tryz.results21,go_sem, *]) rfl ?_;exact⟨by rw[HE.out];simp,qP aj _ _⟩):P:=h
theorem Ql8{P:Prop}(h:P:=by
 go_wp2;refine bodyPost_ret (v:=.agg #[.int .i64 3,.int .i64 (k:Int)]) (by simp[results,Tryz.results21,go_sem, *]) rfl ?_;exact⟨by rw[HE.out],qP dl _ _⟩):P:=h
theorem Ql9{P:Prop}(h:P:=by
 go_wp2;refine bodyPost_ret (v:=.agg #[.int .i64 7,.int .i64 ((n1+k):Nat)]) (by simp[results,Tryz.results21,go_sem, *]) rfl ?_;exact⟨by rw[HE.out],qP bl _ _⟩):P:=h
theorem Qm0{P:Prop}(h:P:=by
 go_wp2;refine bodyPost_ret (v:=.agg #[.int .i64 7,.int .i64 (k:Nat)]) (by simp[results,Tryz.results21,go_sem, *]) rfl ?_;exact⟨by rw[HE.out],qP bl _ _⟩):P:=h
theorem Qm1{P:Prop}(h:P:=by
 show _=_;rw[HK.out,cT dr,zC];rintro(h|h)
 ·rw[hq] at h;cases h
 have:=yD.2 h;have:=HC.out;omega):P:=h
theorem Qm2{P:Prop}(h:P:=by
 have:=keyOf_string_mk (P:=Tryz.prog) Tryz.underlying9 (s:=S a.name) (by rw[fO];unfold maxLen;omega);rw[this];simp[S]):P:=h
theorem B4w {vm:Value}(hg:GRd w vm ve g)(jt:g.mG.length≤140737488355328)(jv:g.enums.length≤140737488355328)(hf:Fits g) :
  Calls Tryz.prog 21 #[.agg #[vm,ve]] w fun e w'=>e = .returned (.agg #[.int .i64 (yB g).1,.int .i64 (((yB g).2:Nat):Int)])∧zB w w':=by
 obtain⟨a1,n1,c1,rfl,H1,_⟩:=hg.1.sH;obtain⟨a2,n2,c2,rfl,H2,_⟩:=hg.2.sH;have h1:n1≤140737488355328:=by rw[H1.out];exact jt
 have h2:n2≤140737488355328:=by rw[H2.out];exact jv
 have jr:=@run_makeMap Tryz.prog;obtain⟨W2,i5,hb2,-,hx1,hx2⟩:=uD w (.cells #[.slice a1 n1 c1,.slice a2 n2 c2] 25) (.cells #[.int .i64 0,.int .i64 0] 54);have hz2:W2.heap.size=w.heap.size+1+1:=by rw[i5.out];simp
 obtain⟨B,HB⟩:=zM (w.heap.size+1+1);have kj:B≤w.heap.size+2:=xD HB.out;have km:w.heap.size+2≤B:=xD HB.out.symm;have ak:=fun V (hV:Below B W2 V)=>yH ((zN hV).trans hx1) (yH ((zN hV).trans hx2) (hb2.trans (hV.mono (by omega))))
 by_cases hbig:10<n1+n2
 ·have HE:Hid (yB g=(5,0)):=by show _=_;rw[yB,zF (by rw[←H1.out,←H2.out];exact hbig)]
  have cu:(10:Int)<(n1:Int)+(n2:Int):=by omega
  clear ak hz2;go_enter Tryz.func21,Tryz.ntmps21;go_wp2;refine bodyPost_ret (v:=.agg #[.int .i64 5,.int .i64 0]) (by simp[results,Tryz.results21,go_sem, *]) rfl ?_;exact⟨by rw[HE.out];rfl,((zH _ _).alloc (zG _) _).alloc (by simp) _⟩
 have cu:¬ (10:Int)<(n1:Int)+(n2:Int):=by omega
 have g7:(W2.alloc (.map #[] 0)).ownsMap Tryz.prog 9 (plainElem (H:=Unit) Tryz.prog 3) B 0 (.map []):=by
  have:=World.ownsMap_made W2 Tryz.prog 9 (plainElem (H:=Unit) Tryz.prog 3);rw[hz2,←HB.out] at this;exact this
 have hb3:Below B W2 (W2.alloc (.map #[] 0)):=(zH _ _).alloc (by omega) _;obtain⟨W3,i6⟩:=zM (W2.alloc (.map #[] 0));rw[←i6.out] at g7 hb3;have j9:=xD hz2;have je:=xD hz2.symm;clear hz2;go_enter Tryz.func21,Tryz.ntmps21;go_wp2_with fail
 rw[←i5.out,←i6.out,←HB.out];obtain⟨N,HN⟩:=zM (rX g);have jn:N.length≤10:=by rw[HN.out];simp[rX];rw[←H1.out,←H2.out];omega
 obtain⟨NR,gj⟩:=zM (nO 0 [] N);have hno:¬ 10<g.mG.length+g.enums.length:=by rw[←H1.out,←H2.out];exact hbig
 have gz:xC pJ [7] 0 (rX g) []=NR:=by rw[gj.out,HN.out];exact B4g _ _ _ _ (fun _=>Iff.rfl)
 have ew:∀ (e:Int) (j:Nat),NR=(e,j)→e≠0→Hid (yB g=(e,j)):=by
  intro e j h1 h2;show _=_;rw[yB,zC hno,gz,h1,zF h2]
 have iz:Hid (NR.1=0→yB g=match sW g 0 (g.mG.drop 0) with|some q=>q|none=>match tO 0 g.enums with|some q=>(q.1,g.mG.length+q.2)|none=>(0,0)):=by
  show _→_;intro h;rw[yB,zC hno,gz,zC (by simp[h])];rfl
 clear gz hno;go_loopg [4,36] n1 (fun gm gu i wr=>∃ (k:Nat) (D:DataW Unit),k+gm=n1∧gu = .int .i64 (k:Nat)∧i = .int .i64 k∧wr.ownsMap Tryz.prog 9 (plainElem Tryz.prog 3) B k D∧CntD D (N.take k)∧Hid (NR=nO k (N.take k) (N.drop k))∧Below B W2 wr)
 case atStart=>exact⟨0,.map [],by omega,rfl,rfl,g7,by rw[mA];exact CntD.nil,by show _=_;rw[gj.out];rfl,hb3⟩
 obtain⟨k,D,hk,rfl,rfl,hown,bc,HK,hbr⟩:=hrel;obtain⟨wo,gp⟩:∃ wo,wo=wr:=⟨_,rfl⟩
 subst gp;obtain⟨y1,y2,di⟩:=ak wo hbr;have ei:w.heap.size+3≤wo.heap.size:=by have:=hown.lt;omega
 by_cases hlt:k<n1
 ·obtain⟨a,Ha⟩:=yE (l:=g.mG) (k:=k) (by rw[←H1.out];exact hlt);obtain⟨b,off,rfl,hat⟩:=(hg.bL di).1.get MAt.plain Ha.out;obtain⟨vf,vb,s0,s1,s2,fy,fh⟩:=hat.at;obtain⟨af,nf,cf,rfl,_,_⟩:=fy.sH;obtain⟨ab,nb,cb,rfl,_,_⟩:=fh.sH;have il:(k:Int)<(n1:Int):=by omega
  have dr:N[k]?=some a.name:=by rw[HN.out];exact D4l Ha.out
  have ee:=(hf.1 a (uO Ha.out)).1;have hkey:keyOf Tryz.prog 9 (.string (S a.name))=some (.string a.name):=by
   exact Qm2
  obtain⟨Wm,bg,cg,dg,-⟩:=zV wo (.cells #[.string (S a.name),.slice af nf cf,.slice ab nb cb] 35);have ah:=YO hown cg;have ag:=hbr.trans (cg.mono (by omega));obtain⟨c,hrun,dh,_⟩:=ah.lookup_int fG Tryz.underlying100 Tryz.underlying3 (ZB _) hkey;have hc:=bc.get dh;have dm:(N.take k).count a.name≤10:=by have h1:=List.count_le_length (a:=a.name) (l:=N.take k);have h2:=List.length_take_le (k) N;omega
  have hc0:0≤c:=by rw[hc];omega
  have hc1:c≤10:=by rw[hc];omega
  have HC:=zI hc;have io:=ah.isMap;have av:=bc.put (s:=a.name) (c:=c) io hc;rw[bg.out] at ah hrun;clear hat hc dm dh bc hown;go_wp2_with (at_mapUpdate;refine wpList_mapUpdate_own _ rfl _ _ _ 100 rfl 9 3 fG Tryz.underlying100 _ B k _ rfl ah (by unfold maxLen;omega) _ _ _ rfl rfl hkey _ [] (plainElem_int Tryz.underlying3 (WalkArith.wf_i64 (by omega))) ?_)
  intro w1 hown1 hg1;rw[←bg.out] at hg1;have bh:=ag.grown hg1 (by have:=ag.size;omega) (fun j hj=>by cases hj;exact zG _);have d9:=(hg1.block wo.heap.size (zR dg) (fun hh=>by cases hh;omega)).trans dg;obtain⟨t0,_,_⟩:=uG d9;have dv:=B8p a.name ee w1;clear hrun ah;cases hq:oJ a.name with
  | false=>
   have HE:Hid (yB g=(7,k)):=ew _ _ (by rw[HK.out,cT dr,zF (.inl hq)]) (by decide);rw[hq] at dv;clear hq;go_wp2_with fail
   refine dv.mono ?_;rintro e w2 ⟨rfl,ba⟩;obtain⟨_,y3,bl⟩:=ak w2 (bh.trans (ba.mono (by have:=bh.size;omega)));obtain⟨z0,z1⟩:=zO y3;have f0:=zJ y3 0;have f1:=zJ y3 1;clear ak;exact Qm0
  | true=>
  rw[hq] at dv;go_wp2_with fail
  refine dv.mono ?_;rintro e w2 ⟨rfl,ba⟩;have df:=bh.trans (ba.mono (by have:=bh.size;omega));have hown2:=YO hown1 ba;have g8:=(ba.block wo.heap.size (zR d9)).trans d9;obtain⟨t1,_,_⟩:=uG g8;obtain⟨c2,fj,bk,_⟩:=hown2.lookup_int fG Tryz.underlying100 Tryz.underlying3 (ZB _) hkey;have hc2:c2=c+1:=by
   have:=av.get bk;rw[this,HC.out];simp
  subst hc2;have hT:=vX dr;obtain⟨_,y3,bl⟩:=ak w2 df;obtain⟨z0,z1⟩:=zO y3;have f0:=zJ y3 0;have f1:=zJ y3 1;by_cases hz:c=0
  ·have dy:Hid (NR=nO (k+1) (N.take (k+1)) (N.drop (k+1))):=by
    exact Qm1
   have dn:CntD (D.put (.string a.name) (.lit (.int .i64 (c+1)))) (N.take (k+1)):=by rw[hT];exact av
   have ip:¬ (1:Int)<c+1:=by omega
   clear hq hz ak hT av bk;go_wp2_with fail
   go_roundg (n1-(k+1))
   case measure=>omega
   case rel=>exact⟨k+1,_,by omega,by go_num,by go_num,hown2,dn,dy,df⟩
  have HE:Hid (yB g=(7,k)):=ew _ _ (by
   rw[HK.out,cT dr,zF (.inr (yD.1 (by have:=HC.out;omega)))]) (by decide)
  have ip:(1:Int)<c+1:=by omega
  clear hq hz ak hT av bk;exact Qm0
 obtain⟨z0,z1⟩:=zO y1;have eo:Hid (n1=k):=by show _=_;omega
 go_wp2_with fail
 go_loopg [4,64] n2 (fun gm gu i wr=>∃ (k:Nat) (D:DataW Unit),k+gm=n2∧gu = .int .i64 ((n1+k):Nat)∧i = .int .i64 k∧wr.ownsMap Tryz.prog 9 (plainElem Tryz.prog 3) B (n1+k) D∧CntD D (N.take (n1+k))∧Hid (NR=nO (n1+k) (N.take (n1+k)) (N.drop (n1+k)))∧Below B W2 wr)
 case atStart=>exact⟨0,D,by omega,by rw[oX,eo.out],rfl,by rw[oX,eo.out];exact hown,by rw[oX,eo.out];exact bc,by rw[oX,eo.out];exact HK,hbr⟩
 clear hown bc HK hbr y1 y2 di ei z0 z1 eo hlt hk;obtain⟨k,D,hk,rfl,rfl,hown,bc,HK,hbr⟩:=hrel;obtain⟨wo,gp⟩:∃ wo,wo=wr:=⟨_,rfl⟩
 subst gp;obtain⟨y1,y2,di⟩:=ak wo hbr;have ei:w.heap.size+3≤wo.heap.size:=by have:=hown.lt;omega
 by_cases hlt:k<n2
 ·obtain⟨a,Ha⟩:=yE (l:=g.enums) (k:=k) (by rw[←H2.out];exact hlt);obtain⟨b,off,rfl,hat⟩:=(hg.bL di).2.get EAt.plain Ha.out;obtain⟨vi,s0,s1,eh⟩:=hat.at;obtain⟨ai,ni,ci,rfl,_,_⟩:=eh.sH;have il:(k:Int)<(n2:Int):=by omega
  have dr:N[(n1+k)]?=some a.name:=by rw[HN.out];exact D3p H1.out Ha.out
  have ee:=(hf.2 a (uO Ha.out)).1;have hkey:keyOf Tryz.prog 9 (.string (S a.name))=some (.string a.name):=by
   exact Qm2
  obtain⟨Wm,bg,cg,dg,-⟩:=zV wo (.cells #[.string (S a.name),.slice ai ni ci] 92);have ah:=YO hown cg;have ag:=hbr.trans (cg.mono (by omega));obtain⟨c,hrun,dh,_⟩:=ah.lookup_int fG Tryz.underlying100 Tryz.underlying3 (ZB _) hkey;have hc:=bc.get dh;have dm:(N.take (n1+k)).count a.name≤10:=by have h1:=List.count_le_length (a:=a.name) (l:=N.take (n1+k));have h2:=List.length_take_le (n1+k) N;omega
  have hc0:0≤c:=by rw[hc];omega
  have hc1:c≤10:=by rw[hc];omega
  have HC:=zI hc;have io:=ah.isMap;have av:=bc.put (s:=a.name) (c:=c) io hc;rw[bg.out] at ah hrun;clear hat hc dm dh bc hown;go_wp2_with (at_mapUpdate;refine wpList_mapUpdate_own _ rfl _ _ _ 100 rfl 9 3 fG Tryz.underlying100 _ B (n1+k) _ rfl ah (by unfold maxLen;omega) _ _ _ rfl rfl hkey _ [] (plainElem_int Tryz.underlying3 (WalkArith.wf_i64 (by omega))) ?_)
  intro w1 hown1 hg1;rw[←bg.out] at hg1;have bh:=ag.grown hg1 (by have:=ag.size;omega) (fun j hj=>by cases hj;exact zG _);have d9:=(hg1.block wo.heap.size (zR dg) (fun hh=>by cases hh;omega)).trans dg;obtain⟨t0,_⟩:=zO d9;have dv:=B8p a.name ee w1;clear hrun ah;cases hq:oJ a.name with
  | false=>
   have HE:Hid (yB g=(7,n1+k)):=ew _ _ (by rw[HK.out,cT dr,zF (.inl hq)]) (by decide);rw[hq] at dv;clear hq;go_wp2_with fail
   refine dv.mono ?_;rintro e w2 ⟨rfl,ba⟩;obtain⟨_,y3,bl⟩:=ak w2 (bh.trans (ba.mono (by have:=bh.size;omega)));obtain⟨z0,z1⟩:=zO y3;have f0:=zJ y3 0;have f1:=zJ y3 1;clear ak;exact Ql9
  | true=>
  rw[hq] at dv;go_wp2_with fail
  refine dv.mono ?_;rintro e w2 ⟨rfl,ba⟩;have df:=bh.trans (ba.mono (by have:=bh.size;omega));have hown2:=YO hown1 ba;have g8:=(ba.block wo.heap.size (zR d9)).trans d9;obtain⟨t1,_⟩:=zO g8;obtain⟨c2,fj,bk,_⟩:=hown2.lookup_int fG Tryz.underlying100 Tryz.underlying3 (ZB _) hkey;have hc2:c2=c+1:=by
   have:=av.get bk;rw[this,HC.out];simp
  subst hc2;have hT:=vX dr;obtain⟨_,y3,bl⟩:=ak w2 df;obtain⟨z0,z1⟩:=zO y3;have f0:=zJ y3 0;have f1:=zJ y3 1;by_cases hz:c=0
  ·have dy:Hid (NR=nO (n1+k+1) (N.take (n1+k+1)) (N.drop (n1+k+1))):=by
    exact Qm1
   have dn:CntD (D.put (.string a.name) (.lit (.int .i64 (c+1)))) (N.take (n1+k+1)):=by rw[hT];exact av
   have ip:¬ (1:Int)<c+1:=by omega
   clear hq hz ak hT av bk;go_wp2_with fail
   go_roundg (n2-(k+1))
   case measure=>omega
   case rel=>exact⟨k+1,_,by omega,by go_num,by go_num,hown2,dn,dy,df⟩
  have HE:Hid (yB g=(7,n1+k)):=ew _ _ (by
   rw[HK.out,cT dr,zF (.inr (yD.1 (by have:=HC.out;omega)))]) (by decide)
  have ip:(1:Int)<c+1:=by omega
  clear hq hz ak hT av bk;exact Ql9
 have HZ:Hid (yB g=match sW g 0 (g.mG.drop 0) with|some q=>q|none=>match tO 0 g.enums with|some q=>(q.1,g.mG.length+q.2)|none=>(0,0)):=by
  refine iz.out ?_;have e:N.drop (n1+k) = []:=sF (by rw[HN.out];simp[rX];rw[←H1.out,←H2.out];omega);rw[HK.out,e];rfl
 have ig:=hbr;obtain⟨z0,z1⟩:=zO y1;clear iz ew HK bc hown gj HN jn jr g7;go_wp2_with fail
 go_loopg [92] n1 (fun gm i wr=>∃ k:Nat,k+gm=n1∧i = .int .i64 k∧Hid (yB g=match sW g k (g.mG.drop k) with|some q=>q|none=>match tO 0 g.enums with|some q=>(q.1,g.mG.length+q.2)|none=>(0,0))∧Below B W2 wr∧B+1≤wr.heap.size)
 case atStart=>exact⟨0,by omega,rfl,HZ,hbr,by omega⟩
 clear z0 z1 y1 y2 di ei HZ hbr ig hlt hk;obtain⟨k,hk,rfl,HK,hbr,ei⟩:=hrel;obtain⟨wq,gq⟩:∃ wq,wq=wr:=⟨_,rfl⟩
 subst gq;obtain⟨y1,y2,di⟩:=ak wq hbr;by_cases hlt:k<n1
 ·obtain⟨a,Ha⟩:=yE (l:=g.mG) (k:=k) (by rw[←H1.out];exact hlt);obtain⟨b,off,rfl,hat⟩:=(hg.bL di).1.get MAt.plain Ha.out;obtain⟨vf,vb,s0,s1,s2,fy,fh⟩:=hat.at;obtain⟨af,nf,cf,rfl,Hf,_⟩:=fy.sH;obtain⟨ab,nb,cb,rfl,Hb,_⟩:=fh.sH;have il:(k:Int)<(n1:Int):=by omega
  obtain⟨Wm,bg,cg,dg,ke⟩:=zV wq (.cells #[.string (S a.name),.slice af nf cf,.slice ab nb cb] 35);have ag:=hbr.trans (cg.mono (by omega));obtain⟨y3,y4,dl⟩:=ak Wm ag;obtain⟨z0,z1⟩:=zO y4;have f0:=zJ y4 0;have f1:=zJ y4 1;have HS:=HK.out;rw[B8a Ha.out,C7a] at HS;have ik:=hf.1 a (uO Ha.out);clear hat HK;by_cases hnf:16<nf
  ·have HE:Hid (yB g=(5,k)):=by show _=_;rw[HS,zF (c:=16<a.fD.length∨16<a.barred.length) (.inl (by rw[←Hf.out];exact hnf))];rfl
   have jx:(16:Int)<(nf:Int):=by omega
   exact Ql6
  have jx:¬ (16:Int)<(nf:Int):=by omega
  by_cases hnb:16<nb
  ·have HE:Hid (yB g=(5,k)):=by show _=_;rw[HS,zF (c:=16<a.fD.length∨16<a.barred.length) (.inr (by rw[←Hb.out];exact hnb))];rfl
   have iq:(16:Int)<(nb:Int):=by omega
   exact Ql6
  have iq:¬ (16:Int)<(nb:Int):=by omega
  have dx:Hid (yB g=match (if (if a.barred.any uM=true then(3:Int) else qF g a.barred [] a.fD)≠0 then some ((if a.barred.any uM=true then(3:Int) else qF g a.barred [] a.fD),k) else sW g (k+1) (g.mG.drop (k+1))) with|some q=>q|none=>match tO 0 g.enums with|some q=>(q.1,g.mG.length+q.2)|none=>(0,0)):=by
   show _=_;rw[HS,zC (c:=16<a.fD.length∨16<a.barred.length) (by rw[←Hf.out,←Hb.out];omega)]
  clear HS;rw[bg.out] at z0 z1 f0 f1;go_wp2_with fail
  rw[←bg.out];rw[←bg.out] at z0 z1 f0 f1;go_loopg [112] nb (fun gm j wr=>∃ i:Nat,i+gm=nb∧j = .int .i64 i∧Hid (∀ n∈a.barred.take i,uM n=false)∧Wm=wr)
  case atStart=>exact⟨0,by omega,rfl,by show ∀ n∈_,_;simp,rfl⟩
  obtain⟨i,hi,rfl,HI,rfl⟩:=hrel;by_cases hlt2:i<nb
  ·obtain⟨n,Hn⟩:=yE (l:=a.barred) (k:=i) (by rw[←Hb.out];exact hlt2);obtain⟨bb,ob,rfl,ij⟩:=(fh.bL NAt.sT cg).get NAt.plain Hn.out;have ij:Wm.cell? ⟨bb,ob+i*1,none⟩=some (.int .i64 n):=ij;rw[tS] at ij;have jb:(i:Int)<(nb:Int):=by omega
   by_cases hbn:uM n=true
   ·have HE:Hid (yB g=(3,k)):=by
     have:a.barred.any uM=true:=List.any_eq_true.2 ⟨n,uO Hn.out,hbn⟩;show _=_;rw[dx.out,this];rfl
    have ku:n<0∨536870911<n:=by simp[uM] at hbn;omega
    clear ak dx hbn;by_cases js:n<0
    ·exact Ql8
    have jw:536870911<n:=by omega
    exact Ql8
   have js:¬ n<0:=by simp[uM] at hbn;omega
   have jw:¬ 536870911<n:=by simp[uM] at hbn;omega
   have dp:Hid (∀ n∈a.barred.take (i+1),uM n=false):=by
    show ∀ n∈_,_;rw[vX Hn.out];intro y hy;rcases zU.1 hy with hy|hy
    ·exact HI.out y hy
    rw[zS] at hy;rw[hy];exact gN.2 hbn
   clear ak dx hbn;go_wp2_with fail
   go_roundg (nb-(i+1))
   case measure=>omega
   case rel=>exact⟨i+1,by omega,by go_num,dp,rfl⟩
  have iy:Hid (yB g=match (if qF g a.barred (a.fD.take 0) (a.fD.drop 0)≠0 then some (qF g a.barred (a.fD.take 0) (a.fD.drop 0),k) else sW g (k+1) (g.mG.drop (k+1))) with|some q=>q|none=>match tO 0 g.enums with|some q=>(q.1,g.mG.length+q.2)|none=>(0,0)):=by
   have:a.barred.any uM=false:=by
    rw[mC];have h2:=HI.out;rw[uP (by rw[←Hb.out];omega)] at h2;intro x hx;rw[h2 x hx];simp
   show _=_;rw[dx.out,this];rfl
  clear dx HI;obtain⟨v0,v1,v2⟩:=uG dg;go_wp2_with fail
  go_loopg [128] nf (fun gm j wr=>∃ i:Nat,i+gm=nf∧j = .int .i64 i∧Hid (yB g=match (if qF g a.barred (a.fD.take i) (a.fD.drop i)≠0 then some (qF g a.barred (a.fD.take i) (a.fD.drop i),k) else sW g (k+1) (g.mG.drop (k+1))) with|some q=>q|none=>match tO 0 g.enums with|some q=>(q.1,g.mG.length+q.2)|none=>(0,0))∧zB Wm wr)
  case atStart=>exact⟨0,by omega,rfl,iy,zH _ _⟩
  clear v0 v1 v2 z0 z1 f0 f1 y3 y4 iy;obtain⟨i,hi,rfl,HI,cu⟩:=hrel;obtain⟨wi,gl⟩:∃ wi,wi=wr:=⟨_,rfl⟩
  subst gl;have fu:=ag.trans (cu.mono (by have:=ag.size;omega));have cj:=cg.trans (cu.mono (by omega));by_cases hlt2:i<nf
  ·obtain⟨x,Hx⟩:=yE (l:=a.fD) (k:=i) (by rw[←Hf.out];exact hlt2);obtain⟨y3,y4,ii⟩:=ak wi fu;obtain⟨v0,v1,v2⟩:=uG ((cu.block wq.heap.size (by omega)).trans dg);obtain⟨v3,v4⟩:=zO y3;have jb:(i:Int)<(nf:Int):=by omega
   have iw:=B3y a Hx.out (hg.bL ii) (fy.bL FAt.sT cj) (fh.bL NAt.sT cj) (by rw[←Hf.out];omega) (ik.2 x (uO Hx.out));obtain⟨q,HQ⟩:=zM (sG g a.barred (a.fD.take i) x);rw[←HQ.out] at iw;have dp:Hid (qF g a.barred (a.fD.take i) (a.fD.drop i)=if q≠0 then q else qF g a.barred (a.fD.take (i+1)) (a.fD.drop (i+1))):=by
    show _=_;obtain⟨im,e⟩:=yG.1 Hx.out;rw[uQ im,e,qF,←HQ.out,vX Hx.out]
   by_cases hq:q=0
   ·have jg:Hid (yB g=match (if qF g a.barred (a.fD.take (i+1)) (a.fD.drop (i+1))≠0 then some (qF g a.barred (a.fD.take (i+1)) (a.fD.drop (i+1)),k) else sW g (k+1) (g.mG.drop (k+1))) with|some q=>q|none=>match tO 0 g.enums with|some q=>(q.1,g.mG.length+q.2)|none=>(0,0)):=by
     have e2:=dp.out;rw[zC (by simp[hq])] at e2;show _=_;rw[HI.out,e2]
    have j5:(q != 0)=false:=by simp[hq]
    clear hq HI dp ak;go_wp2_with fail
    refine iw.mono ?_;rintro e w5 ⟨rfl,bu⟩;go_wp2_with fail
    go_roundg (nf-(i+1))
    case measure=>omega
    case rel=>exact⟨i+1,by omega,by go_num,jg,cu.trans (bu.mono cu.size)⟩
   have HE:Hid (yB g=(q,k)):=by
    show _=_;rw[HI.out,dp.out,zF hq,zF hq]
   have j5:(q != 0)=true:=by simp[hq]
   have ac:=ak;clear hq HI dp ak;go_wp2_with fail
   refine iw.mono ?_;rintro e w5 ⟨rfl,bu⟩;obtain⟨_,y5,aj⟩:=ac w5 (fu.trans (bu.mono (by have:=fu.size;omega)));obtain⟨z0,z1⟩:=zO y5;have f0:=zJ y5 0;have f1:=zJ y5 1;clear ac;go_wp2;refine bodyPost_ret (v:=.agg #[.int .i64 q,.int .i64 (k:Int)]) (by simp[results,Tryz.results21,go_sem, *]) rfl ?_;exact⟨by rw[HE.out],qP aj _ _⟩
  have dy:Hid (yB g=match sW g (k+1) (g.mG.drop (k+1)) with|some q=>q|none=>match tO 0 g.enums with|some q=>(q.1,g.mG.length+q.2)|none=>(0,0)):=by
   have e:a.fD.drop i = []:=sF (by rw[←Hf.out];omega);show _=_;rw[HI.out,e];rfl
  clear HI ak;go_wp2_with fail
  go_roundg (n1-(k+1))
  case measure=>omega
  case rel=>exact⟨k+1,by omega,by go_num,dy,fu,by have:=cj.size;omega⟩
 have HZ:Hid (yB g=match tO 0 (g.enums.drop 0) with|some q=>(q.1,n1+q.2)|none=>(0,0)):=by
  have e:g.mG.drop k = []:=sF (by rw[←H1.out];omega);show _=_;rw[HK.out,e,←H1.out];rfl
 obtain⟨z0,z1⟩:=zO y1;clear HK;go_wp2_with fail
 go_loopg [145] n2 (fun gm i wr=>∃ k:Nat,k+gm=n2∧i = .int .i64 k∧Hid (yB g=match tO k (g.enums.drop k) with|some q=>(q.1,n1+q.2)|none=>(0,0))∧Below B W2 wr∧B+1≤wr.heap.size)
 case atStart=>exact⟨0,by omega,rfl,HZ,hbr,by omega⟩
 clear z0 z1 y1 y2 di ei HZ hbr hlt hk;obtain⟨k,hk,rfl,HK,hbr,ei⟩:=hrel;obtain⟨wq,gq⟩:∃ wq,wq=wr:=⟨_,rfl⟩
 subst gq;obtain⟨y1,y2,di⟩:=ak wq hbr;by_cases hlt:k<n2
 ·obtain⟨a,Ha⟩:=yE (l:=g.enums) (k:=k) (by rw[←H2.out];exact hlt);obtain⟨b,off,rfl,hat⟩:=(hg.bL di).2.get EAt.plain Ha.out;obtain⟨vi,s0,s1,eh⟩:=hat.at;obtain⟨ai,ni,ci,rfl,Hi,_⟩:=eh.sH;have jq:=(eh.len).2.1;have hbl:b<wq.heap.size:=mD wq _ s0;have il:(k:Int)<(n2:Int):=by omega
  obtain⟨Wm,bg,cg,ke,jo,dg⟩:=uD wq (.cells #[.int .i64 (k:Int)] 3) (.cells #[.string (S a.name),.slice ai ni ci] 92);have ag:=hbr.trans (cg.mono (by omega));have au:∀ (V:World) (e:Int),zB Wm V→Calls Tryz.prog 49 #[.int .i64 e,.pointer (some ⟨w.heap.size,0,none⟩),.pointer (some ⟨wq.heap.size,0,none⟩)] V fun r V'=>r = .returned (.agg #[.int .i64 e,.int .i64 ((n1:Int)+(k:Int))])∧zB V V':=by
   intro V e hV;exact D2x ((hV.block w.heap.size (by omega)).trans (ak Wm ag).1) ((hV.block wq.heap.size (by omega)).trans jo) (by omega) (by omega) e
  have kt:=tM;obtain⟨v0,v1⟩:=zO dg;have HS:=HK.out;rw[B4d Ha.out,C6z] at HS;have ik:=hf.2 a (uO Ha.out);clear hat HK;have ac:=fun V (hV:zB Wm V)=>yH ((ak V (ag.trans (hV.mono (by have:=ag.size;omega)))).2.1) (yH ((zN hV).trans dg) (yH ((ak V (ag.trans (hV.mono (by have:=ag.size;omega)))).2.2) (cg.trans (hV.mono cg.size))))
  have fz:∀ (j:Nat),j≤ni→∀ V,(Instr.slice 90 (.slice ai ni ci) none (some (.int .i64 (j:Int))) none).run Tryz.prog V = .ok (.slice ai j ci) V:=fun j hj V=>E0e hj jq V
  obtain⟨_,_,dl,_⟩:=ac Wm (zH _ _);obtain⟨NI,kg⟩:=zM ni;by_cases hbadn:ni<1∨16<ni
  ·have HE:Hid (yB g=(5,n1+k)):=by show _=_;rw[HS,zF (c:=a.items.length<1∨16<a.items.length) (by rw[←Hi.out];exact hbadn)];rfl
   have bu:=au Wm 5 (zH _ _);rw[bg.out] at v0 v1;clear ak HS au fz;by_cases h0:ni=0
   ·have jc:((ni:Int)==0)=true:=by simp[h0]
    exact Ql5
   have jc:((ni:Int)==0)=false:=by simp[h0]
   have jy:(16:Int)<(ni:Int):=by omega
   exact Ql5
  have jc:((ni:Int)==0)=false:=by simp;omega
  have jy:¬ (16:Int)<(ni:Int):=by omega
  have dx:Hid (yB g=match (if pP (a.items.take 0) (a.items.drop 0)≠0 then some (pP (a.items.take 0) (a.items.drop 0),k) else tO (k+1) (g.enums.drop (k+1))) with|some q=>(q.1,n1+q.2)|none=>(0,0)):=by
   show _=_;rw[HS,zC (c:=a.items.length<1∨16<a.items.length) (by rw[←Hi.out];exact hbadn)];rfl
  have ju:ni≤16:=by omega
  rw[bg.out] at v0 v1;clear ak HS hbadn;go_wp2_with fail
  rw[←bg.out];clear v0 v1;go_loopg [166] ni (fun gm j wr=>∃ i:Nat,i+gm=ni∧j = .int .i64 i∧Hid (yB g=match (if pP (a.items.take i) (a.items.drop i)≠0 then some (pP (a.items.take i) (a.items.drop i),k) else tO (k+1) (g.enums.drop (k+1))) with|some q=>(q.1,n1+q.2)|none=>(0,0))∧zB Wm wr)
  case atStart=>exact⟨0,by omega,rfl,dx,zH _ _⟩
  clear dx;obtain⟨i,hi,rfl,HI,cu⟩:=hrel;obtain⟨wi,gl⟩:∃ wi,wi=wr:=⟨_,rfl⟩
  subst gl;obtain⟨_,k2,_,cj⟩:=ac wi cu;by_cases hlt2:i<ni
  ·obtain⟨x,Hx⟩:=yE (l:=a.items) (k:=i) (by rw[←Hi.out];exact hlt2);obtain⟨b2,o2,rfl,jd⟩:=(eh.bL TAt.sT cj).get TAt.plain Hx.out;obtain⟨x0,x1⟩:=jd.at;have jb:(i:Int)<(ni:Int):=by omega
   obtain⟨Wx,i7,ja,jp,kv⟩:=zV wi (.cells #[.string (S x.name),.int .i64 x.value] 105);have fd:=cu.trans (ja.mono cu.size);obtain⟨v0,v1⟩:=zO ((ja.block (wq.heap.size+1) (zR k2)).trans k2);rw[i7.out] at v0 v1;have j7:=fz i (by omega);obtain⟨q,HQ⟩:=zM (qL (a.items.take i) x);have dp:Hid (pP (a.items.take i) (a.items.drop i)=if q≠0 then q else pP (a.items.take (i+1)) (a.items.drop (i+1))):=by
    show _=_;obtain⟨im,e⟩:=yG.1 Hx.out;rw[uQ im,e,pP,←HQ.out,vX Hx.out]
   have cw:∀ (r:Int),q=r→r≠0→Hid (yB g=(r,n1+k)):=by
    intro r h1 h2;have e2:=dp.out;rw[zF (by rw[h1];exact h2),h1] at e2;show _=_;rw[HI.out,e2,zF h2]
   have dw:Hid (q=0→yB g=match (if pP (a.items.take (i+1)) (a.items.drop (i+1))≠0 then some (pP (a.items.take (i+1)) (a.items.drop (i+1)),k) else tO (k+1) (g.enums.drop (k+1))) with|some q=>(q.1,n1+q.2)|none=>(0,0)):=by
    show _→_;intro h1;have e2:=dp.out;rw[zC (by simp[h1])] at e2;rw[HI.out,e2]
   obtain⟨A,HA⟩:=zM (a.items.take i);have gw:A.length=i:=by rw[HA.out,vZ];rw[←Hi.out];omega
   have jk:∀ (k:Nat) (y:II),A[k]?=some y→a.items[k]?=some y:=by
    intro k y h;rw[HA.out,oZ] at h;split at h
    ·exact h
    cases h
   rw[←HA.out] at HQ;have j8:=ik.2 x (uO Hx.out);clear jd HI dp k2 fz;go_wp2_with fail
   rw[←i7.out];clear v0 v1;go_loopg [20,176] i (fun gm sm j wr=>∃ (l:Nat) (sb:Bool),l+gm=i∧j = .int .i64 l∧sm = .bool sb∧Hid (x.name∉(A.take l).map II.name)∧Hid (sb=decide (x.value∈(A.take l).map II.value))∧zB Wx wr)
   case atStart=>exact⟨0,false,by omega,rfl,rfl,by show ¬ _;simp,by show _=_;simp,zH _ _⟩
   obtain⟨l,sb,hl,rfl,rfl,f9,gc,dt⟩:=hrel;obtain⟨wl,ji⟩:∃ wl,wl=wr:=⟨_,rfl⟩
   subst ji;have hBl:=fd.trans (dt.mono fd.size);have g9:=(dt.block wi.heap.size (by omega)).trans jp;have ie:=(zR g9)
   obtain⟨u0,u1⟩:=zO g9;by_cases hlt3:l<i
   ·obtain⟨y,Hy⟩:=yE (l:=A) (k:=l) (by rw[gw];exact hlt3);obtain⟨b3,o3,e,ir⟩:=(eh.bL TAt.sT (ac wl hBl).2.2.2).get TAt.plain (jk _ _ Hy.out);cases e
    obtain⟨y0,y1⟩:=ir.at;have kp:(l:Int)<(i:Int):=by omega
    have ko:=sL y.name;have hl2:=sL x.name;have fe:zB wl (wl.alloc (.cells #[.string (S y.name),.int .i64 y.value] 105)):=(zH _ _).alloc (zG _) _;by_cases hxy:y.name=x.name
    ·have HE:Hid (yB g=(7,n1+k)):=cw 7 (by rw[HQ.out,qL,zF (by rw[←hxy];exact vT.2 ⟨y,uO Hy.out,rfl⟩)]) (by decide);have j6:(y.name==x.name)=true:=by simp[hxy]
     have dz:=hBl.trans (fe.mono hBl.size);have bu:=au _ 7 dz;clear hxy ir cw dw au;go_wp2_with fail
     refine bu.mono ?_;rintro e w5 ⟨rfl,aw⟩;obtain⟨g1,_,aj,_⟩:=ac w5 (dz.trans (aw.mono dz.size));obtain⟨z0,z1⟩:=zO g1;have f0:=zJ g1 0;have f1:=zJ g1 1;clear ac;exact Ql7
    have j6:(y.name==x.name)=false:=by simp[hxy]
    have gg:Hid (x.name∉(A.take (l+1)).map II.name):=by
     show ¬ _;rw[vX Hy.out,wM];intro hm;rcases zU.1 hm with hm|hm
     ·exact f9.out hm
     simp at hm;exact hxy hm.symm
    have gh:Hid (decide (x.value∈(A.take (l+1)).map II.value)=(sb||decide (y.value=x.value))):=by
     show _=_;rw[vX Hy.out,wM,gc.out,uR];simp only[jN,decide_eq_true_eq,zU,wS,tA,zS];exact or_congr Iff.rfl eq_comm
    have dz:=dt.trans (fe.mono dt.size);clear hxy ir cw dw au ac;cases sb with
    | true=>
     go_wp2_with fail
     go_roundg (i-(l+1))
     case measure=>omega
     case rel=>exact⟨l+1,true,by omega,by go_num,rfl,gg,by show _=_;rw[gh.out];rfl,dz⟩
    | false=>
    cases hv:decide (y.value=x.value) with
    | true=>
     have iu:(y.value==x.value)=true:=by simpa using hv
     have gi:Hid (true=decide (x.value∈(A.take (l+1)).map II.value)):=by show _=_;rw[gh.out,hv];rfl
     clear hv;go_wp2_with fail
     go_roundg (i-(l+1))
     case measure=>omega
     case rel=>exact⟨l+1,true,by omega,by go_num,rfl,gg,gi,dz⟩
    | false=>
    have iu:(y.value==x.value)=false:=by simpa using hv
    have gi:Hid (false=decide (x.value∈(A.take (l+1)).map II.value)):=by show _=_;rw[gh.out,hv];rfl
    clear hv;go_wp2_with fail
    go_roundg (i-(l+1))
    case measure=>omega
    case rel=>exact⟨l+1,false,by omega,by go_num,rfl,gg,gi,dz⟩
   have h2:=f9.out;have h3:=gc.out;rw[uP (by rw[gw];omega)] at h2 h3;have fk:Hid (q=if sM x.name=false then 7 else if x.value < -2147483648∨2147483647<x.value then 3 else if sb=true∨(i=0∧x.value≠0) then 8 else 0):=by
    show _=_;have e0:A = []↔i=0:=by rw[←gw];exact List.length_eq_zero_iff.symm
    have e1:(x.value∈A.map II.value∨(A = []∧x.value≠0))↔(sb=true∨(i=0∧x.value≠0)):=by rw[h3,decide_eq_true_eq,e0]
    rw[HQ.out,qL,zC h2];simp only[e1]
   clear h2 h3 f9 gc HQ;have fw:=TU x.name j8 wl;cases hq:sM x.name with
   | false=>
    have HE:Hid (yB g=(7,n1+k)):=cw 7 (by rw[fk.out,zF hq]) (by decide);rw[hq] at fw;clear hq fk cw dw;go_wp2_with fail
    refine fw.mono ?_;rintro e w4 ⟨rfl,hb4⟩;have bn:=hBl.trans (hb4.mono hBl.size);go_wp2_with fail
    refine(au w4 7 bn).mono ?_;rintro e w5 ⟨rfl,aw⟩;obtain⟨g1,_,aj,_⟩:=ac w5 (bn.trans (aw.mono bn.size));obtain⟨z0,z1⟩:=zO g1;have f0:=zJ g1 0;have f1:=zJ g1 1;clear ac au;exact Ql7
   | true=>
   rw[hq] at fw;have fq:Hid (q=if x.value < -2147483648∨2147483647<x.value then 3 else if sb=true∨(i=0∧x.value≠0) then 8 else 0):=by show _=_;rw[fk.out,zC (by rw[hq];simp)]
   clear hq fk;go_wp2_with fail
   refine fw.mono ?_;rintro e w4 ⟨rfl,hb4⟩;have bn:=hBl.trans (hb4.mono hBl.size);obtain⟨u2,u3⟩:=zO ((hb4.block wi.heap.size ie).trans g9);clear u0 u1;by_cases hr:x.value < -2147483648∨2147483647<x.value
   ·have HE:Hid (yB g=(3,n1+k)):=cw 3 (by rw[fq.out,zF hr]) (by decide);have bu:=au w4 3 bn;clear fq cw dw au;by_cases hr1:2147483647<x.value
    ·exact Ql4
    have hr2:x.value < -2147483648:=by omega
    exact Ql4
   have hr1:¬ 2147483647<x.value:=by omega
   have hr2:¬ x.value < -2147483648:=by omega
   have eu:Hid (q=if sb=true∨(i=0∧x.value≠0) then 8 else 0):=by show _=_;rw[fq.out,zC hr]
   clear hr fq;go_upto_region 61 with fail
   go_cut [166,221] from 166 to 224 (fun ix c wx=>ix = .int .i64 i∧c = .bool (decide (sb=true∨(i=0∧x.value≠0)))∧w4=wx)
   case first=>
    clear ac au cw dw eu;cases sb with
    | true=>
     go_wp2;go_meet
     case rel=>exact⟨rfl,by simp,rfl⟩
    | false=>
    by_cases hi0:i=0
    ·have hib:((i:Int)==0)=true:=by simp[hi0]
     have f6:=zI hi0;clear hi0;by_cases hv0:x.value=0
     ·have iu:(x.value != 0)=false:=by simp[hv0]
      have HV:=zI hv0;clear hv0;go_wp2;go_meet
      case rel=>exact⟨rfl,by simp[HV.out],rfl⟩
     have iu:(x.value != 0)=true:=by simp[hv0]
     have HV:Hid (x.value≠0):=hv0;clear hv0;go_wp2;go_meet
     case rel=>exact⟨rfl,by simp[HV.out,f6.out],rfl⟩
    have hib:((i:Int)==0)=false:=by simp[hi0]
    have f6:=zI hi0;clear hi0;go_wp2;go_meet
    case rel=>exact⟨rfl,by simp[f6.out],rfl⟩
   obtain⟨rfl,rfl,rfl⟩:=hcut;by_cases hx8:sb=true∨(i=0∧x.value≠0)
   ·have HE:Hid (yB g=(8,n1+k)):=cw 8 (by rw[eu.out,zF hx8]) (by decide);rw[show decide (sb=true∨(i=0∧x.value≠0))=true from by simpa using hx8];have bu:=au w4 8 bn;clear hx8 eu cw dw au;go_wp2_with fail
    refine bu.mono ?_;rintro e w5 ⟨rfl,aw⟩;obtain⟨g1,_,aj,_⟩:=ac w5 (bn.trans (aw.mono bn.size));obtain⟨z0,z1⟩:=zO g1;have f0:=zJ g1 0;have f1:=zJ g1 1;clear ac;go_wp2;refine bodyPost_ret (v:=.agg #[.int .i64 8,.int .i64 ((n1:Int)+(k:Int))]) (by simp[results,Tryz.results21,go_sem, *]) rfl ?_;exact⟨by rw[HE.out];simp,qP aj _ _⟩
   have i9:=dw.out (by rw[eu.out,zC hx8]);have jh:=zI i9;rw[show decide (sb=true∨(i=0∧x.value≠0))=false from yC hx8];clear hx8 eu cw dw au i9 ac;go_wp2_with fail
   go_roundg (ni-(i+1))
   case measure=>omega
   case rel=>exact⟨i+1,by omega,by go_num,jh,bn⟩
  have dy:Hid (yB g=match tO (k+1) (g.enums.drop (k+1)) with|some q=>(q.1,n1+q.2)|none=>(0,0)):=by
   have e:a.items.drop i = []:=sF (by rw[←Hi.out];omega);show _=_;rw[HI.out,e];rfl
  have jl:=ag.trans (cu.mono (by have:=ag.size;omega));clear HI ac au fz;go_wp2_with fail
  go_roundg (n2-(k+1))
  case measure=>omega
  case rel=>exact⟨k+1,by omega,by go_num,dy,jl,by have:=cj.size;omega⟩
 have HE:Hid (yB g=(0,0)):=by
  have e:g.enums.drop k = []:=sF (by rw[←H2.out];omega);show _=_;rw[HK.out,e];rfl
 obtain⟨z0,z1⟩:=zO y2;have f0:=zJ y2 0;have f1:=zJ y2 1;clear HK ak;go_wp2;refine bodyPost_ret (v:=.agg #[.int .i64 0,.int .i64 0]) (by simp[results,Tryz.results21,go_sem, *]) rfl ?_;exact⟨by rw[HE.out];rfl,qP di _ _⟩
end L
end Go.Proofs.YthcomdofaaeihaaGreatDoor
