import Derived.Test.YthcomdofaaeihaaGreatDoorV43
import Derived.Test.YthcomdofaaeihaaGreatDoorV28
set_option maxHeartbeats 32000000
set_option maxRecDepth 100000
set_option linter.unusedVariables false
namespace Go.Proofs.YthcomdofaaeihaaGreatDoor
namespace L
open Go.RowKit
variable{a:Act}{base no co:Nat}{l:List RI}{Q:Exit→Act→World→Prop}{W V:World}{ao:Option Addr}{ops:Array Oper}{o:Oper}
def UR (g:GI)(W0:World)(vm ve:Value)(d:Nat):Prop:=∀ (w:World) (j:Nat) (M:MI) (v0 v1:Value) (b:BI d) (k:Int),zB W0 w→g.mG[j]?=some M→BQ d w v0 v1 b→yT g d k M.fD b=0→BQk d b→jWB d b≤100000000→Calls Tryz.prog 18 #[.agg #[vm,ve],.int .i64 (j:Int),.agg #[v0,v1]] w fun e w'=>∃ (ao:Option Addr) (n c:Nat),e = .returned (.slice ao n c)∧RdL 4 RAt w' (.slice ao n c) (rU g d M b)∧zB w w'
theorem rdl_ofR {w:World}{n cap:Nat}{l:List UInt8}(h:RdA w ao n cap l):RdL 1 YAt w (.slice ao n cap) l:=by
 obtain⟨h1,h2,h3,h4,h5⟩:=h;refine⟨ao,n,cap,rfl,h1,h2,h3,fun e=>⟨by have:=h4 e;omega,h4 e⟩,fun x hx k a ha=>?_⟩;have hk:=(yG.1 ha).1;have:=h5 x hx k (by omega);rw[pG,ha] at this;rw[tS];exact this
def WJ (W V:World)(base:Nat)(l:List RI)(K:Option Addr→Nat→Nat→World→Prop):Prop:=∀ (a':Option Addr) (n' c':Nat) (w':World),RecL W w' base (.slice a' n' c') l→(∀ X,Below base X V→Below base X w')→(∀ (g:Nat) (cs:Array Value) (t:TypeId) (fr:Nat×Nat),V.heap[g]?=some (.cells cs t fr)→t≠78→w'.heap[g]?=some (.cells cs t fr))→K a' n' c' w'
theorem D0q {w':World}{r:RI}{p:PV}{l':List (RI×PV)}{o:Obj}(h1:Row ekR V base (.slice ao no co) l')(h2:l'.map Prod.fst=l)(h3:∀ r∈l',RdL 1 YAt W r.2.v r.1.bytes∨Row ekY V base r.2.v r.1.bytes)(hb:base≤V.heap.size)(hp:RdL 1 YAt W p.v r.bytes∨Row ekY V base p.v r.bytes){K:Option Addr→Nat→Nat→World→Prop}(hK:WJ W V base (l++[r]) K){v':Value}(hr:Row ekR w' base v' (l'++[(r,p)]))(hg:(V.alloc o).grownBy w' (Value.slice ao no co).ownBlock):∃ a' n' c',v' = .slice a' n' c'∧K a' n' c' w':=by
 obtain⟨a',n',c',rfl,_⟩:=hr.shape';have ac:zB V (V.alloc o):=(zH _ _).alloc (zG _) _;refine⟨a',n',c',rfl,hK a' n' c' w' (RecL.app (o:=none) (h1.bL ac) h2 (fun r hr=>(h3 r hr).imp id fun k=>k.bL ac) (m':=[(r,p)]) rfl (fun q hq=>by rw[zS.1 hq];exact hp.imp id fun k=>k.bL ac) hr hg rfl) (fun X hX=>?_) (fun g cs t fr hc ht=>?_)⟩
 ·have ag:Below base X (V.alloc o):=hX.alloc hb _;exact ag.grown hg (by simp;omega) fun k hk=>(h1.own k hk).1
 have hlt:=(zR hc)
 have hc':=(ac.block _ hlt).trans hc;exact(hg.block g (by simp;omega) (Ne.symm ((h1.bL ac).ne_blk hc' ht))).trans hc'
theorem TI {rest:List Oper}(hgd:o.guard=none)(s x:Operand)(ho:o.op = .call { callee:=.builtin .append,args:=#[s,x],argTypes:=#[ekR.slice,ekR.slice] })(hs:a.eval s = .slice ao no co)(hx:a.eval x = .slice (some ⟨V.heap.size,0,none⟩) 1 1)(h:RecL W V base (.slice ao no co) l)(hb:base≤V.heap.size)(r:RI)(p:PV)(hp:RdL 1 YAt W p.v r.bytes∨Row ekY V base p.v r.bytes)(hl:l.length≤100000000)
  (hK:WJ W V base (l++[r]) fun a' n' c' w'=>wpList Tryz.prog ops Q rest (a.put o.dst (.slice a' n' c')) w'):wpList Tryz.prog ops Q (o::rest) a (V.alloc (.cells #[.int .i64 r.nU,.int .i64 r.how,.int .u64 (r.bits:Int),p.v] 78)):=by
 obtain⟨l',h1,h2,h3⟩:=h;have ac:l'.length=l.length:=by rw[←h2,yX]
 refine tP hgd ekR s x ho base (.slice ao no co) l' [(r,p)] hs (h1.bL ((zH _ _).alloc (zG _) _)) _ 1 1 hx rfl (fun e=>by cases e) (mL ekR V (r,p)) (by decide) (by show(_+1)*48≤_;omega) (by simp;omega) fun v' w' hr hg=>?_
 obtain⟨a',n',c',rfl,hk⟩:=D0q h1 h2 h3 hb hp hK hr hg;exact hk
theorem D1p {K:Act→World→Prop}{X:Prop}(hgd:o.guard=none)(s x:Operand)(ho:o.op = .call { callee:=.builtin .append,args:=#[s,x],argTypes:=#[ekR.slice,ekR.slice] })(hs:a.eval s = .slice ao no co)(hx:a.eval x = .slice (some ⟨V.heap.size,0,none⟩) 1 1)(h:RecL W V base (.slice ao no co) l)(hb:base≤V.heap.size)(r:RI)(p:PV)(hp:RdL 1 YAt W p.v r.bytes∨Row ekY V base p.v r.bytes)(hl:l.length≤100000000)
  (hK:WJ W V base (l++[r]) fun a' n' c' w'=>K (a.put o.dst (.slice a' n' c')) w'):if Region.wanted o (yielded ops a.tmps)=true then Oper.wp Tryz.prog o a (V.alloc (.cells #[.int .i64 r.nU,.int .i64 r.how,.int .u64 (r.bits:Int),p.v] 78)) K Q else X:=by
 obtain⟨l',h1,h2,h3⟩:=h;have ac:l'.length=l.length:=by rw[←h2,yX]
 refine vS hgd ekR s x ho base (.slice ao no co) l' [(r,p)] hs (h1.bL ((zH _ _).alloc (zG _) _)) _ 1 1 hx rfl (fun e=>by cases e) (mL ekR V (r,p)) (by decide) (by show(_+1)*48≤_;omega) (by simp;omega) fun v' w' hr hg=>?_
 obtain⟨a',n',c',rfl,hk⟩:=D0q h1 h2 h3 hb hp hK hr hg;exact hk
def N2 (W w6 wl:World)(base:Nat)(x:FI)(R0:List RI)(bits:List Nat)(i:Nat)(p0 p q:PV):Bool→Prop
 | true=>p=p0∧Row ekY wl w6.heap.size q.v (nM x (bits.take i))∧zB w6 wl
 | false=>q=(none,0,0)∧RecL W wl base p.v (R0++(bits.take i).map (gZ x))
theorem D5x {β:Type}{x:FI}{v:VI β}(ho:xG x v=false){s : β}(hs:s∈v.subs):x.kind=10:=by
 have:=bE hs;unfold xG at ho;split at ho
 ·simp only[uZ] at ho;omega
 split at ho
 ·assumption
 simp only[uZ] at ho;omega
theorem C6j {g:GI}{W0:World}{am ae:Option Addr}{nm cm ne ce:Nat}(hg:GRd W0 (.slice am nm cm) (.slice ae ne ce) g)(gg:(yB g).1=0){d:Nat}(ih:UR g W0 (.slice am nm cm) (.slice ae ne ce) d):UR g W0 (.slice am nm cm) (.slice ae ne ce) (d+1):=by
 intro w j M v0 v1 b kk h0 hj hq he im hwt;have hq:BRd d w v0 v1 b:=hq;obtain⟨a0,n0,c0,a1,n1,c1,rfl,rfl⟩:=hq.sH;have ig:M∈g.mG:=xV hj;obtain⟨lw,hf2,hf3⟩:=ZC gg (d+1) kk M b ig he im hwt;obtain⟨_,hr,hu⟩:=pU he;obtain⟨bm,om,rfl,ju⟩:=hg.1.get MAt.plain hj;obtain⟨vf,vb,k0,k1,k2,jp,eh⟩:=ju.at;obtain⟨af,nf,cf,rfl,_,_⟩:=jp.sH;obtain⟨ab,nb,cb,rfl,_,_⟩:=eh.sH;have oh:(j:Int)<(nm:Int):=by
  have h1:=hg.1.len.1;have h2:=(yG.1 hj).1;omega
 obtain⟨F,HF⟩:∃ F:VI (BI d)→List RI,Hid (F=fun v=>sV (fun t x=>tX g d (xI g t) x) (xE M.fD v.nU) v):=⟨_,rfl⟩
 obtain⟨vs,fw⟩:=zM (BO.vals b);obtain⟨R,HR⟩:=yP (rU g (d+1) M b);have ja:Hid (R=vs.flatMap F++BO.unk b):=by show _=_;rw[←HR.out,HF.out,fw.out];rfl
 have HL:Hid ((vs.flatMap F++BO.unk b).length≤100000000):=by show _≤_;rw[←ja.out,←HR.out];omega
 rw[HR.out];have HQ:Hid (RdL 4 (VAt (BAt d)) w (.slice a0 n0 c0) vs):=by rw[fw.out];exact hq.1
 have HU:=zI hq.2;have jb:Hid (∀ v∈vs,(∃ x,RtV M.fD (fun name s=>yT g d (kk+1) (wL g name) s) x v)∧VQk (BQk d) v∧jW (jWB d) v≤100000000):=by
  rw[fw.out];have hw':((BO.vals b).map (jW (jWB d))).sum+(BO.unk b).length≤100000000:=hwt;exact fun v hv=>⟨hr.each v hv,im.1 v hv,by have:=lH (jW (jWB d)) hv;omega⟩
 have gw:=zI HQ.out.len.1;have o7:n0≤100000000:=by
  have h1:=tY (jW (jWB d)) (fun v=>by unfold jW;omega) (BO.vals b);have hw':((BO.vals b).map (jW (jWB d))).sum+(BO.unk b).length≤100000000:=hwt;rw[gw.out,fw.out];omega
 obtain⟨W1,kp,hb1,z1,x4,x5⟩:=uD w (.cells #[.slice (some ⟨bm,om,none⟩) nm cm,.slice ae ne ce] 25) (.cells #[.slice a0 n0 c0,.slice a1 n1 c1] 29);obtain⟨t0,t1⟩:=zO x5;have dx:=zK h0 hb1;clear hq he im hwt lw hf2 hf3 hr hu ju eh hj HR;go_enter Tryz.func18,Tryz.ntmps18;go_upto_region 2 with fail
 rw[←kp.out];go_wp2_with fail
 clear t0 t1;go_loopg [7,22] n0 (fun m o i wr=>∃ (k:Nat) (ao:Option Addr) (no co:Nat),k+m=n0∧i = .int .i64 k∧o = .slice ao no co∧Hid (RecL w wr W1.heap.size (.slice ao no co) ((vs.take k).flatMap F))∧zB W1 wr)
 case atStart=>exact⟨0,none,0,0,by omega,rfl,rfl,RecL.nil _ _ _,zH _ _⟩
 obtain⟨k,ao,no,co,hk,rfl,rfl,fh,bu⟩:=hrel;have j9:=bu.size;have ee:=zK hb1 bu;by_cases hlt:k<n0
 rotate_left
 ·obtain⟨t0,t1⟩:=zO ((zN bu).trans x5);obtain⟨l',e1,e2,e3,e4,e5⟩:=D0t HU.out;have e5:=fun ad had k y hy j u hu=>zQ ee (e5 ad had k y hy j u hu)
  obtain⟨q',q1,q2,q3⟩:=fh.out;have HT:Hid ((vs.take k).flatMap F=vs.flatMap F):=by show _=_;rw[uP (by rw[←gw.out];omega)]
  have hlen:(q'.length+l'.length)*ekR.bytes≤140737488355328:=by
   show _*48≤_;have h1:=HL.out;rw[←HT.out,←q2,←e1,yQ,yX,yX] at h1;omega
  obtain⟨lq,nj⟩:=zM (q'++l');go_wp2_with (at_builtin;refine tP (by rfl) ekR _ _ (by rfl) W1.heap.size (.slice ao no co) q' l' (by rfl) q1 a1 n1 c1 (by rfl) e3 e4 e5 (by decide) hlen j9 ?_)
  intro v' w9 aj ik;obtain⟨a9,n9,c9,rfl,_⟩:=aj.shape';have bc:=bu.grown ik j9 fun k hk=>(q1.own k hk).1
  have HE:Hid (RecL w w9 W1.heap.size (.slice a9 n9 c9) R):=by
   rw[ja.out,←HT.out];refine RecL.app (o:=none) q1 q2 q3 e1 (fun r hr=>.inl (e2 r hr)) aj ik rfl
  clear aj ik;go_wp2;go_ret;exact⟨a9,n9,c9,rfl,HE.out.rd (zK hb1 bc),zK hb1 bc⟩
 obtain⟨v,Hv⟩:=yE (l:=vs) (k:=k) (by rw[←gw.out];exact hlt);obtain⟨bv,ov,rfl,j5⟩:=HQ.out.get VAt.plain Hv.out;obtain⟨y1,y2,y3,s0,s1,s2,s3,r1,r2,r3⟩:=j5.at;obtain⟨b1,m1,d1,rfl,dt,_⟩:=r1.sH;obtain⟨b2,m2,d2,rfl,gq,_⟩:=r2.sH;obtain⟨b3,m3,d3,rfl,gu,_⟩:=r3.sH;have s0:=zQ ee s0;have s1:=zQ ee s1;have s2:=zQ ee s2;have s3:=zQ ee s3;have ol:(k:Int)<(n0:Int):=by omega
 obtain⟨⟨x,hx⟩,mv,o9⟩:=jb.out v (xV Hv.out);have j7:=xL hx.fld;have pc:=jG gg ig j7;have HX:=zI hx;have jd:=zI mv;have o8:v.bits.length+v.bytes.length+v.subs.length≤100000000:=by
  have:=tY (fun s=>1+jWB d s) (fun _=>by omega) v.subs;have e:jW (jWB d) v=1+v.bits.length+v.bytes.length+(v.subs.map fun s=>1+jWB d s).sum:=rfl;omega
 have ou:m1≤100000000:=by rw[dt.out];omega
 have ow:m2≤100000000:=by rw[gq.out];omega
 have o6:m3≤100000000:=by rw[gu.out];omega
 obtain⟨R0,i9⟩:=zM ((vs.take k).flatMap F);rw[←i9.out] at fh;have i6:Hid (F v=qM x v.bits++v.bytes.map (vH x.nU)++v.subs.map fun s=>vH x.nU (tX g d (xI g x.type) s)):=by
  show _=_;rw[HF.out];show sV _ (xE M.fD v.nU) v=_;rw[C1w hx.fld,←D8s hx];rfl
 have i7:Hid ((vs.take (k+1)).flatMap F=R0++F v):=by show _=_;rw[vX Hv.out,kA,i9.out];simp
 have lp:R0.length+(qM x v.bits).length+v.bytes.length+v.subs.length≤100000000:=by
  have h1:(R0++F v).length≤(vs.flatMap F).length:=by rw[←i7.out];exact B7k F vs (k+1)
  have h2:=HL.out;rw[yQ] at h2;rw[i6.out] at h1;simp only[yQ,yX] at h1;omega
 obtain⟨W5,je,cg,x9,-⟩:=zV wr (.cells #[.int .i64 v.nU,.slice b1 m1 d1,.slice b2 m2 d2,.slice b3 m3 d3] 63);have jh:=zK dx bu;have ng:=(zN bu).trans x4;have ei:∀ V,zB W5 V→zB W5 V∧V.cell? ⟨w.heap.size,0,none⟩=some (.slice (some ⟨bm,om,none⟩) nm cm)∧(V.cell? ⟨bm,om+j*3,none⟩=some (.string (S M.name))∧V.cell? ⟨bm,om+j*3+1,none⟩=some (.slice af nf cf)∧V.cell? ⟨bm,om+j*3+2,none⟩=some (.slice ab nb cb))∧V.cell? ⟨wr.heap.size,0,none⟩=some (.int .i64 v.nU):=fun V hV=>by
  have h5:=zK jh (zK cg hV);exact⟨hV,zL ((zN (zK cg hV)).trans ng) 0 _ rfl,⟨zQ h5 k0,zQ h5 k1,zQ h5 k2⟩,zL ((hV.block _ (zR x9)).trans x9) 0 _ rfl⟩
 have fy:zB W5 W5.drew:=(zH _ _).drew;obtain⟨p,Hp,f9⟩:=B4u (nm:=.string (S M.name)) (vb:=.slice ab nb cb) jp ⟨ab,nb,cb,rfl⟩ ⟨M.name,rfl⟩ v.nU;have f9:=f9 W5.drew (zK jh (zK cg fy));obtain⟨bx,ox,rfl,j6⟩:∃ bx ox,p=some ⟨bx,ox,none⟩∧FAt W0 ⟨bx,ox,none⟩ x:=by have:=Hp.out;rw[hx.fld] at this;exact this
 go_upto_region 5 with fail
 rw[←je.out];go_region_held3 (fun V=>zB W5 V∧V.cell? ⟨w.heap.size,0,none⟩=some (.slice (some ⟨bm,om,none⟩) nm cm)∧(V.cell? ⟨bm,om+j*3,none⟩=some (.string (S M.name))∧V.cell? ⟨bm,om+j*3+1,none⟩=some (.slice af nf cf)∧V.cell? ⟨bm,om+j*3+2,none⟩=some (.slice ab nb cb))∧V.cell? ⟨wr.heap.size,0,none⟩=some (.int .i64 v.nU)) ((with_reducible refine ei _ ?_;with_reducible (first|exact fy|exact dl))) ((first|(go_at_call 34;refine f9.mono ?_;rintro e w6 ⟨rfl,jo⟩;have dl:=zK fy jo)))
 clear f9 s0 s1 s2 s3 ei j5 Hp;obtain⟨c9,H9⟩:∃ c,Hid (c=wr.heap.size):=⟨_,rfl⟩
 have nk:=xD H9.out;have nr:=xD H9.out.symm;have gi:w6.heap[c9]?=some (.cells #[.int .i64 v.nU,.slice b1 m1 d1,.slice b2 m2 d2,.slice b3 m3 d3] 63 (0,0)):=by rw[H9.out];exact(dl.block _ (zR x9)).trans x9
 have bn:=zK cg dl;have bl:=zK bu bn;have fe:=zI (fh.out.bL bn);have s6:=bl.size;obtain⟨mb,dv⟩:=yP (x.many);have eo:∀ V,zB W1 V→V.cell? ⟨bx,ox+1,none⟩=some (.int .i64 x.nU)∧V.cell? ⟨bx,ox+3,none⟩=some (.string (S x.type))∧V.cell? ⟨bx,ox+4,none⟩=some (.bool mb):=fun V hV=>by
  obtain⟨-,h1,-,h3,h4,-⟩:=(FAt.sT _ _ _ _ (zK dx hV) j6).at;rw[dv.out] at h4;exact⟨h1,h3,h4⟩
 obtain⟨u0,u1,u2,u3⟩:=vI gi;clear fh cg fy jo dl je x9;rw[←H9.out];obtain⟨wo,kw⟩:∃ wo,wo=wr:=⟨_,rfl⟩
 subst kw;go_wp2_with fail
 clear u0 u1 u2 u3;go_loopg [7,11,37] m1 (fun m o al i wr=>∃ (i':Nat) (a2:Option Addr) (n2 c2:Nat) (aq:Option Addr) (nq cq:Nat),i'+m=m1∧i = .int .i64 i'∧o = .slice a2 n2 c2∧al = .slice aq nq cq∧Hid (N2 w w6 wr W1.heap.size x R0 v.bits i' (ao,no,co) (a2,n2,c2) (aq,nq,cq) mb)∧wr.heap[c9]?=some (.cells #[.int .i64 v.nU,.slice b1 m1 d1,.slice b2 m2 d2,.slice b3 m3 d3] 63 (0,0))∧zB W1 wr)
 case atStart=>
  refine⟨0,ao,no,co,none,0,0,by omega,rfl,rfl,rfl,?_,gi,bl⟩;cases mb with
  | true=>exact⟨rfl,Row.nil _ _ _,zH _ _⟩
  | false=>exact⟨rfl,by rw[mA,tA,tT];exact fe.out⟩
 obtain⟨i,a2,n2,c2,aq,nq,cq,hi,rfl,rfl,rfl,dg,av,hBl⟩:=hrel;have hzl:=hBl.size;have ac:=zK hb1 hBl;by_cases hil:i<m1
 ·obtain⟨nn,fq⟩:=yE (l:=v.bits) (k:=i) (by rw[←dt.out];exact hil);obtain⟨bb,ob,rfl,jy⟩:=(r1.bL UAt.sT ac).get UAt.plain fq.out;have sN:wr.cell? ⟨bb,ob+i,none⟩=some (.int .u64 (nn:Int)):=by simpa [UAt] using jy
  have jv:nn≤18446744073709551615:=by have:=jd.out.2.1 nn (xV fq.out);omega
  have jr:(i:Int)<(m1:Int):=by omega
  obtain⟨hw,fk⟩:=yP (yI x.kind);obtain⟨bt,fj⟩:=yP (wH x.kind nn);have iq:=C1a (FAt.sT _ _ _ _ (zK dx hBl) j6) (by omega) nn jv;rw[fk.out,fj.out] at iq;have ij:bt≤18446744073709551615:=by rw[←fj.out];exact dP _ _ jv
  have ix:=C2d x.kind;rw[fk.out] at ix;have kv:=zI ix;clear ix jy;go_wp2_with fail
  refine iq.mono ?_;rintro e w7 ⟨rfl,dn⟩;clear iq sN;have jn:=zK hBl dn;have iz:=(dn.block _ (zR av)).trans av;have s7:=jn.size;obtain⟨W8,kt,dm,eu,-⟩:=zV w7 (.cells #[.int .i64 x.nU,.int .i64 hw,.int .u64 (bt:Int),.slice none 0 0] 78);have d9:=zK jn dm;have km:=(dm.block _ (zR iz)).trans iz;obtain⟨f1,f3,f4⟩:=eo _ d9;obtain⟨g0,g1,g2,g3⟩:=vI eu;have s8:=d9.size;go_upto_region 11 with fail
  rw[←kt.out];cases mb with
  | false=>
   obtain⟨lf,ak⟩:=dg.out;cases lf
   obtain⟨L2,au⟩:=zM (R0++(v.bits.take i).map (gZ x));have ko:Hid (RecL w w7 W1.heap.size (.slice a2 n2 c2) L2):=by rw[au.out];exact RecL.bL ak dn
   have ma:(qM x v.bits).length=v.bits.length:=by unfold qM;rw[dv.out];simp
   have hl2:L2.length≤100000000:=by rw[au.out,yQ,yX,vZ];omega
   have HB:Hid (gZ x nn=⟨x.nU,hw,bt,[]⟩):=by show _=_;unfold gZ;rw[fk.out,fj.out]
   have lm:=ko.out.bL dm;clear ak lp ma;go_wp2_with (at_builtin;refine TI (by rfl) _ _ (by rfl) (by rfl) (by rfl) lm s8 ⟨x.nU,hw,bt,[]⟩ (none,0,0) (.inl (RdL.nil _ _ _)) hl2 ?_)
   intro a7 n7 c7 w9 aj bg bh;have bc:=bg _ d9;have ew:=bh _ _ _ _ km (by decide);have dr:=zI aj;clear f1 f3 f4 bg bh g0 g1 g2 g3 aj;go_wp2_with fail
   go_roundg (m1-(i+1))
   case measure=>omega
   refine⟨i+1,a7,n7,c7,none,0,0,by omega,by go_num,rfl,rfl,⟨rfl,?_⟩,ew,bc⟩;rw[vX fq.out,wM,←vY];show RecL _ _ _ _ (_++[gZ x nn]);rw[HB.out,←au.out];exact dr.out
  | true=>
  obtain⟨dy,ak,di⟩:=dg.out;have g8:=zK di dn;have pj:=g8.size;obtain⟨Ws,dh⟩:∃ V,Hid (V=W8.setCell ⟨w7.heap.size,0,none⟩ (.int .i64 1)):=⟨_,rfl⟩
  have pg:=(zR eu)
  have xs:Ws.heap[w7.heap.size]?=some (.cells #[.int .i64 1,.int .i64 hw,.int .u64 (bt:Int),.slice none 0 0] 78 (0,0)):=by rw[dh.out];exact rG _ _ _ _ _ _ eu
  have lg:zB w6 Ws:=by rw[dh.out];exact zT (zK g8 dm) (by omega)
  have kz:zB W1 Ws:=by rw[dh.out];exact zT d9 (by omega)
  have bk:Row ekY Ws w6.heap.size (PV.v (aq,nq,cq)) (nM x (v.bits.take i)):=by
   rw[dh.out];exact((ak.bL dn).bL dm).other ((((ak.bL dn).bL dm).ne_blk eu (by decide))) _ _
  obtain⟨X,HX⟩:=yP (recN 1 hw bt []);obtain⟨Y,HY⟩:=yP (X.drop 1);obtain⟨A,HA⟩:=yP (nM x (v.bits.take i));have cu:=C3h (w:=Ws) (RdL.nil _ _ _) 1 hw bt ij (by simp) (by decide) (by decide) kv.out;rw[HX.out] at cu;have lu:1≤X.length:=by rw[←HX.out];unfold recN ktagN;rw[yQ];have:=UH (Int.toNat 1*8+hw.toNat);omega
  have nw:X.length≤20:=by rw[←HX.out];exact dT _ _ _ _
  have ii:(nM x (v.bits.take i)).length≤2000000000:=by
   have h1:(nM x (v.bits.take i)).length≤(v.bits.take i).length*20:=VX fun n _=>by have:=dT 1 (yI x.kind) (wH x.kind n) [];rw[vE];simp at this;omega
   rw[vZ] at h1;omega
  rw[HA.out] at bk ii;have fs:=zJ eu 0;obtain⟨e0,e1,e2,e3⟩:=vI xs;clear ak d9 g8;go_upto_region 14 with fail
  rw[←dh.out];clear g0 g1 g2 g3 f1 f3 f4 fs;go_wp2_with fail
  refine cu.mono ?_;rintro e w9 ⟨a9,n9,gz,rfl,aj,dp⟩;obtain⟨jg,iu,jw⟩:=cR (fN aj.rdY) (show 1≤n9 by rw[aj.len];exact lu) .i64;have iu:∀ w,(Instr.slice 30 (.slice a9 n9 gz) (some (.int .i64 1)) none none).run Tryz.prog w = .ok (.slice jg (n9-1) (gz-1)) w:=iu;rw[HY.out] at jw;have gh:=fM (rdl_ofR jw);have oc:Y.length≤20:=by rw[←HY.out,vE];omega
  have jk:=zK lg dp;have kg:=jk.size;have ji:=zK kz dp;have df:Ws.heap[c9]?=some (.cells #[.int .i64 v.nU,.slice (some ⟨bb,ob,none⟩) m1 d1,.slice b2 m2 d2,.slice b3 m3 d3] 63 (0,0)):=by rw[dh.out];exact(zZ _ _ _ _ (show c9≠w7.heap.size by have:=(zR iz);omega)).trans km
  clear e0 e1 e2 e3 cu;go_wp2_with (at_builtin;refine tP (by rfl) ekY _ _ (by rfl) w6.heap.size (.slice aq nq cq) A Y (by rfl) (bk.bL dp) jg (n9-1) (gz-1) (by rfl) gh.1 gh.2.1 gh.2.2 (by decide) ?c2 kg ?_)
  case c2=>rw[show ekY.bytes=1 from rfl,tS];omega
  intro v' pk cw ba;obtain⟨kx,n10,c10,rfl,_⟩:=cw.shape';have hown:=fun k hk=>((bk.bL dp).own k hk).1
  have lh:=jk.grown ba kg hown;have ld:=ji.grown ba ji.size (fun k hk=>by have:=hown k hk;omega);have nh:=(ba.block c9 (by have:=(zR df);have:=dp.size;omega) (fun e=>by have:=hown c9 e.symm;have:=(zR gi);omega)).trans ((dp.block _ (zR df)).trans df);have gl:=zI cw;clear iu gh ba cw hown;go_wp2_with fail
  go_roundg (m1-(i+1))
  case measure=>omega
  refine⟨i+1,a2,n2,c2,kx,n10,c10,by omega,by go_num,rfl,rfl,⟨dy,?_,lh⟩,nh,ld⟩;have e:nM x (v.bits.take (i+1))=A++Y:=by
   rw[←HA.out,←HY.out];unfold nM;rw[vX fq.out,kA,←HX.out,←fk.out,←fj.out];simp
  rw[e];exact gl.out
 have gc:v.bits.take i=v.bits:=uP (by rw[←dt.out];omega);obtain⟨wl,dw⟩:∃ wl,wl=wr:=⟨_,rfl⟩
 subst dw;obtain⟨f1,f3,f4⟩:=eo wl hBl;obtain⟨g0,g1,g2,g3⟩:=vI av;go_upto_region 16 with fail
 go_cut [69] from 60 to 68 (fun s wc=>s = .bool (mb&&decide (0<m1))∧wc=wl)
 case first=>
  cases mb with
  | false=>
   go_wp2_with fail
   go_meet;exact⟨rfl,rfl⟩
  | true=>
  go_wp2_with fail
  go_meet;exact⟨by simp,rfl⟩
 case rest=>
 obtain⟨rfl,rfl⟩:=hcut;obtain⟨wl,dw⟩:∃ V,V=wc:=⟨_,rfl⟩
 subst dw;obtain⟨tb,fu⟩:∃ tb,Hid ((mb&&decide (0<m1))=tb):=⟨_,rfl⟩
 rw[fu.out];go_upto_if 69 with fail
 go_cut [7,78] from 70 to 77 (fun o _ wc=>∃ (a3:Option Addr) (n3 c3:Nat),o = .slice a3 n3 c3∧Hid (RecL w wc W1.heap.size (.slice a3 n3 c3) (R0++qM x v.bits))∧wc.heap[c9]?=some (.cells #[.int .i64 v.nU,.slice b1 m1 d1,.slice b2 m2 d2,.slice b3 m3 d3] 63 (0,0))∧zB W1 wc)
 case first=>
  cases tb with
  | false=>
   go_wp2_with fail
   go_meet;refine⟨a2,n2,c2,rfl,?_,av,hBl⟩;cases mb with
   | false=>
    obtain⟨_,ak⟩:=dg.out;rw[gc] at ak;show RecL _ _ _ _ _;unfold qM;rw[dv.out,zC (by decide)];exact ak
   | true=>
   obtain⟨dy,ak,di⟩:=dg.out;cases dy
   have hz:¬ 0<v.bits.length:=by have:=fu.out;rw[←dt.out];simpa using this
   show RecL _ _ _ _ _;unfold qM;rw[dv.out,zF rfl,zC hz,tT];exact RecL.bL fe.out di
  | true=>
  have h2:=fu.out;simp only[lS,decide_eq_true_eq] at h2;obtain⟨rfl,hz⟩:=h2;obtain⟨dy,ak,di⟩:=dg.out;cases dy
  rw[gc] at ak;have f6:=RecL.bL fe.out di;obtain⟨A,HA⟩:=zM (nM x v.bits);have HN:Hid (qM x v.bits = [vH x.nU A]):=by show _=_;rw[HA.out];unfold qM;rw[dv.out,zF rfl,zF (by rw[←dt.out];exact hz)]
  have hl2:R0.length≤100000000:=by omega
  have g7:=Row.mono ak s6;clear ak di hz gc;go_wp2_with (at_builtin;refine TI (by rfl) _ _ (by rfl) (by rfl) (by rfl) f6 hzl (vH x.nU A) (aq,nq,cq) (.inr (by rw[HA.out];exact g7)) hl2 ?_)
  intro a7 n7 c7 w9 aj bg bh;have dr:Hid (RecL w w9 W1.heap.size (.slice a7 n7 c7) (R0++qM x v.bits)):=by rw[HN.out];exact aj
  have bc:=bg _ hBl;have ew:=bh _ _ _ _ av (by decide);clear aj bg bh;go_wp2_with fail
  go_meet;exact⟨a7,n7,c7,rfl,dr,ew,bc⟩
 case rest=>
 obtain⟨a3,n3,c3,rfl,fd,kj,dz⟩:=hcut;obtain⟨w3,ku⟩:∃ V,V=wc:=⟨_,rfl⟩
 subst ku;obtain⟨R1,gj⟩:=zM (R0++qM x v.bits);rw[←gj.out] at fd;have lj:R1.length+v.bytes.length+v.subs.length≤100000000:=by rw[gj.out,yQ];omega
 clear f1 f3 f4 g0 g1 g2 g3 dg av hBl hzl ac fe fu gc hil hi gi bl bn s6;obtain⟨g0,g1,g2,g3⟩:=vI kj;go_wp2_with fail
 clear g0 g1 g2 g3;go_loopg [7,82] m2 (fun m o i wr=>∃ (i':Nat) (a2:Option Addr) (n2 c2:Nat),i'+m=m2∧i = .int .i64 i'∧o = .slice a2 n2 c2∧Hid (RecL w wr W1.heap.size (.slice a2 n2 c2) (R1++(v.bytes.take i').map (vH x.nU)))∧wr.heap[c9]?=some (.cells #[.int .i64 v.nU,.slice b1 m1 d1,.slice b2 m2 d2,.slice b3 m3 d3] 63 (0,0))∧zB W1 wr)
 case atStart=>exact⟨0,a3,n3,c3,by omega,rfl,rfl,by show RecL _ _ _ _ _;rw[mA,tA,tT];exact fd.out,kj,dz⟩
 obtain⟨i,a2,n2,c2,hi,rfl,rfl,HR,av,hBl⟩:=hrel;have hzl:=hBl.size;have ac:=zK hb1 hBl;by_cases hil:i<m2
 ·obtain⟨t,Ht⟩:=yE (l:=v.bytes) (k:=i) (by rw[←gq.out];exact hil);obtain⟨bb,ob,rfl,mz⟩:=r2.get ZAt.plain Ht.out;obtain⟨vy,sN,j8⟩:=mz;obtain⟨ky,nt,ct,rfl,_,_⟩:=j8.sH;have sN:=zQ ac (by simpa using sN);have jr:(i:Int)<(m2:Int):=by omega
  obtain⟨L2,au⟩:=zM (R1++(v.bytes.take i).map (vH x.nU));have hl2:L2.length≤100000000:=by rw[au.out,yQ,yX,vZ];omega
  obtain⟨f1,f3,f4⟩:=eo wr hBl;have f6:RecL w wr W1.heap.size (.slice a2 n2 c2) L2:=by rw[au.out];exact HR.out
  go_wp2_with (at_builtin;refine TI (by rfl) _ _ (by rfl) (by rfl) (by rfl) f6 hzl (vH x.nU t) (ky,nt,ct) (.inl j8) hl2 ?_)
  intro a7 n7 c7 w9 aj bg bh;have dr:Hid (RecL w w9 W1.heap.size (.slice a7 n7 c7) (R1++(v.bytes.take (i+1)).map (vH x.nU))):=by
   show RecL _ _ _ _ _;rw[vX Ht.out,wM,←vY,←au.out];exact aj
  have bc:=bg _ hBl;have ew:=bh _ _ _ _ av (by decide);clear aj bg bh f6 f1 f3 f4 sN;go_wp2_with fail
  go_roundg (m2-(i+1))
  case measure=>omega
  case rel=>exact⟨i+1,a7,n7,c7,by omega,by go_num,rfl,dr,ew,bc⟩
 obtain⟨R2,gp⟩:=zM (R1++v.bytes.map (vH x.nU));have fd:Hid (RecL w wr W1.heap.size (.slice a2 n2 c2) R2):=by rw[gp.out];have:=HR.out;rw[uP (by rw[←gq.out];omega)] at this;exact this
 have nv:R2.length+v.subs.length≤100000000:=by rw[gp.out,yQ,yX];omega
 obtain⟨wl,dw⟩:∃ wl,wl=wr:=⟨_,rfl⟩
 subst dw;clear HR lj hzl ac;obtain⟨g0,g1,g2,g3⟩:=vI av;go_wp2_with fail
 clear g0 g1 g2 g3 hil hi;go_loopg [7,99] m3 (fun m o i wr=>∃ (i':Nat) (a4:Option Addr) (n4 c4:Nat),i'+m=m3∧i = .int .i64 i'∧o = .slice a4 n4 c4∧Hid (RecL w wr W1.heap.size (.slice a4 n4 c4) (R2++(v.subs.take i').map fun s=>vH x.nU (tX g d (xI g x.type) s)))∧wr.heap[c9]?=some (.cells #[.int .i64 v.nU,.slice b1 m1 d1,.slice b2 m2 d2,.slice b3 m3 d3] 63 (0,0))∧zB W1 wr)
 case atStart=>exact⟨0,a2,n2,c2,by omega,rfl,rfl,by show RecL _ _ _ _ _;rw[mA,tA,tT];exact fd.out,av,hBl⟩
 obtain⟨i,a2,n2,c2,hi,rfl,rfl,HR,x9,hBl⟩:=hrel;have hzl:=hBl.size;have ac:=zK hb1 hBl;by_cases hil:i<m3
 ·obtain⟨s,Hs⟩:=yE (l:=v.subs) (k:=i) (by rw[←gu.out];exact hil);have hsm:=xV Hs.out;have il:=D5x HX.out.others hsm;obtain⟨N,hN⟩:=sY gg M ig x j7 il;have fz:g.mG.find? (isN x.type)=some N:=hN;obtain⟨jj,js,jq⟩:=SA fz;have hsz:=HX.out.subs s hsm;rw[mN fz] at hsz;have iw:=jd.out.2.2.2 s hsm;have hsw:jWB d s≤100000000:=by
   have h1:=lH (fun s=>1+jWB d s) hsm;have e:jW (jWB d) v=1+v.bits.length+v.bytes.length+(v.subs.map fun s=>1+jWB d s).sum:=rfl;omega
  obtain⟨l7,od,_⟩:=ZC gg d (kk+1) N s (xL fz) hsz iw hsw;have HN:Hid (xI g x.type=N):=by show _=_;unfold xI;rw[hN];rfl
  obtain⟨bb,ob,rfl,jx⟩:=r3.get (BAt.plain d) Hs.out;obtain⟨v0,v1,sA,sB,io⟩:=BQ.of d jx;obtain⟨i0,j0,l0,i1,j1,l1,rfl,rfl⟩:=BQ.shapeT d io;have sA:=zQ ac sA;have sB:=zQ ac sB;have jr:(i:Int)<(m3:Int):=by omega
  obtain⟨V2,jc,hb2,-,-⟩:=zV wr (.cells #[.slice i0 j0 l0,.slice i1 j1 l1] 29);obtain⟨c18,i5⟩:∃ c,Hid (c=wr.heap.size):=⟨_,rfl⟩
  have iy:V2.heap[c18]?=some (.cells #[.slice i0 j0 l0,.slice i1 j1 l1] 29 (0,0)):=by rw[i5.out,jc.out];exact yM _ _
  have x9:=(hb2.block _ (zR x9)).trans x9;have HR:=zI (RecL.bL HR.out hb2);obtain⟨L2,au⟩:=zM (R2++(v.subs.take i).map fun s=>vH x.nU (tX g d (xI g x.type) s));rw[←au.out] at HR;have hl2:L2.length≤100000000:=by rw[au.out,yQ,yX,vZ];omega
  have hBl:=zK hBl hb2;have ac:=zK hb1 hBl;have hz2:=hBl.size;have l9:=(zR x9)
  have ke:=(zR iy)
  have cj:∀ V,zB W1 V→V.heap[c18]?=some (.cells #[.slice i0 j0 l0,.slice i1 j1 l1] 29 (0,0))→(V.cell? ⟨w.heap.size,0,none⟩=some (.slice (some ⟨bm,om,none⟩) nm cm)∧V.cell? ⟨w.heap.size,1,none⟩=some (.slice ae ne ce))∧(V.cell? ⟨bx,ox+1,none⟩=some (.int .i64 x.nU)∧V.cell? ⟨bx,ox+3,none⟩=some (.string (S x.type)))∧V.cell? ⟨c18,0,none⟩=some (.slice i0 j0 l0)∧V.cell? ⟨c18,1,none⟩=some (.slice i1 j1 l1):=fun V hV hc=>by
   obtain⟨h1,h3,_⟩:=eo V hV;exact⟨zO ((zN hV).trans x4),⟨h1,h3⟩,zO hc⟩
  have ag:=fun V (hV:zB V2 V)=>cj V (zK hBl hV) ((hV.block _ ke).trans iy)
  have ah:zB V2 V2.drew:=(zH _ _).drew;have mg:Calls Tryz.prog 36 #[.agg #[.slice (some ⟨bm,om,none⟩) nm cm,.slice ae ne ce],.string (S x.type)] V2.drew fun e w'=>e = .returned (.int .i64 (jj:Int))∧zB V2.drew w':=by
   have:=bA (hg.1.bL MAt.sT (zK dx (zK hBl ah))) ⟨ae,ne,ce,rfl⟩ x.type;rw[jq] at this;exact this
  have ir:=fun V (hV:zB V2 V)=>ih V jj N _ _ s (kk+1) (zK dx (zK hBl hV)) js (BQ.bL io (zK ac hV)) hsz iw hsw
  clear jx io hN fz jq js hsz iw eo jb;go_upto_region 26 with fail
  rw[←jc.out,←i5.out];clear sA sB;refine rgL (fun V=>(V.cell? ⟨w.heap.size,0,none⟩=some (.slice (some ⟨bm,om,none⟩) nm cm)∧V.cell? ⟨w.heap.size,1,none⟩=some (.slice ae ne ce))∧(V.cell? ⟨bx,ox+1,none⟩=some (.int .i64 x.nU)∧V.cell? ⟨bx,ox+3,none⟩=some (.string (S x.type)))∧V.cell? ⟨c18,0,none⟩=some (.slice i0 j0 l0)∧V.cell? ⟨c18,1,none⟩=some (.slice i1 j1 l1)) 18 (ag _ ah) ?_;refine tkF 0 rfl (ag _ ah) (fun _ h=>h) ?_
  try simp only[zE]
  refine tkF 1 rfl (ag _ ah) (fun _ h=>h) ?_
  try simp only[zE]
  refine tkF 2 rfl (ag _ ah) (fun _ h=>h) ?_
  try simp only[zE]
  refine tkF 3 rfl (ag _ ah) (fun _ h=>h) ?_
  try simp only[zE]
  refine tkF 4 rfl (ag _ ah) (fun _ h=>h) ?_
  try simp only[zE]
  refine tkF 5 rfl (ag _ ah) (fun _ h=>h) ?_
  try simp only[zE]
  refine tkF 6 rfl (ag _ ah) (fun _ h=>h) ?_
  try simp only[zE]
  refine tkF 7 rfl (ag _ ah) (fun _ h=>h) ?_
  try simp only[zE]
  refine tkF 8 rfl (ag _ ah) (fun _ h=>h) ?_
  try simp only[zE]
  refine tkF 9 rfl (ag _ ah) (fun _ h=>h) ?_
  try simp only[zE]
  refine tkF 10 rfl (ag _ ah) (fun _ h=>h) ?_
  try simp only[zE]
  refine tkF 12 rfl (ag _ ah) (fun _ h=>h) ?_
  try simp only[zE]
  refine xT 11 rfl (fun K hK=>?_);go_simp;refine mg.mono ?_;rintro e w3 ⟨rfl,hb3⟩;have dz:=zK ah hb3;have ml:=ir w3 dz;refine hK.out _ _ (fun _=>ag _ dz) ?_;clear hK K
  try simp only[zE]
  refine xT 13 rfl (fun K hK=>?_);go_simp;refine ml.mono ?_;rintro e w4 ⟨a4,n4,c4,rfl,hr4,hb4⟩;have ie:=zK dz hb4;have mr:=C3i hr4 l7 (by rw[←YH];omega);refine hK.out _ _ (fun _=>ag _ ie) ?_;clear hK K
  try simp only[zE]
  refine xT 14 rfl (fun K hK=>?_);go_simp;refine mr.mono ?_;rintro e w5 ⟨a5,n5,c5,rfl,mh,cg⟩;have aw:=zK ie cg;refine hK.out _ _ (fun _=>ag _ aw) ?_;clear hK K
  try simp only[zE]
  refine tkF 15 rfl (ag _ aw) (fun _ h=>h) ?_
  try simp only[zE]
  refine xT 16 rfl (fun K hK=>?_);go_simp;have dl:=aw.alloc aw.size (.cells #[.int .i64 x.nU,.int .i64 2,.int .u64 0,.slice a5 n5 c5] 78);refine hK.out _ _ (fun _=>ag _ dl) ?_;clear hK K
  try simp only[zE]
  refine xT 17 rfl (fun K hK=>?_);skip;have pd:=aw.size;have ip:Row ekY w5 W1.heap.size (PV.v (a5,n5,c5)) (uS (rU g d N s)):=mh.mono (by have:=ie.size;omega);refine D1p (by rfl) _ _ (by rfl) (by rfl) (by rfl) (HR.out.bL aw) (by omega) (vH x.nU (uS (rU g d N s))) (a5,n5,c5) (.inr ip) hl2 ?_;intro a7 n7 c7 w7 mj lz jt;have g9:=lz _ (hBl.trans (aw.mono (by omega)));have li:=jt _ _ _ _ ((aw.block _ l9).trans x9) (by decide);have jl:=jt _ _ _ _ ((aw.block _ ke).trans iy) (by decide);refine hK.out _ _ (fun _=>cj _ g9 jl) ?_;clear hK K
  try simp only[zE]
  refine tkF 18 rfl (cj _ g9 jl) (fun _ h=>h) ?_
  try simp only[zE]
  refine dnL ?_;go_wp2_with fail
  go_roundg (m3-(i+1))
  case measure=>omega
  refine⟨i+1,a7,n7,c7,by omega,by go_num,rfl,?_,li,g9⟩;show RecL _ _ _ _ _;rw[vX Hs.out,wM,←vY,←au.out];have e:tX g d (xI g x.type) s=uS (rU g d N s):=by rw[HN.out,YH]
  show RecL _ _ _ _ (_++[vH x.nU (tX g d (xI g x.type) s)]);rw[e];exact mj
 go_wp2_with fail
 go_roundg (n0-(k+1))
 case measure=>omega
 refine⟨k+1,a2,n2,c2,by omega,by go_num,rfl,?_,hBl⟩;have:=HR.out;rw[uP (by rw[←gu.out];omega),gp.out,gj.out,vY,vY] at this;show RecL _ _ _ _ _;rw[i7.out,i6.out,vY];exact this
theorem C2z {g:GI}{W0:World}{am ae:Option Addr}{nm cm ne ce:Nat}(hg:GRd W0 (.slice am nm cm) (.slice ae ne ce) g)(ac:(yB g).1=0):∀ d,UR g W0 (.slice am nm cm) (.slice ae ne ce) d
 | 0=>fun _ _ _ _ _ _ _ _ _ h=>h.elim
 | d+1=>C6j hg ac (C2z hg ac d)
end L
end Go.Proofs.YthcomdofaaeihaaGreatDoor
