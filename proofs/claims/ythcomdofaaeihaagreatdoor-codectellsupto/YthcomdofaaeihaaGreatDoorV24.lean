import Derived.Test.YthcomdofaaeihaaGreatDoorV19
import Derived.Test.YthcomdofaaeihaaGreatDoorV17
import Derived.Test.YthcomdofaaeihaaGreatDoorV12
import Derived.Lib.ConvBytes
import Derived.Lib.SmallJoins
set_option maxHeartbeats 32000000
set_option maxRecDepth 100000
set_option linter.unusedVariables false
namespace Go.Proofs.YthcomdofaaeihaaGreatDoor
namespace L
open Go.RowKit
variable{a1 a2:Option Addr}{k c2 c1 n1 n2:Nat}{l:List Int}{vm ve v:Value}{g:GI}{w:World}
def uM (n:Int):Bool:=decide (n<0)||decide (536870912≤n)
theorem C7n (n:Int)(w:World):Calls Tryz.prog 94 #[.int .i64 n] w fun e w'=>e = .returned (.bool (uM n))∧w=w':=by
 obtain⟨q1,ac⟩:∃ q,decide (n<0)=q:=⟨_,rfl⟩
 obtain⟨q2,ag⟩:∃ q,decide (536870912≤n)=q:=⟨_,rfl⟩
 have HN:Hid (uM n=(q1||q2)):=by show _=_;rw[uM,ac,ag]
 cases q1 <;> cases q2
 all_goals simp only[decide_eq_true_eq,uZ] at ac ag
 all_goals first|(exfalso;omega)|skip
 all_goals go_enter Tryz.func94,Tryz.ntmps94
 all_goals go_wp2
 all_goals go_ret
 all_goals exact⟨by rw[HN.out];rfl,rfl⟩
theorem C3x (h:RdL 1 NAt w v l) :
  Calls Tryz.prog 156 #[v,.func (.func 94) #[] #[]] w fun e w'=>∃ r:Int,e = .returned (.int .i64 r)∧decide (0≤r)=l.any uM∧w=w':=by
 obtain⟨ao,n,cap,rfl,Hn,ah⟩:=h.sH;go_enter Tryz.func156,Tryz.ntmps156;go_wp2_with fail
 go_loopg [8] n (fun m i wr=>∃ k:Nat,k+m=n∧i = .int .i64 k∧Hid (l.any uM=(l.drop k).any uM)∧w=wr)
 case atStart=>exact⟨0,by omega,rfl,rfl,rfl⟩
 obtain⟨k,hk,rfl,HK,rfl⟩:=hrel;by_cases hlt:k<n
 ·obtain⟨a,Ha⟩:=yE (l:=l) (k:=k) (by rw[←Hn.out];exact hlt);have ag:Hid (l.any uM=(uM a||(l.drop (k+1)).any uM)):=by
   obtain⟨hk,e⟩:=yG.1 Ha.out;show _=_;rw[HK.out,uQ hk,e];simp
  obtain⟨b,off,rfl,hc⟩:=h.get NAt.plain Ha.out;have hc:w.cell? ⟨b,off+k*1,none⟩=some (.int .i64 a):=hc;rw[tS] at hc;have aj:(k:Int)<(n:Int):=by omega
  have ac:=C7n a w;cases hq:uM a with
  | true=>
   have HR:Hid (l.any uM=true):=by show _=_;rw[ag.out,hq];rfl
   rw[hq] at ac;clear hq;go_wp2_with fail
   refine ac.mono ?_;rintro e w1 ⟨rfl,rfl⟩;go_wp2;go_ret;exact⟨_,rfl,by rw[HR.out];simp,rfl⟩
  | false=>
  have HR:Hid (l.any uM=(l.drop (k+1)).any uM):=by show _=_;rw[ag.out,hq];rfl
  rw[hq] at ac;clear hq;go_wp2_with fail
  refine ac.mono ?_;rintro e w1 ⟨rfl,rfl⟩;go_wp2_with fail
  go_roundg (n-(k+1))
  case measure=>omega
  case rel=>exact⟨k+1,by omega,by go_num,HR,rfl⟩
 have HX:Hid (l.any uM=false):=by show _=_;rw[HK.out,sF (by rw[←Hn.out];omega)];rfl
 go_wp2;go_ret;exact⟨_,rfl,by rw[HX.out];simp,rfl⟩
theorem B9q (h:RdL 1 NAt w v l) :
  Calls Tryz.prog 93 #[v,.func (.func 94) #[] #[]] w fun e w'=>e = .returned (.bool (l.any uM))∧w=w':=by
 have hi:=C3x h;go_enter Tryz.func93,Tryz.ntmps93;go_wp2_with fail
 refine hi.mono ?_;rintro e w1 ⟨r,rfl,hr,rfl⟩;have HR:=zI hr;clear hr hi;go_wp2;go_ret;exact⟨nQ HR.out,rfl⟩
def uK:List Int:=[7,3,8,1,6,8,2]
def qC:Mem:=⟨[],[],0,0⟩
theorem Qj6{P:Prop}(h:P:=by
 rintro e W' ⟨rfl,k1,k2⟩;exact⟨rfl,fun e=>⟨k1 e,by show s.names.length≤k+1;simpa using h2,by show s.nums.length≤k+1;simpa using h3,h4,by show s.begun≤(k:Int);simpa using h5,h6⟩,k2⟩):P:=h
theorem B5o {a3 a4:Option Addr}{n3 n4 c3 c4:Nat}{nm:List UInt8}{l:List FI}{bar:List Int}(hg:GRd w (.slice a1 n1 c1) (.slice a2 n2 c2) g)(hl:RdL 6 FAt w (.slice a3 n3 c3) l)(ac:RdL 1 NAt w (.slice a4 n4 c4) bar)(hn:l.length≤900)(hs:∀ s∈l,s.name.length≤9223372036854775807) :
  Calls Tryz.prog 95 #[.slice a3 n3 c3,.slice (some ⟨w.heap.size+9,0,none⟩) 7 7] (pQ w (dJ w.heap.size (.slice a1 n1 c1) (.slice a2 n2 c2) (.string (S nm)) (.slice a3 n3 c3) (.slice a4 n4 c4))) fun e w'=>e = .returned (.agg #[.int .i64 (xC (yV g bar) uK 0 l qC).1,.int .i64 (((xC (yV g bar) uK 0 l qC).2:Nat):Int)])∧zB w w':=by
 obtain⟨W9,HW⟩:=zM (pQ w (dJ w.heap.size (.slice a1 n1 c1) (.slice a2 n2 c2) (.string (S nm)) (.slice a3 n3 c3) (.slice a4 n4 c4)));have hz:W9.heap.size=w.heap.size+10:=by rw[HW.out,SI];rfl
 have hb:zB w W9:=by rw[HW.out];exact fZ _ _
 have ha:∀ i o,(dJ w.heap.size (.slice a1 n1 c1) (.slice a2 n2 c2) (.string (S nm)) (.slice a3 n3 c3) (.slice a4 n4 c4))[i]?=some o→W9.heap[w.heap.size+i]?=some o:=fun i o h=>by rw[HW.out];exact TP _ _ i o h
 rw[←HW.out];have hB:=B9r (B:=W9.heap.size) (B0:=w.heap.size) (cs:=[w.heap.size+2,w.heap.size+3,w.heap.size+4,w.heap.size+5]) (w:=W9) (l:=l) (rs:=dD w.heap.size) (g:=w.heap.size+9) (yV g bar) (fun k j s W=>KSt w W W9.heap.size w.heap.size a1 a2 a3 a4 n1 n2 n3 n4 c1 c2 c3 c4 nm s∧s.names.length≤(if j=0 then k else k+1)∧s.nums.length≤(if j≤2 then k else k+1)∧0≤s.begun∧s.begun≤(if j≤6 then(k:Int) else(k:Int)+1)∧s.last≤s.begun) qC
  (fun W hW=>hl.bL FAt.sT (hb.trans hW)) (ha 9 _ rfl) (by simp) (by omega) (zG _) (by simp) (by simp;omega) (by simp[dD]) ?_ ?_ (fun k j s W W' _ hI hb'=>⟨hI.1.bL hb',hI.2⟩) (fun k s W _ hI=>⟨hI.1,by simpa [dD] using hI.2⟩) ?_
 ·refine hB.mono ?_;rintro e w' ⟨rfl,hF⟩;exact⟨rfl,hb.trans (hF.bL (by omega) (by omega) (by simp))⟩
 ·intro r hr args w';simp only[dD,yY,rI,or_false] at hr;rcases hr with rfl|rfl|rfl|rfl|rfl|rfl|rfl
  ·exact enters_of Tryz.func159 (by kernel_rfl) rfl args w'
  ·exact enters_of Tryz.func160 (by kernel_rfl) rfl args w'
  ·exact enters_of Tryz.func162 (by kernel_rfl) rfl args w'
  ·exact enters_of Tryz.func164 (by kernel_rfl) rfl args w'
  ·exact enters_of Tryz.func165 (by kernel_rfl) rfl args w'
  ·exact enters_of Tryz.func167 (by kernel_rfl) rfl args w'
  exact enters_of Tryz.func169 (by kernel_rfl) rfl args w'
 ·exact⟨⟨⟨⟨_,ha 2 _ rfl,Row.nil _ _ _⟩,ha 6 _ rfl,by omega⟩,⟨⟨_,ha 3 _ rfl,Row.nil _ _ _⟩,ha 7 _ rfl,by omega⟩,ha 4 _ rfl,ha 5 _ rfl,ha 8 _ rfl,ha 0 _ rfl,ha 1 _ rfl,by omega,zG _,rfl,hb⟩,by simp[qC],by simp[qC],by simp[qC],by simp[qC],by simp[qC]⟩
 intro k j r f s W hf hr ah _ hI;obtain⟨h1,h2,h3,h4,h5,h6⟩:=hI;have hk:=(yG.1 hf).1;have ag:j<7:=(yG.1 hr).1
 match j,ag,hr with
 | 0,_,hr=>
  cases hr
  refine(C4k g bar h1 (by simp at h2;omega) f (hs f (uO hf))).mono ?_;rintro e W' ⟨rfl,k1,k2⟩;refine⟨rfl,fun e=>⟨k1 e,?_,?_,h4,?_,h6⟩,k2⟩
  ·have:=YF f.name s.names;simp at h2;show(vM f.name s.names).length≤k+1;omega
  ·show s.nums.length≤k;simpa using h3
  show s.begun≤(k:Int);simpa using h5
 | 1,_,hr=>
  cases hr
  refine(C4l g bar h1 f).mono ?_;rintro e W' ⟨rfl,k1,k2⟩;exact⟨rfl,fun e=>⟨k1 e,by show s.names.length≤k+1;simpa using h2,by show s.nums.length≤k;simpa using h3,h4,by show s.begun≤(k:Int);simpa using h5,h6⟩,k2⟩
 | 2,_,hr=>
  cases hr
  refine(C4m g bar h1 (by simp at h3;omega) ac f).mono ?_;rintro e W' ⟨rfl,k1,k2⟩;refine⟨rfl,fun e=>⟨k1 e,by show s.names.length≤k+1;simpa using h2,?_,h4,by show s.begun≤(k:Int);simpa using h5,h6⟩,k2⟩;have:=YF f.nU s.nums;simp at h3;show(vM f.nU s.nums).length≤k+1;omega
 | 3,_,hr=>
  cases hr
  refine(C4n g bar h1 f).mono ?_;exact Qj6
 | 4,_,hr=>
  cases hr
  refine(C4o g bar h1 hg f).mono ?_;exact Qj6
 | 5,_,hr=>
  cases hr
  refine(C4p g bar h1 f).mono ?_;exact Qj6
 | 6,_,hr=>
 cases hr
 simp at h5;refine(C4q g bar h1 h4 (by omega) f).mono ?_;rintro e W' ⟨rfl,k1,k2⟩;refine⟨rfl,fun e=>?_,k2⟩;have e':uH s.last s.begun f.cE=false:=e;have hm:f.cE=0∨f.cE=s.last∨f.cE=s.begun+1:=by
  simp[uH] at e';by_cases q1:f.cE=0
  ·exact .inl q1
  by_cases q2:f.cE=s.last
  ·exact .inr (.inl q2)
  exact .inr (.inr (e' q1 q2))
 refine⟨k1 e,by show s.names.length≤k+1;simpa using h2,by show s.nums.length≤k+1;simpa using h3,?_,?_,?_⟩
 ·show 0≤max s.begun f.cE;omega
 ·show max s.begun f.cE≤(k:Int)+1;omega
 show f.cE≤max s.begun f.cE;omega
def rE (g:GI)(m:MI):Int:=if 16<m.fD.length∨16<m.barred.length then 5 else if m.barred.any uM then 3 else(xC (yV g m.barred) uK 0 m.fD qC).1
theorem B0y {vf vb:Value}(m:MI)(hg:GRd w vm ve g)(hl:RdL 6 FAt w vf m.fD)(ac:RdL 1 NAt w vb m.barred)(hs:∀ s∈m.fD,s.name.length≤9223372036854775807) :
  Calls Tryz.prog 41 #[.agg #[vm,ve],.agg #[.string (S m.name),vf,vb]] w fun en w'=>en = .returned (.int .i64 (rE g m))∧zB w w':=by
 obtain⟨a1,n1,c1,rfl,_,_⟩:=hg.1.sH;obtain⟨a2,n2,c2,rfl,_,_⟩:=hg.2.sH;obtain⟨a3,n3,c3,rfl,H3,hc3⟩:=hl.sH;obtain⟨a4,n4,c4,rfl,H4,av⟩:=ac.sH;have ba:=tM;obtain⟨W2,ag,hb2,-,hx1,hx2⟩:=uD w (.cells #[.slice a1 n1 c1,.slice a2 n2 c2] 25) (.cells #[.string (S m.name),.slice a3 n3 c3,.slice a4 n4 c4] 35);by_cases h1:16<n3
 ·have HE:Hid (rE g m=5):=by show _=_;rw[rE,zF (.inl (by rw[←H3.out];exact h1))]
  have hi:(16:Int)<(n3:Int):=by omega
  go_enter Tryz.func41,Tryz.ntmps41;go_wp2;rw[←ag.out];go_ret;exact⟨by rw[HE.out];rfl,hb2⟩
 have hi:¬ (16:Int)<(n3:Int):=by omega
 by_cases h2:16<n4
 ·have HE:Hid (rE g m=5):=by show _=_;rw[rE,zF (.inr (by rw[←H4.out];exact h2))]
  have hj:(16:Int)<(n4:Int):=by omega
  go_enter Tryz.func41,Tryz.ntmps41;go_wp2;rw[←ag.out];go_ret;exact⟨by rw[HE.out];rfl,hb2⟩
 have hj:¬ (16:Int)<(n4:Int):=by omega
 have hno:¬ (16<m.fD.length∨16<m.barred.length):=by rw[←H3.out,←H4.out];omega
 have ah:=B9q (ac.bL NAt.sT hb2);cases hq:m.barred.any uM with
 | true=>
  have HE:Hid (rE g m=3):=by show _=_;rw[rE,zC hno,hq];rfl
  rw[hq] at ah;clear hq hno;go_enter Tryz.func41,Tryz.ntmps41;go_wp2_with fail
  rw[←ag.out];refine ah.mono ?_;rintro en w1 ⟨rfl,rfl⟩;go_wp2;go_ret;exact⟨by rw[HE.out];rfl,hb2⟩
 | false=>
 have HE:Hid (rE g m=(xC (yV g m.barred) uK 0 m.fD qC).1):=by show _=_;rw[rE,zC hno,hq];rfl
 rw[hq] at ah;have hd:zB W2 W2.drew:=(zH _ _).drew;have hwd:=hb2.drew;have aj:=B3o a1 a2 a3 a4 n1 n2 n3 n4 c1 c2 c3 c4 m.name W2.drew;have hbr:=B5o (nm:=m.name) (hg.bL hwd) (hl.bL FAt.sT hwd) (ac.bL NAt.sT hwd) (by rw[←H3.out];omega) hs;have ak:=fun W (hW:zB W2 W)=>yH ((hW.block _ (zR hx1)).trans hx1) ((hW.block _ (zR hx2)).trans hx2)
 obtain⟨y1,y2⟩:=ak W2.drew hd;obtain⟨z0,z1⟩:=zO y1;obtain⟨z2,z3,z4⟩:=uG y2;have aw:=D6r;clear hq hno;go_enter Tryz.func41,Tryz.ntmps41;go_wp2_with fail
 rw[←ag.out];refine ah.mono ?_;rintro en w1 ⟨rfl,rfl⟩;go_wp2_with fail
 go_region_with (first
  | (go_at_call 96;refine aj.mono ?_;rintro en w1 ⟨rfl,au⟩;obtain⟨y3,y4⟩:=ak w1 (by rw[←au];exact hd.trans (fZ (dJ W2.drew.heap.size (.slice a1 n1 c1) (.slice a2 n2 c2) (.string (S m.name)) (.slice a3 n3 c3) (.slice a4 n4 c4)) W2.drew));obtain⟨z5,z6,z7⟩:=uG y4)
  | (go_at_call 95;rw[←au];refine hbr.mono ?_;rintro en w2 ⟨rfl,hb3⟩))
 all_goals
  go_wp2;go_ret;exact⟨by rw[HE.out];rfl,hb2.trans ((hd.trans hb3).mono hb2.size)⟩
theorem B9x (h1:n1≤140737488355328)(h2:n2≤140737488355328):Calls Tryz.prog 37 #[.agg #[.slice a1 n1 c1,.slice a2 n2 c2]] w fun e w'=>e = .returned (.bool (decide (10<n1+n2)))∧zB w w':=by
 have ac:=(zH w.heap.size w).alloc (zG _) (.cells #[.slice a1 n1 c1,.slice a2 n2 c2] 25);have HE:Hid (decide ((10:Int)<(n1:Int)+(n2:Int))=decide (10<n1+n2)):=by show _=_;rw[uR];simp;omega
 go_enter Tryz.func37,Tryz.ntmps37;go_wp2;go_ret;exact⟨by rw[←HE.out];rfl,ac⟩
def rX (g:GI):List (List UInt8):=g.mG.map MI.name++g.enums.map EI.name
theorem C9s (hg:GRd w vm ve g)(cu:g.mG.length≤1000)(cw:g.enums.length≤1000) :
  Calls Tryz.prog 39 #[.agg #[vm,ve]] w fun e w'=>∃ ao n cap,e = .returned (.slice ao n cap)∧RdL 1 SAt w' (.slice ao n cap) (rX g)∧zB w w':=by
 obtain⟨a1,n1,c1,rfl,H1,_⟩:=hg.1.sH;obtain⟨a2,n2,c2,rfl,H2,_⟩:=hg.2.sH;have h1:n1≤1000:=by rw[H1.out];exact cu
 have h2:n2≤1000:=by rw[H2.out];exact cw
 obtain⟨W0,bk,hb0,hx0,-⟩:=zV w (.cells #[.slice a1 n1 c1,.slice a2 n2 c2] 25);have hz0:W0.heap.size=w.heap.size+1:=by rw[bk.out];simp
 go_enter Tryz.func39,Tryz.ntmps39;go_wp2_with fail
 rw[←bk.out];go_loopg [3,11] n1 (fun m lv i wr=>∃ (k:Nat) (l:List (List UInt8)),k+m=n1∧i = .int .i64 k∧Row ekS wr (w.heap.size+1) lv l∧Hid (l=(g.mG.take k).map MI.name)∧Below (w.heap.size+1) W0 wr)
 case atStart=>exact⟨0,[],by omega,rfl,Row.nil _ _ _,by show _=_;simp,zH _ _⟩
 obtain⟨k,l,hk,rfl,hrow,HL,hbr⟩:=hrel;have ah:=hb0.trans (hbr.mono (by omega));have au:w.heap.size+1≤wr.heap.size:=by have:=hbr.size;omega
 have bl:l.length≤k:=by rw[HL.out];simp;omega
 obtain⟨al,nl,cl,rfl,bu⟩:=hrow.shape';by_cases hlt:k<n1
 ·obtain⟨a,Ha⟩:=yE (l:=g.mG) (k:=k) (by rw[←H1.out];exact hlt);obtain⟨b,off,rfl,hat⟩:=(hg.bL ah).1.get MAt.plain Ha.out;obtain⟨vf,vb,s0,s1,s2,dg,df⟩:=hat.at;obtain⟨af,nf,cf,rfl,_,_⟩:=dg.sH;obtain⟨ab,nb,cb,rfl,_,_⟩:=df.sH;have cj:(k:Int)<(n1:Int):=by omega
  have ak:=(zH wr.heap.size wr).alloc (zG _) (.cells #[.string (S a.name),.slice af nf cf,.slice ab nb cb] 35);have bg:(wr.alloc (.cells #[.string (S a.name),.slice af nf cf,.slice ab nb cb] 35)).heap.size=wr.heap.size+1:=by simp
  have ac:=Row.one (base:=w.heap.size+1) ekS (wr.alloc (.cells #[.string (S a.name),.slice af nf cf,.slice ab nb cb] 35)) a.name (by omega);rw[bg] at ac;have aj:=(zH _ _).alloc (zG _) (.cells #[.string (S a.name)] 9) (w:=wr.alloc (.cells #[.string (S a.name),.slice af nf cf,.slice ab nb cb] 35));have hrow4:=(hrow.bL ak).bL aj;have ag:Below (w.heap.size+1) W0 _:=(hbr.trans (ak.mono au)).trans (aj.mono (by omega));have ac:Row ekS ((wr.alloc (.cells #[.string (S a.name),.slice af nf cf,.slice ab nb cb] 35)).alloc (.cells #[.string (S a.name)] 9)) (w.heap.size+1) (.slice (some ⟨wr.heap.size+1,0,none⟩) 1 1) [a.name]:=ac;clear hat;go_wp2_with (at_builtin;refine cQ rfl ekS _ _ rfl (w.heap.size+1) _ l [a.name] rfl hrow4 (w.heap.size+1) _ rfl ac ?e1 ?e2 ?_)
  case e1=>(try simp);omega
  case e2=>(try simp);omega
  intro v5 w5 bc ba;have hown:=hrow4.own;have aw:=ag.grown ba (by(try simp);omega) (fun k hk=>(hown k hk).1);have av:Hid (l++[a.name]=(g.mG.take (k+1)).map MI.name):=by show _=_;rw[HL.out,vX Ha.out];simp
  clear hown ac hrow4 ag;go_wp2_with fail
  go_roundg (n1-(k+1))
  case measure=>omega
  case rel=>exact⟨k+1,l++[a.name],by omega,by go_num,bc,av,aw⟩
 have y0:=(hbr.block w.heap.size (by omega)).trans hx0;obtain⟨x0,x1⟩:=zO y0;have bh:Hid (l=g.mG.map MI.name++(g.enums.take 0).map EI.name):=by show _=_;rw[HL.out,uP (by rw[←H1.out];omega)];simp
 go_wp2_with fail
 go_loopg [3,24] n2 (fun m lv i wr=>∃ (k:Nat) (l:List (List UInt8)),k+m=n2∧i = .int .i64 k∧Row ekS wr (w.heap.size+1) lv l∧Hid (l=g.mG.map MI.name++(g.enums.take k).map EI.name)∧Below (w.heap.size+1) W0 wr)
 case atStart=>exact⟨0,l,by omega,rfl,hrow,bh,hbr⟩
 clear ah au bl x0 x1 y0 bh hbr hrow HL bu;obtain⟨k2,l2,hk2,rfl,hrow,HL,hbr⟩:=hrel;have ah:=hb0.trans (hbr.mono (by omega));have au:w.heap.size+1≤wr.heap.size:=by have:=hbr.size;omega
 have bl:l2.length≤n1+k2:=by rw[HL.out,H1.out];simp;omega
 obtain⟨di,dm,dl,rfl,cg⟩:=hrow.shape';by_cases hlt2:k2<n2
 ·obtain⟨a,Ha⟩:=yE (l:=g.enums) (k:=k2) (by rw[←H2.out];exact hlt2);obtain⟨b,off,rfl,hat⟩:=(hg.bL ah).2.get EAt.plain Ha.out;obtain⟨vi,s0,s1,dh⟩:=hat.at;obtain⟨ai,ni,ci,rfl,_,_⟩:=dh.sH;have cj:(k2:Int)<(n2:Int):=by omega
  have ak:=(zH wr.heap.size wr).alloc (zG _) (.cells #[.string (S a.name),.slice ai ni ci] 92);have bg:(wr.alloc (.cells #[.string (S a.name),.slice ai ni ci] 92)).heap.size=wr.heap.size+1:=by simp
  have ac:=Row.one (base:=w.heap.size+1) ekS (wr.alloc (.cells #[.string (S a.name),.slice ai ni ci] 92)) a.name (by omega);rw[bg] at ac;have aj:=(zH _ _).alloc (zG _) (.cells #[.string (S a.name)] 9) (w:=wr.alloc (.cells #[.string (S a.name),.slice ai ni ci] 92));have hrow4:=(hrow.bL ak).bL aj;have ag:Below (w.heap.size+1) W0 _:=(hbr.trans (ak.mono au)).trans (aj.mono (by omega));have ac:Row ekS ((wr.alloc (.cells #[.string (S a.name),.slice ai ni ci] 92)).alloc (.cells #[.string (S a.name)] 9)) (w.heap.size+1) (.slice (some ⟨wr.heap.size+1,0,none⟩) 1 1) [a.name]:=ac;clear hat;go_wp2_with (at_builtin;refine cQ rfl ekS _ _ rfl (w.heap.size+1) _ l2 [a.name] rfl hrow4 (w.heap.size+1) _ rfl ac ?e1 ?e2 ?_)
  case e1=>(try simp);omega
  case e2=>(try simp);omega
  intro v5 w5 bc ba;have hown:=hrow4.own;have aw:=ag.grown ba (by(try simp);omega) (fun k hk=>(hown k hk).1);have av:Hid (l2++[a.name]=g.mG.map MI.name++(g.enums.take (k2+1)).map EI.name):=by show _=_;rw[HL.out,vX Ha.out];simp
  clear hown ac hrow4 ag;go_wp2_with fail
  go_roundg (n2-(k2+1))
  case measure=>omega
  case rel=>exact⟨k2+1,l2++[a.name],by omega,by go_num,bc,av,aw⟩
 have bn:Hid (l2=rX g):=by show _=_;rw[HL.out,uP (by rw[←H2.out];omega)];rfl
 go_wp2;go_ret;exact⟨_,_,_,rfl,by rw[←bn.out];exact hrow.rdS,ah⟩
def sW (g:GI):Nat→List MI→Option (Int×Nat)
 | _,[]=>none
 | i,m::r=>if rE g m≠0 then some (rE g m,i) else sW g (i+1) r
def tO:Nat→List EI→Option (Int×Nat)
 | _,[]=>none
 | i,e::r=>if pC e≠0 then some (pC e,i) else tO (i+1) r
def yB (g:GI):Int×Nat:=
 if 10<g.mG.length+g.enums.length then(5,0)
 else if (xC pJ [7] 0 (rX g) []).1≠0 then xC pJ [7] 0 (rX g) []
 else match sW g 0 g.mG with
  | some q=>q
  | none=>match tO 0 g.enums with
   | some q=>(q.1,g.mG.length+q.2)
   | none=>(0,0)
def Fits (g:GI):Prop:=(∀ m∈g.mG,m.name.length≤9223372036854775807∧∀ f∈m.fD,f.name.length≤9223372036854775807)∧∀ e∈g.enums,e.name.length≤9223372036854775807∧∀ i∈e.items,i.name.length≤9223372036854775807
theorem Fits.names (h:Fits g):∀ s∈rX g,s.length≤9223372036854775807:=by
 intro s hs;rcases zU.1 hs with hs|hs
 ·obtain⟨m,hm,rfl⟩:=vT.1 hs;exact(h.1 m hm).1
 obtain⟨m,hm,rfl⟩:=vT.1 hs;exact(h.2 m hm).1
theorem B8a {l:List MI}{m:MI}(h:l[k]?=some m):sW g k (l.drop k)=if rE g m≠0 then some (rE g m,k) else sW g (k+1) (l.drop (k+1)):=by
 obtain⟨hk,e⟩:=yG.1 h;rw[uQ hk,e,sW]
theorem B4d {l:List EI}{m:EI}(h:l[k]?=some m):tO k (l.drop k)=if pC m≠0 then some (pC m,k) else tO (k+1) (l.drop (k+1)):=by
 obtain⟨hk,e⟩:=yG.1 h;rw[uQ hk,e,tO]
theorem qP {x:World}(h:zB w x)(a b:Value):zB w ((x.setCell ⟨w.heap.size+1,0,none⟩ a).setCell ⟨w.heap.size+1,1,none⟩ b):=
 (h.setCell (p:=⟨w.heap.size+1,0,none⟩) (show w.heap.size≤w.heap.size+1 by omega) a).setCell (p:=⟨w.heap.size+1,1,none⟩) (show w.heap.size≤w.heap.size+1 by omega) b
theorem B6x (hg:GRd w vm ve g)(ee:g.mG.length≤140737488355328)(ei:g.enums.length≤140737488355328)(hf:Fits g) :
  Calls Tryz.prog 19 #[.agg #[vm,ve]] w fun e w'=>e = .returned (.agg #[.int .i64 (yB g).1,.int .i64 (((yB g).2:Nat):Int)])∧zB w w':=by
 obtain⟨a1,n1,c1,rfl,H1,_⟩:=hg.1.sH;obtain⟨a2,n2,c2,rfl,H2,_⟩:=hg.2.sH;obtain⟨W2,bn,hb2,-,hx1,hx2⟩:=uD w (.cells #[.slice a1 n1 c1,.slice a2 n2 c2] 25) (.cells #[.int .i64 0,.int .i64 0] 54);have hz2:W2.heap.size=w.heap.size+2:=by rw[bn.out];simp
 have bc:=B9x (w:=W2) (a1:=a1) (a2:=a2) (c1:=c1) (c2:=c2) (show n1≤140737488355328 by rw[H1.out];exact ee) (show n2≤140737488355328 by rw[H2.out];exact ei);have ac:=fun W (hW:Below (w.heap.size+2) W2 W)=>yH ((zN hW).trans hx1) (yH ((zN hW).trans hx2) (hb2.trans (hW.mono (by omega))))
 by_cases hbig:10<n1+n2
 ·have HE:Hid (yB g=(5,0)):=by show _=_;rw[yB,zF (by rw[←H1.out,←H2.out];exact hbig)]
  rw[show decide (10<n1+n2)=true by simp;omega] at bc;go_enter Tryz.func19,Tryz.ntmps19;go_wp2_with fail
  rw[←bn.out];refine bc.mono ?_;rintro e w1 ⟨rfl,hb1⟩;obtain⟨_,y2,aj⟩:=ac w1 (hb1.mono (by omega));obtain⟨z0,z1⟩:=zO y2;have f0:=zJ y2 0;have f1:=zJ y2 1;clear ac bc;go_wp2;refine bodyPost_ret (v:=.agg #[.int .i64 5,.int .i64 0]) (by simp[results,Tryz.results19,go_sem, *]) rfl ?_;exact⟨by rw[HE.out];rfl,qP aj _ _⟩
 have hno:¬ 10<g.mG.length+g.enums.length:=by rw[←H1.out,←H2.out];exact hbig
 rw[show decide (10<n1+n2)=false by simp;omega] at bc;have eh:n1≤10:=by omega
 have eo:n2≤10:=by omega
 go_enter Tryz.func19,Tryz.ntmps19;go_wp2_with fail
 rw[←bn.out];refine bc.mono ?_;rintro e w1 ⟨rfl,hb1⟩;have bl:Below (w.heap.size+2) W2 w1:=hb1.mono (by omega);obtain⟨y1,y2,aj⟩:=ac w1 bl;obtain⟨u0,u1⟩:=zO y1;have dn:=C9s (hg.bL aj) (by rw[←H1.out];omega) (by rw[←H2.out];omega);clear bc;go_wp2_with fail
 refine dn.mono ?_;rintro e w3 ⟨an,nn,cn,rfl,dw,hb3⟩;have bu:=bl.trans (hb3.mono (by have:=bl.size;omega));have dp:=B5z w3;have dm:=B8b dw (by simp[rX];rw[←H1.out,←H2.out];omega) hf.names;clear u0 u1 y1 y2 dn;go_wp2_with fail
 refine dp.mono ?_;rintro e w4 ⟨rfl,hw4⟩;go_wp2_with fail
 rw[←hw4];refine dm.mono ?_;rintro e w5 ⟨rfl,di⟩;have cg:=bu.trans (di.mono (by have:=bu.size;omega));generalize hp:xC pJ [7] 0 (rX g) []=p;obtain⟨pe,pi⟩:=p;have HP:=zI hp;clear hp dm dp hw4;obtain⟨W6,bk,dl,dx,-⟩:=zV w5 (.cells #[.int .i64 pe,.int .i64 (pi:Int)] 54);have cj:=cg.trans (dl.mono (by have:=cg.size;omega));obtain⟨y1,y2,bh⟩:=ac W6 cj;by_cases hpe:pe=0
 ·have dz:Hid ((xC pJ [7] 0 (rX g) []).1=0):=by show _=_;rw[HP.out];exact hpe
  have eu:(pe != 0)=false:=by simp[hpe]
  have HE:Hid (yB g=match sW g 0 (g.mG.drop 0) with|some q=>q|none=>match tO 0 g.enums with|some q=>(q.1,g.mG.length+q.2)|none=>(0,0)):=by
   show _=_;rw[yB,zC hno,zC (by rw[dz.out];simp)];rfl
  obtain⟨u0,u1⟩:=zO y1;rw[bk.out] at u0 u1;clear hpe HP y1 y2;go_wp2_with fail
  rw[←bk.out];go_loopg [24] n1 (fun m i wr=>∃ k:Nat,k+m=n1∧i = .int .i64 k∧Hid (yB g=match sW g k (g.mG.drop k) with|some q=>q|none=>match tO 0 g.enums with|some q=>(q.1,g.mG.length+q.2)|none=>(0,0))∧Below (w.heap.size+2) W2 wr)
  case atStart=>exact⟨0,by omega,rfl,HE,cj⟩
  clear u0 u1 HE cj dl dx bh cg di bu hb3 bl hb1 dw aj;obtain⟨k,hk,rfl,HK,ah⟩:=hrel;obtain⟨y1,y2,aj⟩:=ac wr ah;obtain⟨u0,u1⟩:=zO y1;obtain⟨z0,z1⟩:=zO y2;have f0:=zJ y2 0;have f1:=zJ y2 1;have bg:w.heap.size+2≤wr.heap.size:=by have:=ah.size;omega
  by_cases hlt:k<n1
  ·obtain⟨a,Ha⟩:=yE (l:=g.mG) (k:=k) (by rw[←H1.out];exact hlt);obtain⟨b,off,rfl,hat⟩:=(hg.bL aj).1.get MAt.plain Ha.out;obtain⟨vf,vb,s0,s1,s2,dt,dr⟩:=hat.at;obtain⟨af,nf,cf,rfl,_,_⟩:=dt.sH;obtain⟨ab,nb,cb,rfl,_,_⟩:=dr.sH;have d9:(k:Int)<(n1:Int):=by omega
   have au:=(zH wr.heap.size wr).alloc (zG _) (.cells #[.string (S a.name),.slice af nf cf,.slice ab nb cb] 35);have ew:=(au.block w.heap.size (by omega)).trans y1;obtain⟨u2,u3⟩:=zO ew;have dg:=B0y a ((hg.bL aj).bL au) (dt.bL FAt.sT au) (dr.bL NAt.sT au) (hf.1 a (uO Ha.out)).2;obtain⟨q,HQ⟩:=zM (rE g a);have ag:=HK.out;rw[B8a Ha.out,←HQ.out] at ag;rw[←HQ.out] at dg;clear hat HK;by_cases hq:q=0
   ·have av:Hid (yB g=match sW g (k+1) (g.mG.drop (k+1)) with|some q=>q|none=>match tO 0 g.enums with|some q=>(q.1,g.mG.length+q.2)|none=>(0,0)):=by
     show _=_;rw[ag,zC (by simp[hq])]
    have cw:(q != 0)=false:=by simp[hq]
    clear ag hq ac;go_wp2_with fail
    refine dg.mono ?_;rintro e w7 ⟨rfl,aw⟩;go_wp2_with fail
    go_roundg (n1-(k+1))
    case measure=>omega
    case rel=>exact⟨k+1,by omega,by go_num,av,(ah.trans (au.mono bg)).trans (aw.mono (by simp;omega))⟩
   have av:Hid (yB g=(q,k)):=by show _=_;rw[ag,zF hq]
   have cw:(q != 0)=true:=by simp[hq]
   have ak:=ac;clear ag hq ac;go_wp2_with fail
   refine dg.mono ?_;rintro e w7 ⟨rfl,aw⟩;have cu:=(ah.trans (au.mono bg)).trans (aw.mono (by simp;omega));obtain⟨_,y3,ba⟩:=ak w7 cu;obtain⟨z3,z4⟩:=zO y3;have f3:=zJ y3 0;have f4:=zJ y3 1;clear ak z0 z1 f0 f1;go_wp2;refine bodyPost_ret (v:=.agg #[.int .i64 q,.int .i64 (k:Int)]) (by simp[results,Tryz.results19,go_sem, *]) rfl ?_;exact⟨by rw[av.out],qP ba _ _⟩
  have dh:Hid (yB g=match tO 0 (g.enums.drop 0) with|some q=>(q.1,g.mG.length+q.2)|none=>(0,0)):=by
   have e:g.mG.drop k = []:=sF (by rw[←H1.out];omega);show _=_;rw[HK.out,e];rfl
  clear HK;go_wp2_with fail
  go_loopg [41] n2 (fun m i wr=>∃ k:Nat,k+m=n2∧i = .int .i64 k∧Hid (yB g=match tO k (g.enums.drop k) with|some q=>(q.1,g.mG.length+q.2)|none=>(0,0))∧Below (w.heap.size+2) W2 wr)
  case atStart=>exact⟨0,by omega,rfl,dh,ah⟩
  clear u0 u1 z0 z1 f0 f1 y1 y2 aj ah dh bg;obtain⟨k2,hk2,rfl,HK,ah⟩:=hrel;obtain⟨y1,y2,aj⟩:=ac wr ah;obtain⟨u0,u1⟩:=zO y1;obtain⟨z0,z1⟩:=zO y2;have f0:=zJ y2 0;have f1:=zJ y2 1;have bg:w.heap.size+2≤wr.heap.size:=by have:=ah.size;omega
  by_cases hlt2:k2<n2
  ·obtain⟨a,Ha⟩:=yE (l:=g.enums) (k:=k2) (by rw[←H2.out];exact hlt2);obtain⟨b,off,rfl,hat⟩:=(hg.bL aj).2.get EAt.plain Ha.out;obtain⟨vi,s0,s1,dv⟩:=hat.at;obtain⟨ai,ni,ci,rfl,_,_⟩:=dv.sH;have d9:(k2:Int)<(n2:Int):=by omega
   have au:=(zH wr.heap.size wr).alloc (zG _) (.cells #[.string (S a.name),.slice ai ni ci] 92);have df:=B6u a (dv.bL TAt.sT au) (hf.2 a (uO Ha.out)).2;obtain⟨q,HQ⟩:=zM (pC a);have ag:=HK.out;rw[B4d Ha.out,←HQ.out] at ag;rw[←HQ.out] at df;clear hat HK;by_cases hq:q=0
   ·have av:Hid (yB g=match tO (k2+1) (g.enums.drop (k2+1)) with|some q=>(q.1,g.mG.length+q.2)|none=>(0,0)):=by
     show _=_;rw[ag,zC (by simp[hq])]
    have cw:(q != 0)=false:=by simp[hq]
    clear ag hq ac;go_wp2_with fail
    refine df.mono ?_;rintro e w7 ⟨rfl,aw⟩;go_wp2_with fail
    go_roundg (n2-(k2+1))
    case measure=>omega
    case rel=>exact⟨k2+1,by omega,by go_num,av,(ah.trans (au.mono bg)).trans (aw.mono (by simp;omega))⟩
   have av:Hid (yB g=(q,n1+k2)):=by show _=_;rw[ag,zF hq,H1.out]
   have cw:(q != 0)=true:=by simp[hq]
   have ak:=ac;clear ag hq ac;go_wp2_with fail
   refine df.mono ?_;rintro e w7 ⟨rfl,aw⟩;have cu:=(ah.trans (au.mono bg)).trans (aw.mono (by simp;omega));obtain⟨y4,y3,ba⟩:=ak w7 cu;obtain⟨z3,z4⟩:=zO y3;obtain⟨z5,z6⟩:=zO y4;have f3:=zJ y3 0;have f4:=zJ y3 1;clear ak z0 z1 f0 f1 u0 u1;go_wp2;refine bodyPost_ret (v:=.agg #[.int .i64 q,.int .i64 ((n1:Int)+(k2:Int))]) (by simp[results,Tryz.results19,go_sem, *]) rfl ?_;exact⟨by rw[av.out];simp,qP ba _ _⟩
  have dy:Hid (yB g=(0,0)):=by
   have e:g.enums.drop k2 = []:=sF (by rw[←H2.out];omega);show _=_;rw[HK.out,e];rfl
  clear HK ac;go_wp2;refine bodyPost_ret (v:=.agg #[.int .i64 0,.int .i64 0]) (by simp[results,Tryz.results19,go_sem, *]) rfl ?_;exact⟨by rw[dy.out];rfl,qP aj _ _⟩
 have HE:Hid (yB g=(pe,pi)):=by show _=_;rw[yB,zC hno,zF (by rw[HP.out];exact hpe),HP.out]
 have eu:(pe != 0)=true:=by simp[hpe]
 obtain⟨z0,z1⟩:=zO y2;obtain⟨z2,z3⟩:=zO dx;have f0:=zJ y2 0;have f1:=zJ y2 1;rw[bk.out] at z0 z1 z2 z3 f0 f1;clear hpe HP ac;go_wp2;refine bodyPost_ret (v:=.agg #[.int .i64 pe,.int .i64 (pi:Int)]) (by simp[results,Tryz.results19,go_sem, *]) rfl ?_;exact⟨by rw[HE.out],by rw[←bk.out];exact qP bh _ _⟩
open Go.ChangeShapes Go.WideShapes Go.ChangeAt Go.RowKit
section
variable{fuel:Nat}{t:TypeId}{c:Value}
variable {H:Type}{enc:TypeId×Value→H}{w:World}{base:Nat}{spare:Nat→Bool}{held:Bool}
def Sz (t:TypeId)(d:DataW H):Prop:=∀ n∈d.weights Tryz.prog t,n≤reachBytes
theorem C7i {e:TypeId}:∀ {l:List (DataW H)}{d:DataW H},d∈l→∀ n∈d.weights Tryz.prog e,n∈DataW.weightsAll Tryz.prog e l
 | [],_,h,_,_=>by simp at h
 | x::l,d,h,n,hn=>by
  simp only[DataW.weightsAll,zU]
  rcases yY.1 h with rfl|h
  ·exact .inl hn
  ·exact .inr (C7i h n hn)
theorem cK {α:Type}{P:World→Addr→α→Prop}{Q : α→Prop}{sz bytes:Nat}{e:TypeId}(ht:Tryz.prog.underlying t=some (.slice e))(hc:Tryz.prog.cellsOf e=sz)(hby:Tryz.prog.bytesOf e=bytes)(dflt : α)
  (ac:∀ (fuel:Nat) (a:Addr) (cs:List Value) (d:DataW H) (pl:List MemPlace),w.cells? base a sz=some cs→DataW.trod enc Tryz.prog w base spare held fuel e cs=some (d,pl)→Sz e d→∃ y,P w a y∧Q y)
  {cs:List Value}{d:DataW H}{pl:List MemPlace}(h:DataW.trod enc Tryz.prog w base spare held fuel t cs=some (d,pl)) (hsz:Sz t d) :
  ∃ v l,cs = [v]∧RdL sz P w v l∧(∀ y∈l,Q y)∧l.length*bytes≤reachBytes:=by
 rcases Go.Deep.open_slice ht h with⟨hcs,_⟩|⟨a,len,cap,m,n,D,Pl,hcs,_,hl,hm,hmm,hx,hels⟩
 ·exact⟨_,[],hcs,RdL.nil _ _ _,fun y hy=>by simp at hy,by simp⟩
 ·rw[hc] at hels;have hd:=(Prod.mk.inj hx).1;have ah:len≤m:=by rw[hmm];split <;> omega
  have hw:(len+(m-len))*bytes≤reachBytes:=by
   refine hsz _ ?_;rw[hd,DataW.weights,ht];simp[hby]
  have hex:∀ i,i<len→∃ y,P w (a.add (i*sz)) y∧Q y:=by
   intro i hi;obtain⟨cs',h1,h2⟩:=hels i (by omega);refine ac n _ cs' (D i) (Pl i) h1 h2 ?_;intro q hq;refine hsz q ?_;rw[hd,DataW.weights,ht];simp only[yY,zU];exact .inr (.inl (C7i (vT.2 ⟨i,List.mem_range.2 hi,rfl⟩) q hq))
  obtain⟨f,hf⟩:∃ f:Nat→α,∀ i,i<len→P w (a.add (i*sz)) (f i)∧Q (f i):=by
   refine⟨fun i=>if hi:i<len then Classical.choose (hex i hi) else dflt,fun i hi=>?_⟩;simp only[dif_pos hi];exact Classical.choose_spec (hex i hi)
  refine⟨_,(List.range len).map f,hcs,⟨some a,len,cap,rfl,by simp,hl,hm,fun h=>(by cases h),?_⟩,?_,?_⟩
  ·intro x ag k y hy;cases ag
   rw[sE] at hy;by_cases hk:k<len
   ·rw[List.getElem?_range hk] at hy;cases hy
    exact(hf k hk).1
   ·rw[eN (by simp;omega)] at hy;cases hy
  ·intro y hy;obtain⟨i,hi,rfl⟩:=vT.1 hy;exact(hf i (List.mem_range.1 hi)).2
  ·simp only[yX,List.length_range];exact yN (qV _ (Nat.le_add_right _ _)) hw
theorem dW {x:DataW H×List MemPlace}(h:DataW.trod enc Tryz.prog w base spare held fuel 9 [c]=some x):∃ s:List UInt8,c = .string (S s)∧s.length≤maxLen:=by
 obtain⟨s,h1,_,h2⟩:=DataW.trod_string Tryz.underlying9 h;simp at h1;refine⟨s.data.toList,by rw[h1];simp[S],?_⟩;rw[Array.length_toList];exact h2
theorem jB {x:DataW H×List MemPlace}(h:DataW.trod enc Tryz.prog w base spare held fuel 3 [c]=some x):∃ n:Int,c = .int .i64 n∧I64 n:=by
 obtain⟨n,h1,_,h2⟩:=DataW.trod_int Tryz.underlying3 h;simp at h1;exact⟨n,h1,by have:=bounds_i64 h2;unfold I64;omega⟩
theorem C9w {x:DataW H×List MemPlace}(h:DataW.trod enc Tryz.prog w base spare held fuel 4 [c]=some x):∃ b:Bool,c = .bool b:=by
 obtain⟨b,h1,_⟩:=DataW.trod_bool Tryz.underlying4 h;simp at h1;exact⟨b,h1⟩
theorem dN {fs:Array Field}{xs:List (DataW H×List MemPlace)}(ht:Tryz.prog.underlying t=some (.struct fs))(h:Sz t (.agg (xs.map (·.1)))){i:Nat}{f:Field}{y:DataW H×List MemPlace}(hf:fs[i]?=some f)(hy:xs[i]?=some y):Sz f.type y.1:=by
 intro n hn;refine h n ?_;rw[DataW.weights,ht];refine DataW.weights_mem_each (j:=i) ?_ ?_ n hn
 ·rw[sE,bN,hf];rfl
 rw[sE,hy];rfl
def FOk (f:FI):Prop:=f.name.length≤maxLen∧f.type.length≤maxLen∧I64 f.nU∧I64 f.kind∧I64 f.cE
theorem XN{P:Prop}(h:P:=by
 have:=hcell 0 (by omega);simpa [Addr.add] using this):P:=h
theorem D4t (fuel:Nat)(a:Addr)(cs:List Value)(d:DataW H)(pl:List MemPlace)(hc:w.cells? base a 6=some cs)(h:DataW.trod enc Tryz.prog w base spare held fuel 47 cs=some (d,pl))(_:Sz 47 d):∃ y,FAt w a y∧FOk y:=by
 obtain⟨_,hlen,hcell⟩:=oR hc;obtain⟨xs,n,_,_,_,ac,hf⟩:=DataW.trod_struct Tryz.underlying47 h
 match cs,hlen with
 | [v0,v1,v2,v3,v4,v5],_=>
 have ag:xs.length=6:=ac;have f0:DataW.trod enc Tryz.prog w base spare held n 9 [v0]=xs[0]?:=hf 0 _ rfl;have f1:DataW.trod enc Tryz.prog w base spare held n 3 [v1]=xs[1]?:=hf 1 _ rfl;have f2:DataW.trod enc Tryz.prog w base spare held n 3 [v2]=xs[2]?:=hf 2 _ rfl;have f3:DataW.trod enc Tryz.prog w base spare held n 9 [v3]=xs[3]?:=hf 3 _ rfl;have f4:DataW.trod enc Tryz.prog w base spare held n 4 [v4]=xs[4]?:=hf 4 _ rfl;have f5:DataW.trod enc Tryz.prog w base spare held n 3 [v5]=xs[5]?:=hf 5 _ rfl;rw[vG (by omega)] at f0 f1 f2 f3 f4 f5;obtain⟨s0,rfl,z0⟩:=dW f0;obtain⟨n1,rfl,z1⟩:=jB f1;obtain⟨n2,rfl,z2⟩:=jB f2;obtain⟨s3,rfl,z3⟩:=dW f3;obtain⟨b4,rfl⟩:=C9w f4;obtain⟨n5,rfl,z5⟩:=jB f5;refine⟨⟨s0,n1,n2,s3,b4,n5⟩,⟨?_,hcell 1 (by omega),hcell 2 (by omega),hcell 3 (by omega),hcell 4 (by omega),hcell 5 (by omega)⟩,z0,z3,z1,z2,z5⟩;exact XN
def TOk (i:II):Prop:=i.name.length≤maxLen∧I64 i.value
theorem D4u (fuel:Nat)(a:Addr)(cs:List Value)(d:DataW H)(pl:List MemPlace)(hc:w.cells? base a 2=some cs)(h:DataW.trod enc Tryz.prog w base spare held fuel 105 cs=some (d,pl))(_:Sz 105 d):∃ y,TAt w a y∧TOk y:=by
 obtain⟨_,hlen,hcell⟩:=oR hc;obtain⟨xs,n,_,_,_,ac,hf⟩:=DataW.trod_struct Tryz.underlying105 h
 match cs,hlen with
 | [v0,v1],_=>
 have ag:xs.length=2:=ac;have f0:DataW.trod enc Tryz.prog w base spare held n 9 [v0]=xs[0]?:=hf 0 _ rfl;have f1:DataW.trod enc Tryz.prog w base spare held n 3 [v1]=xs[1]?:=hf 1 _ rfl;rw[vG (by omega)] at f0 f1;obtain⟨s0,rfl,z0⟩:=dW f0;obtain⟨n1,rfl,z1⟩:=jB f1;refine⟨⟨s0,n1⟩,⟨?_,hcell 1 (by omega)⟩,z0,z1⟩;exact XN
theorem B6c (fuel:Nat)(a:Addr)(cs:List Value)(d:DataW H)(pl:List MemPlace)(hc:w.cells? base a 1=some cs)(h:DataW.trod enc Tryz.prog w base spare held fuel 3 cs=some (d,pl))(_:Sz 3 d):∃ y,NAt w a y∧I64 y:=by
 obtain⟨_,hlen,hcell⟩:=oR hc
 match cs,hlen with
 | [v0],_=>
 obtain⟨n1,rfl,z1⟩:=jB h;refine⟨n1,?_,z1⟩;have:=hcell 0 (by omega);simpa [Addr.add,NAt] using this
def MOk (m:MI):Prop:=m.name.length≤maxLen∧(∀ f∈m.fD,FOk f)∧(∀ n∈m.barred,I64 n)∧m.fD.length*64≤reachBytes∧m.barred.length*8≤reachBytes
theorem D4v (fuel:Nat)(a:Addr)(cs:List Value)(d:DataW H)(pl:List MemPlace)(hc:w.cells? base a 3=some cs)(h:DataW.trod enc Tryz.prog w base spare held fuel 35 cs=some (d,pl))(hsz:Sz 35 d):∃ y,MAt w a y∧MOk y:=by
 obtain⟨_,hlen,hcell⟩:=oR hc;obtain⟨xs,n,_,hx,_,ac,hf⟩:=DataW.trod_struct Tryz.underlying35 h;have hd:=(Prod.mk.inj hx).1;rw[hd] at hsz
 match cs,hlen with
 | [v0,v1,v2],_=>
 have ag:xs.length=3:=ac;have f0:DataW.trod enc Tryz.prog w base spare held n 9 [v0]=xs[0]?:=hf 0 _ rfl;have f1:DataW.trod enc Tryz.prog w base spare held n 32 [v1]=xs[1]?:=hf 1 _ rfl;have f2:DataW.trod enc Tryz.prog w base spare held n 33 [v2]=xs[2]?:=hf 2 _ rfl;rw[vG (by omega)] at f0 f1 f2;have q1:Sz 32 (xs[1]'(by omega)).1:=dN (i:=1) Tryz.underlying35 hsz rfl (vG (by omega));have q2:Sz 33 (xs[2]'(by omega)).1:=dN (i:=2) Tryz.underlying35 hsz rfl (vG (by omega));obtain⟨s0,rfl,z0⟩:=dW f0;obtain⟨u1,l1,e1,r1,k1,b1⟩:=cK (P:=FAt) (Q:=FOk) (sz:=6) (bytes:=64) Tryz.underlying32 (by kernel_rfl) (by kernel_rfl) ⟨[],0,0,[],false,0⟩ D4t f1 q1;obtain⟨u2,l2,e2,r2,k2,b2⟩:=cK (P:=NAt) (Q:=I64) (sz:=1) (bytes:=8) Tryz.underlying33 (by kernel_rfl) (by kernel_rfl) 0 B6c f2 q2;simp at e1 e2;subst e1 e2;refine⟨⟨s0,l1,l2⟩,⟨v1,v2,?_,hcell 1 (by omega),hcell 2 (by omega),r1,r2⟩,z0,k1,k2,b1,b2⟩;exact XN
def EOk (e:EI):Prop:=e.name.length≤maxLen∧(∀ f∈e.items,TOk f)∧e.items.length*24≤reachBytes
theorem D4s (fuel:Nat)(a:Addr)(cs:List Value)(d:DataW H)(pl:List MemPlace)(hc:w.cells? base a 2=some cs)(h:DataW.trod enc Tryz.prog w base spare held fuel 92 cs=some (d,pl))(hsz:Sz 92 d):∃ y,EAt w a y∧EOk y:=by
 obtain⟨_,hlen,hcell⟩:=oR hc;obtain⟨xs,n,_,hx,_,ac,hf⟩:=DataW.trod_struct Tryz.underlying92 h;have hd:=(Prod.mk.inj hx).1;rw[hd] at hsz
 match cs,hlen with
 | [v0,v1],_=>
 have ag:xs.length=2:=ac;have f0:DataW.trod enc Tryz.prog w base spare held n 9 [v0]=xs[0]?:=hf 0 _ rfl;have f1:DataW.trod enc Tryz.prog w base spare held n 90 [v1]=xs[1]?:=hf 1 _ rfl;rw[vG (by omega)] at f0 f1;have q1:Sz 90 (xs[1]'(by omega)).1:=dN (i:=1) Tryz.underlying92 hsz rfl (vG (by omega));obtain⟨s0,rfl,z0⟩:=dW f0;obtain⟨u1,l1,e1,r1,k1,b1⟩:=cK (P:=TAt) (Q:=TOk) (sz:=2) (bytes:=24) Tryz.underlying90 (by kernel_rfl) (by kernel_rfl) ⟨[],0⟩ D4u f1 q1;simp at e1;subst e1;refine⟨⟨s0,l1⟩,⟨v1,?_,hcell 1 (by omega),r1⟩,z0,k1,b1⟩;exact XN
def GOk (g:GI):Prop:=(∀ m∈g.mG,MOk m)∧(∀ e∈g.enums,EOk e)∧g.mG.length*64≤reachBytes∧g.enums.length*40≤reachBytes
theorem open_file {v:Value}{d:DataW H}{pl:List MemPlace}(h:DataW.trod enc Tryz.prog w base spare held fuel 25 v.cells.toList=some (d,pl))(hsz:Sz 25 d):∃ vm ve g,v = .agg #[vm,ve]∧GRd w vm ve g∧GOk g:=by
 obtain⟨xs,n,_,hx,hlen,ac,hf⟩:=DataW.trod_struct Tryz.underlying25 h;have hd:=(Prod.mk.inj hx).1;rw[hd] at hsz;have hl2:v.cells.toList.length=2:=hlen;generalize hcs:v.cells.toList=cs at hl2 hf
 match cs,hl2 with
 | [v0,v1],_=>
 have ag:xs.length=2:=ac;have f0:DataW.trod enc Tryz.prog w base spare held n 22 [v0]=xs[0]?:=hf 0 _ rfl;have f1:DataW.trod enc Tryz.prog w base spare held n 23 [v1]=xs[1]?:=hf 1 _ rfl;rw[vG (by omega)] at f0 f1;have q0:Sz 22 (xs[0]'(by omega)).1:=dN (i:=0) Tryz.underlying25 hsz rfl (vG (by omega));have q1:Sz 23 (xs[1]'(by omega)).1:=dN (i:=1) Tryz.underlying25 hsz rfl (vG (by omega));obtain⟨u0,l0,e0,r0,k0,b0⟩:=cK (P:=MAt) (Q:=MOk) (sz:=3) (bytes:=64) Tryz.underlying22 (by kernel_rfl) (by kernel_rfl) ⟨[],[],[]⟩ D4v f0 q0;obtain⟨u1,l1,e1,r1,k1,b1⟩:=cK (P:=EAt) (Q:=EOk) (sz:=2) (bytes:=40) Tryz.underlying23 (by kernel_rfl) (by kernel_rfl) ⟨[],[]⟩ D4s f1 q1;simp at e0 e1;subst e0 e1;refine⟨v0,v1,⟨l0,l1⟩,?_,⟨r0,r1⟩,k0,k1,b0,b1⟩;cases v <;> simp[Value.cells] at hcs
 rename_i cs;have:cs=#[v0,v1]:=by cases cs;simp_all
 rw[this]
theorem GOk.fits {g:GI}(h:GOk g):Fits g:=by
 have hm:maxLen≤9223372036854775807:=by unfold maxLen;omega
 exact⟨fun m ac=>⟨yN (h.1 m ac).1 hm,fun f hf=>yN ((h.1 m ac).2.1 f hf).1 hm⟩,fun e he=>⟨yN (h.2.1 e he).1 hm,fun i hi=>yN ((h.2.1 e he).2.1 i hi).1 hm⟩⟩
end
section
variable {H:Type}{enc:TypeId×Value→H}{w:World}{base:Nat}{spare:Nat→Bool}{held:Bool}
end
variable{β:Type}{msg n:Int}{v1 ve vl v0 vm v:Value}{ce nm c1 c0 base B B' cm c2 d gd ca n1 cl cf cb k fn cx c3 n2 c ag i nf nb n0 ne n3:Nat}{name t:List UInt8}{wE w w' V W:World}{cap ac xs:Array Value}{ms:List MI}{ae af a1 a0 a3 a2 am ab:Option Addr}{g:GI}{M m:MI}{bar:List Int}{fs:List FI}{x:FI}{f:List UInt8→β→Int}{Q:β→Prop}{l:List (VI β)}
theorem jJ {α:Type}(p : α→Bool):∀ l:List α,(yK p l = -1∧l.find? p=none)∨∃ (k:Nat) (x : α),yK p l=(k:Int)∧l[k]?=some x∧l.find? p=some x∧p x=true
 | []=>.inl ⟨rfl,rfl⟩
 | a::l=>by
  cases hp:p a with
  | true=>exact .inr ⟨0,a,by simp[yK,oW,hp],rfl,by simp[hp],hp⟩
  | false=>
   rcases jJ p l with⟨h1,h2⟩|⟨k,x,h1,h2,h3,h4⟩
   ·refine .inl ⟨?_,by simp[hp,h2]⟩
    unfold yK at h1 ⊢
    rw[oW,hp]
    cases h:l.findIdx? p with
    | none=>simp
    | some k=>rw[h] at h1;simp at h1
   ·refine .inr ⟨k+1,x,?_,by simpa using h2,by simp[hp,h3],h4⟩
    unfold yK at h1 ⊢
    rw[oW,hp]
    cases h:l.findIdx? p with
    | none=>rw[h] at h1;simp at h1
    | some k'=>rw[h] at h1;simp at h1 ⊢;omega
def uY {β:Type}(x:FI)(v:VI β)(f:List UInt8→β→Int)(s:Int×List Int):Nat→Int
 | 0=>if decide (v.nU≤s.1) then 2 else 0
 | 1=>if xG x v then 8 else 0
 | 2=>if vK x v then 5 else 0
 | 3=>if xQ x v then 2 else 0
 | 4=>yJ (yU x.kind) v.bits
 | 5=>yJ (wN x.kind) v.bytes
 | 6=>yJ (f x.type) v.subs
 | 7=>if decide (0<x.cE∧x.cE∈s.2) then 8 else 0
 | _=>0
def oQ {β:Type}(x:FI)(v:VI β)(s:Int×List Int):Nat→Int×List Int
 | 0=>s
 | j+1=>(v.nU,if j=7 then tF x s.2 else s.2)
structure Fx (c0 ca B:Nat) (w:World) (k:Nat) (xs:Array Value) (t:TypeId):Prop where
 at_:w.heap[k]?=some (.cells xs t (0,0))
 lt:k<B
 n0:k≠c0
 na:k≠ca
theorem Fx.stp {t:TypeId}{s:Int×List Int}(h:Fx c0 ca B w k xs t)(hs:Stp c0 ca B w s w'):Fx c0 ca B w' k xs t:=⟨hs.block h.at_ h.n0 h.na h.lt,h.lt,h.n0,h.na⟩
theorem Fx.bL {t:TypeId}(h:Fx c0 ca B w k xs t)(hb:zB w w'):Fx c0 ca B w' k xs t:=⟨(hb.block k (Array.getElem?_eq_some_iff.1 h.at_).1).trans h.at_,h.lt,h.n0,h.na⟩
def pt (k:Nat):Value:=.pointer (some ⟨k,0,none⟩)
def ckL (gd:Nat)(b e:Nat→Nat):List (Nat×Array Value):=[(186,#[pt (b 0),pt (e 0)]),(186,#[pt (b 1),pt (e 1)]),(186,#[pt (b 2),pt (e 2)]),(186,#[pt (b 3),pt (e 3)]),(132,#[]),(136,#[]),(140,#[pt gd]),(186,#[pt (b 7),pt (e 7)])]
def ckV (p:Nat×Array Value):Value:=.func (.func p.1) #[] p.2
structure CkM (c0 ca B fnD:Nat) (capD:Array Value) (g gd:Nat) (b e:Nat→Nat) (w:World):Prop where
 arr:Fx c0 ca B w g ((ckL gd b e).map ckV).toArray 181
 deep:Fx c0 ca B w gd #[.func (.func fnD) #[] capD] 123
 f0:Fx c0 ca B w (b 0) #[.func (.func 187) #[] #[pt c0]] 185
 f1:Fx c0 ca B w (b 1) #[.func (.func 129) #[] #[]] 185
 f2:Fx c0 ca B w (b 2) #[.func (.func 130) #[] #[]] 185
 f3:Fx c0 ca B w (b 3) #[.func (.func 131) #[] #[]] 185
 f7:Fx c0 ca B w (b 7) #[.func (.func 188) #[] #[pt ca]] 185
 x0:Fx c0 ca B w (e 0) #[.int .i64 2] 37
 x1:Fx c0 ca B w (e 1) #[.int .i64 8] 37
 x2:Fx c0 ca B w (e 2) #[.int .i64 5] 37
 x3:Fx c0 ca B w (e 3) #[.int .i64 2] 37
 x7:Fx c0 ca B w (e 7) #[.int .i64 8] 37
theorem CkM.stp {g:Nat}{b e:Nat→Nat}{s:Int×List Int}(h:CkM c0 ca B ag ac g gd b e w)(k:Stp c0 ca B w s w'):CkM c0 ca B ag ac g gd b e w':=
 ⟨h.arr.stp k,h.deep.stp k,h.f0.stp k,h.f1.stp k,h.f2.stp k,h.f3.stp k,h.f7.stp k,h.x0.stp k,h.x1.stp k,h.x2.stp k,h.x3.stp k,h.x7.stp k⟩
theorem CkM.bL {g:Nat}{b e:Nat→Nat}(h:CkM c0 ca B ag ac g gd b e w)(k:zB w w'):CkM c0 ca B ag ac g gd b e w':=
 ⟨h.arr.bL k,h.deep.bL k,h.f0.bL k,h.f1.bL k,h.f2.bL k,h.f3.bL k,h.f7.bL k,h.x0.bL k,h.x1.bL k,h.x2.bL k,h.x3.bL k,h.x7.bL k⟩
structure VRd {d:Nat}(w:World) (v:VI (BI d)) (a1:Option Addr) (n1 c1:Nat) (a2:Option Addr) (n2 c2:Nat) (a3:Option Addr) (n3 c3:Nat):Prop where
 r1:RdL 1 UAt w (.slice a1 n1 c1) v.bits
 r2:RdL 1 ZAt w (.slice a2 n2 c2) v.bytes
 r3:RdL 2 (BAt d) w (.slice a3 n3 c3) v.subs
 u:∀ n∈v.bits,n<18446744073709551616
 b1:n1≤140737488355328
 b2:n2≤140737488355328
 b3:n3≤140737488355328
theorem VRd.bL {v:VI (BI d)}(h:VRd w v a1 n1 c1 a2 n2 c2 a3 n3 c3)(hb:zB w w'):VRd w' v a1 n1 c1 a2 n2 c2 a3 n3 c3:=
 ⟨h.r1.bL UAt.sT hb,h.r2.bL ZAt.sT hb,h.r3.bL (BAt.sT d) hb,h.u,h.b1,h.b2,h.b3⟩
theorem C4f {ak:Nat}{ag:Array Value}{g:Nat}{b e:Nat→Nat}{s:Int×List Int}{v:VI (BI d)}{f:List UInt8→BI d→Int}(ac:CkM c0 ca B ak ag g gd b e V)(hv:VRd V v a1 n1 c1 a2 n2 c2 a3 n3 c3)(hT:Tabs V)(hl:s.2.length≤17592186044415)
  (aj:∀ (args:Array Value) (w:World),(callFunc ak args).run Tryz.prog w = .ok (.enter ak args) w) (ah:xG x v=false→Deeper d ak ag x.type (f x.type) v.subs V)
  (j:Nat) (p:Nat×Array Value) (hp:(ckL gd b e)[j]?=some p) (hm:Mm c0 ca B (oQ x v s j) V) (hz:∀ i,i<j→uY x v f s i=0) :
  (∀ (args:Array Value) (w:World),(callFunc p.1 args).run Tryz.prog w = .ok (.enter p.1 args) w)∧Calls Tryz.prog p.1 (#[vFI x,.agg #[.int .i64 v.nU,.slice a1 n1 c1,.slice a2 n2 c2,.slice a3 n3 c3]]++p.2) V fun r W'=>r = .returned (.int .i64 (uY x v f s j))∧Stp c0 ca B V (oQ x v s (j+1)) W':=by
 have H1:=zI hv.r1.len.1;have H2:=zI hv.r2.len.1;have H3:=zI hv.r3.len.1;have hw:∀ (args:Array Value) (w:World),(callFunc 186 args).run Tryz.prog w = .ok (.enter 186 args) w:=enters_of Tryz.func186 (by kernel_rfl) rfl
 match j,hp,hm,hz with
 | 0,hp,hm,_=>
  cases hp
  refine⟨hw,dR (s':=(v.nU,s.2)) (r:=decide (v.nU≤s.1)) hm (enters_of Tryz.func187 (by kernel_rfl) rfl) ac.f0.at_ ac.x0.at_ ac.x0.lt ac.x0.n0 ac.x0.na x v fun W hW=>?_⟩;exact D5n (hm.bL hW) x v
 | 1,hp,hm,_=>
  cases hp
  refine⟨hw,dR (s':=(v.nU,s.2)) (r:=xG x v) hm (enters_of Tryz.func129 (by kernel_rfl) rfl) ac.f1.at_ ac.x1.at_ ac.x1.lt ac.x1.n0 ac.x1.na x v fun W hW=>?_⟩;exact(C5m x v H1 H2 H3 hv.b1 hv.b2 hv.b3).mono fun _ _ h=>⟨h.1,Stp.of_below (hm.bL hW) h.2⟩
 | 2,hp,hm,_=>
  cases hp
  refine⟨hw,dR (s':=(v.nU,s.2)) (r:=vK x v) hm (enters_of Tryz.func130 (by kernel_rfl) rfl) ac.f2.at_ ac.x2.at_ ac.x2.lt ac.x2.n0 ac.x2.na x v fun W hW=>?_⟩;exact(D4k x v H1 H2 H3 hv.b1 hv.b2 hv.b3).mono fun _ _ h=>⟨h.1,Stp.of_below (hm.bL hW) h.2⟩
 | 3,hp,hm,_=>
  cases hp
  refine⟨hw,dR (s':=(v.nU,s.2)) (r:=xQ x v) hm (enters_of Tryz.func131 (by kernel_rfl) rfl) ac.f3.at_ ac.x3.at_ ac.x3.lt ac.x3.n0 ac.x3.na x v fun W hW=>?_⟩;have hv':=hv.bL hW;exact(B3f x v hv'.r1 hv'.r2 hv'.r3 hv.b1 hv.b2 hv.b3).mono fun _ _ h=>⟨h.1,Stp.of_below (hm.bL hW) h.2⟩
 | 4,hp,hm,_=>
  cases hp
  exact⟨enters_of Tryz.func132 (by kernel_rfl) rfl,(C4c x v hv.r1 hv.u).mono fun _ _ h=>⟨h.1,Stp.of_below hm h.2⟩⟩
 | 5,hp,hm,_=>
  cases hp
  exact⟨enters_of Tryz.func136 (by kernel_rfl) rfl,(C4d x v hv.r2 hT).mono fun _ _ h=>⟨h.1,Stp.of_below hm h.2⟩⟩
 | 6,hp,hm,hz=>
  cases hp
  have ho:xG x v=false:=by
   have:=hz 1 (by omega);cases h:xG x v with
   | false=>rfl
   | true=>simp[uY,h] at this
  exact⟨enters_of Tryz.func140 (by kernel_rfl) rfl,(C4e x v hv.r3 ac.deep.at_ aj (ah ho)).mono fun _ _ h=>⟨h.1,Stp.of_below hm h.2⟩⟩
 | 7,hp,hm,_=>
  cases hp
  refine⟨hw,dR (s':=(v.nU,tF x s.2)) (r:=decide (0<x.cE∧x.cE∈s.2)) hm (enters_of Tryz.func188 (by kernel_rfl) rfl) ac.f7.at_ ac.x7.at_ ac.x7.lt ac.x7.n0 ac.x7.na x v fun W hW=>?_⟩;exact D1v (s:=(v.nU,s.2)) (hm.bL hW) hl x v
 | j+8,hp,_,_=>
  rw[eN (by simp[ckL])] at hp;cases hp
def uA {β:Type}(fs:List FI)(f:List UInt8→β→Int)(v:VI β)(s:Int×List Int):Int:=
 match fs.find? (fun y=>decide (y.nU=v.nU)) with
 | none=>6
 | some x=>rO (uY x v f s) 0 8
def rS {β:Type}(fs:List FI)(v:VI β)(s:Int×List Int):Int×List Int:=
 match fs.find? (fun y=>decide (y.nU=v.nU)) with
 | none=>s
 | some x=>(v.nU,tF x s.2)
structure Ctx {d:Nat}(wE:World) (c0 ca B fnD:Nat) (capD:Array Value) (g gd:Nat) (b e:Nat→Nat) (cm cl:Nat) (nm:List UInt8) (af:Option Addr) (nf cf:Nat) (ab:Option Addr) (nb cb:Nat) (fs:List FI) (f:List UInt8→BI d→Int) (Q:BI d→Prop) (w:World):Prop where
 bL:zB wE w
 e0:wE.heap.size≤c0
 ea:wE.heap.size≤ca
 ck:CkM c0 ca B fnD capD g gd b e w
 m:Fx c0 ca B w cm #[.string (S nm),.slice af nf cf,.slice ab nb cb] 35
 l:Fx c0 ca B w cl #[.slice (some ⟨g,0,none⟩) 8 8] 125
 fD:RdL 6 FAt wE (.slice af nf cf) fs
 tabs:Tabs wE
 entD:∀ (args:Array Value) (w:World),(callFunc fnD args).run Tryz.prog w = .ok (.enter fnD args) w
 deeper:∀ x∈fs,∀ v:VI (BI d),(∀ s∈v.subs,Q s)→xG x v=false→Deeper d fnD capD x.type (f x.type) v.subs wE
theorem Ctx.stp {g:Nat}{b e:Nat→Nat}{nm:List UInt8}{f:List UInt8→BI d→Int}{Q:BI d→Prop}{s:Int×List Int}(h:Ctx wE c0 ca B ag ac g gd b e cm cl nm af nf cf ab nb cb fs f Q w)(k:Stp c0 ca B w s w'):Ctx wE c0 ca B ag ac g gd b e cm cl nm af nf cf ab nb cb fs f Q w':=
 ⟨h.bL.trans (k.bL h.e0 h.ea),h.e0,h.ea,h.ck.stp k,h.m.stp k,h.l.stp k,h.fD,h.tabs,h.entD,h.deeper⟩
theorem C6v {bk:Nat}{au:Array Value}{g:Nat}{b e:Nat→Nat}{nm:List UInt8}{f:List UInt8→BI d→Int}{Q:BI d→Prop}{s:Int×List Int}(hC:Ctx wE c0 ca B bk au g gd b e cm cl nm af nf cf ab nb cb fs f Q w)(hm:Mm c0 ca B s w)(hl:s.2.length≤17592186044415)
  {v:VI (BI d)}(hv:VRd wE v a1 n1 c1 a2 n2 c2 a3 n3 c3) (hQ:∀ s∈v.subs,Q s) :
  Calls Tryz.prog 124 #[.agg #[.int .i64 v.nU,.slice a1 n1 c1,.slice a2 n2 c2,.slice a3 n3 c3],.pointer (some ⟨cm,0,none⟩),.pointer (some ⟨cl,0,none⟩)] w
   fun r w'=>r = .returned (.int .i64 (uA fs f v s))∧∃ s',Stp c0 ca B w s' w'∧(uA fs f v s=0→s'=rS fs v s):=by
 obtain⟨W1,bc,hb1,x1,hz1⟩:=zV w (.cells #[.int .i64 v.nU,.slice a1 n1 c1,.slice a2 n2 c2,.slice a3 n3 c3] 63);have bl:=hC.bL.trans (hb1.mono hC.bL.size);have aj:=iU (hC.fD.bL FAt.sT bl) ⟨ab,nb,cb,rfl⟩ ⟨nm,rfl⟩ v.nU;have m0:w.cell? ⟨cm,0,none⟩=some (.string (S nm)):=zL hC.m.at_ 0 _ rfl;have m1:w.cell? ⟨cm,1,none⟩=some (.slice af nf cf):=zL hC.m.at_ 1 _ rfl;have m2:w.cell? ⟨cm,2,none⟩=some (.slice ab nb cb):=zL hC.m.at_ 2 _ rfl;have cj:=(Array.getElem?_eq_some_iff.1 hC.m.at_).1;have cg:=(Array.getElem?_eq_some_iff.1 hC.l.at_).1;rcases jJ (fun y:FI=>decide (y.nU=v.nU)) fs with⟨h1,h2⟩|⟨k,x,h1,h2,h3,h4⟩
 ·have HR:Hid (uA fs f v s=6):=by show _=_;unfold uA;rw[h2]
  rw[HR.out];rw[h1] at aj;clear h1 h2;go_enter Tryz.func124,Tryz.ntmps124;go_wp2_with fail
  rw[←bc.out];refine aj.mono ?_;rintro r w2 ⟨rfl,hb2⟩;go_wp2;go_ret;refine⟨rfl,s,Stp.of_below hm (hb1.trans ((hb2.mono hb1.size).alloc (yN hb1.size hb2.size) _)),fun h=>by cases h⟩
 ·have HR:Hid (uA fs f v s=rO (uY x v f s) 0 8):=by show _=_;unfold uA;rw[h3]
  have HN:Hid (rS fs v s=oQ x v s 8):=by show _=_;unfold rS;rw[h3];rfl
  rw[HR.out,HN.out];rw[h1] at aj;have hx:=xV h2;have HK:=zI h2;clear h1 h2 h3 h4;go_enter Tryz.func124,Tryz.ntmps124;go_wp2_with fail
  rw[←bc.out];refine aj.mono ?_;rintro r w2 ⟨rfl,hb2⟩;obtain⟨W3,bg,aw,x3,-⟩:=zV w2 (.cells #[.int .i64 (k:Int)] 3);have ag:=hb2.trans (aw.mono hb2.size);have hb3:=hb1.trans (ag.mono hb1.size);have y3:=(zN ag).trans x1;have hs3:=Stp.of_below hm hb3;have ak:=hC.stp hs3;have hw2:=yN hb1.size hb2.size;have ac:=B9w (g:=g) (cm:=cm) (ct:=w2.heap.size) (cv:=w.heap.size) (ckL gd b e) (oQ x v s) (uY x v f s) (by simp[ckL]) hs3.mm (w:=W3)
   (fun s' W hS j p hp=>by
    have:=(ak.stp hS).ck.arr.at_;refine zL this j _ ?_;rw[bP,sE,hp];rfl)
   (fun j p W hp hS hz=>by
    have hCW:=ak.stp hS;have hD:zB W W.drew:=(zH _ _).drew;have bh:=Stp.of_below hS.mm hD;have av:=hCW.bL.trans (hD.mono hCW.bL.size);obtain⟨ba,ah⟩:=C4f (hCW.ck.bL hD) (hv.bL av) (hC.tabs.bL av) hl hC.entD (fun ho=>(hC.deeper x hx v hQ ho).bL av) j p hp bh.mm hz;exact C8m (post:=fun w'=>Stp c0 ca B W (oQ x v s (j+1)) w') hCW.m.at_ (Stp.block' hm hb3 hS x3 hw2) (Stp.block' hm hb3 hS y3 (zG _)) (hC.fD.bL FAt.sT hCW.bL) HK.out ba (ah.mono fun _ _ h=>⟨h.1,bh.trans h.2⟩))
  have k3:W3.cell? ⟨cl,0,none⟩=some (.slice (some ⟨g,0,none⟩) 8 8):=zL ak.l.at_ 0 _ rfl;have q3:W3.cell? ⟨w2.heap.size,0,none⟩=some (.int .i64 (k:Int)):=zL x3 0 _ rfl;have hlen:(ckL gd b e).length=8:=rfl;rw[hlen] at ac;have cu:¬ ((k:Int)<0):=by omega
  have cw:=tM;rw[bg.out] at k3 q3;clear aj hC ak hv x1 x3 y3;go_wp2_with fail
  rw[←bg.out];refine ac.mono ?_;rintro r w4 ⟨rfl,s',bu,bn⟩;go_wp2;go_ret;exact⟨rfl,s',hs3.trans bu,bn⟩
def vP {β:Type}(fs:List FI)(f:List UInt8→β→Int):List (VI β)→Int×List Int→Int
 | [],_=>0
 | v::l,s=>if uA fs f v s=0 then vP fs f l (rS fs v s) else uA fs f v s
theorem C3n {v:VI β}(h:l[k]?=some v)(s:Int×List Int):vP fs f (l.drop k) s=if uA fs f v s=0 then vP fs f (l.drop (k+1)) (rS fs v s) else uA fs f v s:=by
 obtain⟨hk,e⟩:=yG.1 h;rw[uQ hk,e,vP]
theorem C9t (fs:List FI)(v:VI β)(s:Int×List Int):(rS fs v s).2.length≤s.2.length+1:=by
 unfold rS;split
 ·omega
 unfold tF;split <;> simp
theorem D6g {aw:Nat}{ah:Array Value}{g:Nat}{b e:Nat→Nat}{nm:List UInt8}{f:List UInt8→BI d→Int}{Q:BI d→Prop}{s:Int×List Int}(hC:Ctx wE c0 ca B aw ah g gd b e cm cl nm af nf cf ab nb cb fs f Q w)(hm:Mm c0 ca B s w)(hs0:s.2 = [])
  {l:List (VI (BI d))}(h:RdL 4 (VAt (BAt d)) wE vl l) (hV:∀ v∈l,VOk Q v) (hlen:l.length*80≤reachBytes) :
  Calls Tryz.prog 123 #[vl,.func (.func 124) #[] #[.pointer (some ⟨cm,0,none⟩),.pointer (some ⟨cl,0,none⟩)]] w
   fun r w'=>r = .returned (.int .i64 (vP fs f l s))∧∃ s',Stp c0 ca B w s' w':=by
 obtain⟨ao,n,cap,rfl,Hn,bc⟩:=h.sH;have hn:n*80≤reachBytes:=by rw[Hn.out];exact hlen
 unfold reachBytes at hn;obtain⟨R,HR⟩:=zM (vP fs f l s);rw[←HR.out];have ba:s.2.length≤0:=by rw[hs0];simp
 go_enter Tryz.func123,Tryz.ntmps123;go_wp2_with fail
 go_loopg [10] n (fun m i wr=>∃ (k:Nat) (s':Int×List Int),k+m=n∧i = .int .i64 k∧Hid (R=vP fs f (l.drop k) s')∧s'.2.length≤k∧Stp c0 ca B w s' wr)
 case atStart=>exact⟨0,s,by omega,rfl,HR,ba,Stp.refl hm⟩
 case round=>
  obtain⟨k,s',hk,rfl,HK,hsk,hS⟩:=hrel;have ag:=hC.stp hS;by_cases hlt:k<n
  ·obtain⟨v,Ha⟩:=yE (l:=l) (k:=k) (by rw[←Hn.out];exact hlt);obtain⟨bb,off,rfl,hat⟩:=h.get VAt.plain Ha.out;obtain⟨v1,v2,v3,t0,t1,t2,t3,r1,r2,r3⟩:=hat.at;obtain⟨a1,n1,c1,rfl,H1,_⟩:=r1.sH;obtain⟨a2,n2,c2,rfl,H2,_⟩:=r2.sH;obtain⟨a3,n3,c3,rfl,H3,_⟩:=r3.sH;obtain⟨_,hu,hb1,_,hb2,hq,hb3⟩:=hV v (uO Ha.out);unfold reachBytes at hb1 hb2 hb3;have hv:VRd wE v a1 n1 c1 a2 n2 c2 a3 n3 c3:=⟨r1,r2,r3,hu,by rw[H1.out];omega,by rw[H2.out];omega,by rw[H3.out];omega⟩
   have u0:=zQ ag.bL t0;have u1:=zQ ag.bL t1;have u2:=zQ ag.bL t2;have u3:=zQ ag.bL t3;have bg:(k:Int)<(n:Int):=by omega
   obtain⟨W1,au,ak,-,-⟩:=zV wr (.cells #[.int .i64 v.nU,.slice a1 n1 c1,.slice a2 n2 c2,.slice a3 n3 c3] 63);have hS1:=Stp.of_below hS.mm ak;have ac:=C6v (ag.stp hS1) hS1.mm (by omega) hv hq;have hst:=C3n (fs:=fs) (f:=f) Ha.out s';have bh:=C9t fs v s';obtain⟨F,HF⟩:=zM (uA fs f v s');rw[←HF.out] at ac hst;clear hC ag hv r1 r2 r3 t0 t1 t2 t3 hat h hV hu hq;by_cases hz:F=0
   ·have HX:Hid (R=vP fs f (l.drop (k+1)) (rS fs v s')):=by
     show _=_;rw[HK.out,hst,zF hz]
    have ez:(F != 0)=false:=by simp[hz]
    have HZ:=zI hz;clear hst hz;go_wp2_with fail
    rw[←au.out];refine ac.mono ?_;rintro r w2 ⟨rfl,s2,aj,av⟩;go_wp2_with fail
    go_roundg (n-(k+1))
    case measure=>omega
    case rel=>
     obtain rfl:=av HZ.out;exact⟨k+1,_,by omega,by go_num,HX,by omega,(hS.trans hS1).trans aj⟩
   ·have HX:Hid (R=F):=by
     show _=_;rw[HK.out,hst,zC hz]
    have ez:(F != 0)=true:=by simpa using hz
    clear hst hz;go_wp2_with fail
    rw[←au.out];refine ac.mono ?_;rintro r w2 ⟨rfl,s2,aj,av⟩;go_wp2;go_ret;exact⟨by rw[HX.out];rfl,_,(hS.trans hS1).trans aj⟩
  ·have HX:Hid (R=0):=by
    show _=_;rw[HK.out,nC (by rw[←Hn.out];omega)];rfl
   go_wp2;go_ret;exact⟨by rw[HX.out];rfl,_,hS⟩
theorem dS (err:Int)(fn:Nat)(cap:Array Value)(w:World) :
  Calls Tryz.prog 127 #[.int .i64 err,.func (.func fn) #[] cap] w fun r w'=>r = .returned (.func (.func 186) #[] #[pt (w.heap.size+1),pt w.heap.size])∧zB w w'∧Hid (w'.heap.size=w.heap.size+2)∧w'.heap[w.heap.size]?=some (.cells #[.int .i64 err] 37 (0,0))∧w'.heap[w.heap.size+1]?=some (.cells #[.func (.func fn) #[] cap] 185 (0,0)):=by
 have ac:=tM;go_enter Tryz.func127,Tryz.ntmps127;go_wp2;go_ret;exact⟨by simp[pt],((zH _ _).alloc (zG _) _).alloc (by simp) _,(show Hid _ by show _=_;simp),oP _ _ _,pX _ _ _⟩
theorem Qk1{P:Prop}(h:P:=by
 go_wp2;go_ret;exact⟨by simp[pt],(zH _ _).alloc (zG _) _,(show Hid _ by show _=_;simp),yM _ _⟩):P:=h
theorem D5m (w:World) :
  Calls Tryz.prog 128 #[] w fun r w'=>r = .returned (.func (.func 187) #[] #[pt w.heap.size])∧zB w w'∧Hid (w'.heap.size=w.heap.size+1)∧w'.heap[w.heap.size]?=some (.cells #[.int .i64 0] 3 (0,0)):=by
 have ac:=tM;go_enter Tryz.func128,Tryz.ntmps128;exact Qk1
theorem D1u (w:World) :
  Calls Tryz.prog 143 #[] w fun r w'=>r = .returned (.func (.func 188) #[] #[pt w.heap.size])∧zB w w'∧Hid (w'.heap.size=w.heap.size+1)∧w'.heap[w.heap.size]?=some (.cells #[.slice none 0 0] 33 (0,0)):=by
 have ac:=tM;go_enter Tryz.func143,Tryz.ntmps143;exact Qk1
def bF (N:Nat):Nat→Nat
 | 0=>N+3
 | 1=>N+5
 | 2=>N+7
 | 3=>N+9
 | _=>N+12
def eF (N:Nat):Nat→Nat
 | 0=>N+2
 | 1=>N+4
 | 2=>N+6
 | 3=>N+8
 | _=>N+11
theorem Fx.mono {t:TypeId}(h:Fx c0 ca B w k xs t)(hB:B≤B'):Fx c0 ca B' w k xs t:=⟨h.at_,nD h.lt hB,h.n0,h.na⟩
theorem CkM.mono {g:Nat}{b e:Nat→Nat}(h:CkM c0 ca B ag ac g gd b e w)(k:B≤B'):CkM c0 ca B' ag ac g gd b e w:=
 ⟨h.arr.mono k,h.deep.mono k,h.f0.mono k,h.f1.mono k,h.f2.mono k,h.f3.mono k,h.f7.mono k,h.x0.mono k,h.x1.mono k,h.x2.mono k,h.x3.mono k,h.x7.mono k⟩
theorem C4g (ag:Nat)(ac:Array Value)(w:World) :
  Calls Tryz.prog 70 #[.func (.func ag) #[] ac] w fun r w'=>r = .returned (.slice (some ⟨w.heap.size+13,0,none⟩) 8 8)∧Below w.heap.size w w'∧Hid (w'.heap.size=w.heap.size+14)∧CkM (w.heap.size+1) (w.heap.size+10) (w.heap.size+14) ag ac (w.heap.size+13) w.heap.size (bF w.heap.size) (eF w.heap.size) w'∧w'.heap[w.heap.size+1]?=some (.cells #[.int .i64 0] 3 (0,0))∧w'.heap[w.heap.size+10]?=some (.cells #[.slice none 0 0] 33 (0,0)):=by
 obtain⟨N,HN⟩:=zM (w.heap.size);obtain⟨W0,ah,B0,-,-⟩:=zV w (.cells #[.func (.func ag) #[] ac] 123);have Z0:Hid (W0.heap.size=N+1):=by show _=_;rw[ah.out,HN.out];simp
 have y0:W0.heap[N]?=some (.cells #[.func (.func ag) #[] ac] 123 (0,0)):=by rw[ah.out,HN.out];exact yM _ _
 have ba:=tM;rw[←HN.out];have k1:=D5m W0;rw[Z0.out] at k1;go_enter Tryz.func70,Tryz.ntmps70;go_wp2_with fail
 rw[←ah.out];refine k1.mono ?_;rintro r W1 ⟨rfl,B1,Z1,y1⟩;have k2:=dS 2 187 #[pt (N+1)] W1;rw[Z1.out] at k2;go_wp2_with fail
 refine k2.mono ?_;rintro r W2 ⟨rfl,B2,Z2,y2,y3⟩;have k3:=dS 8 129 #[] W2;rw[Z2.out] at k3;go_wp2_with fail
 refine k3.mono ?_;rintro r W3 ⟨rfl,B3,Z3,y4,y5⟩;have k4:=dS 5 130 #[] W3;rw[Z3.out] at k4;go_wp2_with fail
 refine k4.mono ?_;rintro r W4 ⟨rfl,B4,Z4,y6,y7⟩;have k5:=dS 2 131 #[] W4;rw[Z4.out] at k5;go_wp2_with fail
 refine k5.mono ?_;rintro r W5 ⟨rfl,B5,Z5,y8,y9⟩;have k6:=D1u W5;rw[Z5.out] at k6;go_wp2_with fail
 refine k6.mono ?_;rintro r W6 ⟨rfl,B6,Z6,ak⟩;have k7:=dS 8 188 #[pt (N+10)] W6;rw[Z6.out] at k7;go_wp2_with fail
 refine k7.mono ?_;rintro r W7 ⟨rfl,B7,Z7,au,av⟩;obtain⟨W8,aj,B8,-,-⟩:=zV W7 (.cells ((ckL N (bF N) (eF N)).map ckV).toArray 181);have aw:W8.heap[N+13]?=some (.cells ((ckL N (bF N) (eF N)).map ckV).toArray 181 (0,0)):=by rw[aj.out,show N+13=W7.heap.size by rw[Z7.out]];exact yM _ _
 have Z8:Hid (W8.heap.size=N+14):=by show _=_;rw[aj.out];simp[Z7.out]
 go_wp2;go_ret;have z1:=Z1.out;have z2:=Z2.out;have z3:=Z3.out;have z4:=Z4.out;have z5:=Z5.out;have z6:=Z6.out;have z7:=Z7.out;have z8:=Z8.out;have z0:=Z0.out;have hn:=HN.out;have A8:Below (N+13) W7 W8:=B8.mono (by omega);have A7:Below (N+11) W6 W8:=(B7.mono (by omega)).trans (A8.mono (by omega));have A6:Below (N+10) W5 W8:=(B6.mono (by omega)).trans (A7.mono (by omega));have A5:Below (N+8) W4 W8:=(B5.mono (by omega)).trans (A6.mono (by omega));have A4:Below (N+6) W3 W8:=(B4.mono (by omega)).trans (A5.mono (by omega));have A3:Below (N+4) W2 W8:=(B3.mono (by omega)).trans (A4.mono (by omega));have A2:Below (N+2) W1 W8:=(B2.mono (by omega)).trans (A3.mono (by omega));have A1:Below (N+1) W0 W8:=(B1.mono (by omega)).trans (A2.mono (by omega));have A0:Below N w W8:=(B0.mono (by omega)).trans (A1.mono (by omega));have fin:∀ W,W=W8→Below N w W∧Hid (W.heap.size=N+14)∧CkM (N+1) (N+10) (N+14) ag ac (N+13) N (bF N) (eF N) W∧W.heap[N+1]?=some (.cells #[.int .i64 0] 3 (0,0))∧W.heap[N+10]?=some (.cells #[.slice none 0 0] 33 (0,0)):=by
  rintro W rfl;refine⟨A0,Z8,⟨⟨aw,by omega,by omega,by omega⟩,⟨(A1.block N (by omega)).trans y0,by omega,by omega,by omega⟩,⟨(A3.block (N+3) (by omega)).trans y3,?_,?_,?_⟩,⟨(A4.block (N+5) (by omega)).trans y5,?_,?_,?_⟩,⟨(A5.block (N+7) (by omega)).trans y7,?_,?_,?_⟩,⟨(A6.block (N+9) (by omega)).trans y9,?_,?_,?_⟩,⟨(A8.block (N+12) (by omega)).trans av,?_,?_,?_⟩,⟨(A3.block (N+2) (by omega)).trans y2,?_,?_,?_⟩,⟨(A4.block (N+4) (by omega)).trans y4,?_,?_,?_⟩,⟨(A5.block (N+6) (by omega)).trans y6,?_,?_,?_⟩,⟨(A6.block (N+8) (by omega)).trans y8,?_,?_,?_⟩,⟨(A8.block (N+11) (by omega)).trans au,?_,?_,?_⟩⟩,(A2.block (N+1) (by omega)).trans y1,(A7.block (N+10) (by omega)).trans ak⟩
  all_goals (simp only[bF,eF];omega)
 exact⟨by rw[z7];rfl,fin _ (by rw[aj.out,←HN.out];rfl)⟩
theorem BTd {A V':World}(h:zB A V)(k:zB V V'):zB A V':=h.trans (k.mono h.size)
theorem C7x {cd:Nat}{ac:Nat}{k R:Int}(av:W.heap[cf]?=some (.cells #[.slice am ac ag,.slice ae ne ce] 25 (0,0)))(ba:W.heap[cd]?=some (.cells #[.int .i64 k] 3 (0,0)))(hg:GRd W (.slice am ac ag) (.slice ae ne ce) g)(bc:yK (fun m=>decide (m.name=name)) g.mG=(i:Int))(hi:g.mG[i]?=some m)(hk:0≤k)(hk2:k≤1000)
  (aj:∀ vf vb,RdL 6 FAt W vf m.fD→RdL 1 NAt W vb m.barred→∀ V,zB W V→Calls Tryz.prog 26 #[.agg #[.slice am ac ag,.slice ae ne ce],.agg #[.string (S m.name),vf,vb],.agg #[.slice a0 n0 c0,.slice a1 n1 c1],.int .i64 (k+1)] V fun e V'=>e = .returned (.int .i64 R)∧zB V V') :
  Calls Tryz.prog 68 #[.string (S name),.agg #[.slice a0 n0 c0,.slice a1 n1 c1],.pointer (some ⟨cf,0,none⟩),.pointer (some ⟨cd,0,none⟩)] W fun e W'=>e = .returned (.int .i64 R)∧zB W W':=by
 obtain⟨W1,bg,hb1,x1,-⟩:=zV W (.cells #[.slice a0 n0 c0,.slice a1 n1 c1] 29);obtain⟨b,off,rfl,hat⟩:=hg.1.get MAt.plain hi;obtain⟨vf,vb,t0,t1,t2,hf,hbr⟩:=hat.at;obtain⟨af,nf,aw,rfl,_,_⟩:=hf.sH;obtain⟨ab,nb,cb,rfl,_,_⟩:=hbr.sH;have hlen:=hg.1.len.1;have bn:i<ac:=by rw[hlen];exact(yG.1 hi).1
 have bu:(i:Int)<(ac:Int):=by omega
 have bh:∀ V,zB W1 V→zB W1 V∧V.cell? ⟨cf,0,none⟩=some (.slice (some ⟨b,off,none⟩) ac ag)∧V.cell? ⟨cf,1,none⟩=some (.slice ae ne ce)∧V.cell? ⟨cd,0,none⟩=some (.int .i64 k)∧V.cell? ⟨W.heap.size,0,none⟩=some (.slice a0 n0 c0)∧V.cell? ⟨W.heap.size,1,none⟩=some (.slice a1 n1 c1)∧V.cell? ⟨b,off+i*3,none⟩=some (.string (S m.name))∧V.cell? ⟨b,off+i*3+1,none⟩=some (.slice af nf aw)∧V.cell? ⟨b,off+i*3+2,none⟩=some (.slice ab nb cb):=fun V hV=>
  have ah:zB W V:=BTd hb1 hV
  ⟨hV,zQ ah (zL av 0 _ rfl),zQ ah (zL av 1 _ rfl),zQ ah (zL ba 0 _ rfl),zQ hV (zL x1 0 _ rfl),zQ hV (zL x1 1 _ rfl),zQ ah t0,zQ ah t1,zQ ah t2⟩
 have bk:∀ V,zB W1 V→Calls Tryz.prog 28 #[.agg #[.slice (some ⟨b,off,none⟩) ac ag,.slice ae ne ce],.string (S name)] V fun e V'=>e = .returned (.int .i64 (i:Int))∧zB V V':=by
  intro V hV;rw[←bc];exact fX (hg.bL (BTd hb1 hV)).1 ⟨ae,ne,ce,rfl⟩ name
 have bl:=fun V (hV:zB W1 V)=>aj _ _ hf hbr V (BTd hb1 hV)
 have hwr:IntKind.i64.wrap (k+1)=k+1:=by rw[IntKind.wrap_i64];omega
 clear aj hg bc hat t0 t1 t2 hf hbr av ba x1 hlen hi;go_enter Tryz.func68,Tryz.ntmps68;go_wp2_with fail
 rw[←bg.out];go_region_held3 (fun V=>zB W1 V∧V.cell? ⟨cf,0,none⟩=some (.slice (some ⟨b,off,none⟩) ac ag)∧V.cell? ⟨cf,1,none⟩=some (.slice ae ne ce)∧V.cell? ⟨cd,0,none⟩=some (.int .i64 k)∧V.cell? ⟨W.heap.size,0,none⟩=some (.slice a0 n0 c0)∧V.cell? ⟨W.heap.size,1,none⟩=some (.slice a1 n1 c1)∧V.cell? ⟨b,off+i*3,none⟩=some (.string (S m.name))∧V.cell? ⟨b,off+i*3+1,none⟩=some (.slice af nf aw)∧V.cell? ⟨b,off+i*3+2,none⟩=some (.slice ab nb cb)) ((refine bh _ ?_;first|exact(zH _ _).drew|exact ak)) ((first|(go_at_call 28;go_split_ands;refine(bk _ (by assumption)).mono ?_;rintro e wn ⟨rfl,au⟩;have ak:=BTd (by assumption) au)|(go_at_call 26;go_split_ands;refine(bl _ (by assumption)).mono ?_;rintro e wn ⟨rfl,au⟩;have ak:=BTd (by assumption) au)))
 all_goals go_wp2
 all_goals go_ret
 all_goals exact⟨rfl,BTd hb1 ak⟩
theorem B3k {ah:Nat}{ag:Array Value}{g:Nat}{b e:Nat→Nat}{nm:List UInt8}{f:List UInt8→BI d→Int}{Q:BI d→Prop}(ak:zB wE w)(e0:wE.heap.size≤c0)(ea:wE.heap.size≤ca)(av:CkM c0 ca B ah ag g gd b e w)(hB:B≤w.heap.size)(h0:w.heap[c0]?=some (.cells #[.int .i64 0] 3 (0,0)))(ha:w.heap[ca]?=some (.cells #[.slice none 0 0] 33 (0,0)))
  (hf:RdL 6 FAt wE (.slice af nf cf) fs) (hT:Tabs wE) (au:∀ (args:Array Value) (w:World),(callFunc ah args).run Tryz.prog w = .ok (.enter ah args) w) (ac:∀ x∈fs,∀ v:VI (BI d),(∀ s∈v.subs,Q s)→xG x v=false→Deeper d ah ag x.type (f x.type) v.subs wE)
  {l:List (VI (BI d))}(h:RdL 4 (VAt (BAt d)) wE vl l) (hV:∀ v∈l,VOk Q v) (hlen:l.length*80≤reachBytes) :
  Calls Tryz.prog 69 #[.agg #[.string (S nm),.slice af nf cf,.slice ab nb cb],vl,.slice (some ⟨g,0,none⟩) 8 8] w fun r w'=>r = .returned (.int .i64 (vP fs f l (0,[])))∧zB wE w':=by
 obtain⟨W2,aw,hb2,hz2,x1,x2⟩:=uD w (.cells #[.string (S nm),.slice af nf cf,.slice ab nb cb] 35) (.cells #[.slice (some ⟨g,0,none⟩) 8 8] 125);have hc0:=(zR h0)
 have ba:=(zR ha)
 have hm:Mm c0 ca W2.heap.size (0,[]) W2:=⟨(hb2.block c0 hc0).trans h0,⟨_,(hb2.block ca ba).trans ha,Row.nil _ _ _⟩,zG _,by omega,by omega⟩
 have hC:Ctx (d:=d) wE c0 ca W2.heap.size ah ag g gd b e w.heap.size (w.heap.size+1) nm af nf cf ab nb cb fs f Q W2:=
  ⟨ak.trans (hb2.mono ak.size),e0,ea,(av.bL hb2).mono (by omega),⟨x1,by omega,by omega,by omega⟩,⟨x2,by omega,by omega,by omega⟩,hf,hT,au,ac⟩
 have aj:=D6g hC hm rfl h hV hlen;have bc:=tM;obtain⟨al,nl,cl,rfl,_,_⟩:=h.sH;clear hC hm ac hV h av hf;go_enter Tryz.func69,Tryz.ntmps69;go_wp2_with fail
 rw[←aw.out];refine aj.mono ?_;rintro r w3 ⟨rfl,s',hS⟩;go_wp2;go_ret;exact⟨rfl,(ak.trans (hb2.mono ak.size)).trans (hS.bL e0 ea)⟩
def wL (g:GI)(name:List UInt8):List FI:=match g.mG.find? (fun m=>decide (m.name=name)) with
 | some m=>m.fD
 | none=>[]
def yT (g:GI):(d:Nat)→Int→List FI→BI d→Int
 | 0=>fun _ _ b=>nomatch (b:Empty)
 | d+1=>fun k fs b=>if 12<k then 10 else if vP fs (fun name s=>yT g d (k+1) (wL g name) s) (BO.vals b) (0,[])=0 then yJ (vC fs) (BO.unk b) else vP fs (fun name s=>yT g d (k+1) (wL g name) s) (BO.vals b) (0,[])
theorem mO (g:GI)(d:Nat)(k:Int)(fs:List FI)(x:BI (d+1)):yT g (d+1) k fs x=if 12<k then 10 else if vP fs (fun name s=>yT g d (k+1) (wL g name) s) (BO.vals x) (0,[])=0 then yJ (vC fs) (BO.unk x) else vP fs (fun name s=>yT g d (k+1) (wL g name) s) (BO.vals x) (0,[]):=rfl
def kN (g:GI):Prop:=∀ m∈g.mG,∀ x∈m.fD,x.kind=10→∃ m',g.mG.find? (fun m=>decide (m.name=x.type))=some m'
theorem XA {v:VI β}(h:xG x v=false)(hs:v.subs≠[]):x.kind=10:=by
 unfold xG at h;by_cases h8:x.kind=8∨x.kind=9
 ·rw[zF h8] at h;simp at h;exact absurd h.2 hs
 rw[zC h8] at h;by_cases h10:x.kind=10
 ·exact h10
 rw[zC h10] at h;simp at h;exact absurd h.2 hs
def UU (g:GI)(d:Nat):Prop:=∀ (w:World) (k:Int) (vm ve:Value) (m:MI) (vf vb v0 v1:Value) (x:BI d),0≤k→k≤100→GRd w vm ve g→m∈g.mG→RdL 6 FAt w vf m.fD→RdL 1 NAt w vb m.barred→BQ d w v0 v1 x→BOk d x→Tabs w→
 Calls Tryz.prog 26 #[.agg #[vm,ve],.agg #[.string (S m.name),vf,vb],.agg #[v0,v1],.int .i64 k] w fun r w'=>r = .returned (.int .i64 (yT g d k m.fD x))∧zB w w'
theorem D1y (au:kN g)(ih:UU g d):UU g (d+1):=by
 intro w k vm ve m vf vb v0 v1 x cu dg hg hm hf hb hq cw hT;obtain⟨am,nm,cm,rfl,_,_⟩:=hg.1.sH;obtain⟨ae,ne,ce,rfl,_,_⟩:=hg.2.sH;obtain⟨af,nf,cf,rfl,_,_⟩:=hf.sH;obtain⟨ab,nb,cb,rfl,_,_⟩:=hb.sH;have hq:BRd d w v0 v1 x:=hq;obtain⟨a0,n0,c0,a1,n1,c1,rfl,rfl⟩:=hq.sH;obtain⟨hV,hlen,_,_⟩:=cw;obtain⟨N,HN⟩:=zM (w.heap.size);obtain⟨W4,ag⟩:=zM ((((w.alloc (.cells #[.slice am nm cm,.slice ae ne ce] 25)).alloc (.cells #[.string (S m.name),.slice af nf cf,.slice ab nb cb] 35)).alloc (.cells #[.slice a0 n0 c0,.slice a1 n1 c1] 29)).alloc (.cells #[.int .i64 k] 3));have hb4:zB w W4:=by rw[ag.out];exact((((zH _ _).alloc (zG _) _).alloc (by simp) _).alloc (by first|(simp;omega)|simp) _).alloc (by first|(simp;omega)|simp) _
 have z4:w.heap.size+4≤W4.heap.size:=by rw[ag.out];simp
 have x0:W4.heap[w.heap.size]?=some (.cells #[.slice am nm cm,.slice ae ne ce] 25 (0,0)):=by
  rw[ag.out,wT _ _ _ (by first|(simp;omega)|simp),wT _ _ _ (by first|(simp;omega)|simp)];exact oP _ _ _
 have x1:W4.heap[w.heap.size+1]?=some (.cells #[.string (S m.name),.slice af nf cf,.slice ab nb cb] 35 (0,0)):=by
  rw[ag.out,wT _ _ _ (by first|(simp;omega)|simp),wT _ _ _ (by first|(simp;omega)|simp)];exact pX _ _ _
 have x2:W4.heap[w.heap.size+2]?=some (.cells #[.slice a0 n0 c0,.slice a1 n1 c1] 29 (0,0)):=by
  rw[ag.out,wT _ _ _ (by first|(simp;omega)|simp)];have:=yM ((w.alloc (.cells #[.slice am nm cm,.slice ae ne ce] 25)).alloc (.cells #[.string (S m.name),.slice af nf cf,.slice ab nb cb] 35)) (.cells #[.slice a0 n0 c0,.slice a1 n1 c1] 29);simpa using this
 have x3:W4.heap[w.heap.size+3]?=some (.cells #[.int .i64 k] 3 (0,0)):=by
  have:=yM (((w.alloc (.cells #[.slice am nm cm,.slice ae ne ce] 25)).alloc (.cells #[.string (S m.name),.slice af nf cf,.slice ab nb cb] 35)).alloc (.cells #[.slice a0 n0 c0,.slice a1 n1 c1] 29)) (.cells #[.int .i64 k] 3);rw[ag.out];simpa using this
 by_cases hk:12<k
 ·have HR:Hid (yT g (d+1) k m.fD x=10):=by show _=_;rw[mO,zF hk]
  clear ih hV hq hg hf hb;go_enter Tryz.func26,Tryz.ntmps26;go_wp2;go_ret;rw[←ag.out];exact⟨by rw[HR.out];rfl,hb4⟩
 obtain⟨f,Hf⟩:∃ f:List UInt8→BI d→Int,Hid (f=fun name s=>yT g d (k+1) (wL g name) s):=⟨_,rfl⟩
 have HE:Hid (yT g (d+1) k m.fD x=if vP m.fD f (BO.vals x) (0,[])=0 then yJ (vC m.fD) (BO.unk x) else vP m.fD f (BO.vals x) (0,[])):=by
  show _=_;rw[Hf.out,mO,zC hk]
 have ah:∀ y∈m.fD,∀ v:VI (BI d),(∀ s∈v.subs,BOk d s)→xG y v=false→Deeper d 68 #[.pointer (some ⟨w.heap.size,0,none⟩),.pointer (some ⟨w.heap.size+3,0,none⟩)] y.type (f y.type) v.subs W4:=by
  intro y hy v hQ ho W hW s hs u0 u1 cg;have ak:=XA ho (fun e=>by rw[e] at hs;cases hs);obtain⟨m',bu⟩:=au m hm y hy ak;rcases jJ (fun m:MI=>decide (m.name=y.type)) g.mG with⟨_,h2⟩|⟨i,m2,h1,h2,h3,_⟩
  ·rw[h2] at bu;cases bu
  have bc:=BTd hb4 hW;have cj:wL g y.type=m2.fD:=by unfold wL;rw[h3]
  obtain⟨b0,p0,q0,b1,p1,q1,rfl,rfl⟩:=cg.sH;refine(C7x (R:=f y.type s) ((zN hW).trans x0) ((zN hW).trans x3) (hg.bL bc) h1 h2 cu (by omega) fun vf vb hf' hb' V ac=>?_);rw[Hf.out];show Calls _ _ _ _ fun e V'=>e = .returned (.int .i64 (yT g d (k+1) (wL g y.type) s))∧zB V V'
  rw[cj];exact ih V (k+1) _ _ m2 vf vb _ _ s (by omega) (by omega) (hg.bL (BTd bc ac)) (xV h2) (hf'.bL FAt.sT ac) (hb'.bL NAt.sT ac) (cg.bL ac) (hQ s hs) (hT.bL (BTd bc ac))
 have hD:zB W4 W4.drew:=(zH _ _).drew;have bl:=C4g 68 #[.pointer (some ⟨w.heap.size,0,none⟩),.pointer (some ⟨w.heap.size+3,0,none⟩)] W4.drew;have bk:∀ V,zB W4 V→V.cell? ⟨w.heap.size+1,0,none⟩=some (.string (S m.name))∧V.cell? ⟨w.heap.size+1,1,none⟩=some (.slice af nf cf)∧V.cell? ⟨w.heap.size+1,2,none⟩=some (.slice ab nb cb)∧V.cell? ⟨w.heap.size+2,0,none⟩=some (.slice a0 n0 c0)∧V.cell? ⟨w.heap.size+2,1,none⟩=some (.slice a1 n1 c1):=fun V ac=>⟨zQ ac (zL x1 0 _ rfl),zQ ac (zL x1 1 _ rfl),zQ ac (zL x1 2 _ rfl),zQ ac (zL x2 0 _ rfl),zQ ac (zL x2 1 _ rfl)⟩
 obtain⟨t0,t1,t2,t3,t4⟩:=bk W4.drew hD;obtain⟨E,ba⟩:=zM (vP m.fD f (BO.vals x) (0,[]));have aw:∀ w1,zB W4.drew w1→Hid (w1.heap.size=W4.drew.heap.size+14)→CkM (W4.drew.heap.size+1) (W4.drew.heap.size+10) (W4.drew.heap.size+14) 68 #[.pointer (some ⟨w.heap.size,0,none⟩),.pointer (some ⟨w.heap.size+3,0,none⟩)] (W4.drew.heap.size+13) W4.drew.heap.size (bF W4.drew.heap.size) (eF W4.drew.heap.size) w1→w1.heap[W4.drew.heap.size+1]?=some (.cells #[.int .i64 0] 3 (0,0))→w1.heap[W4.drew.heap.size+10]?=some (.cells #[.slice none 0 0] 33 (0,0))→
   Calls Tryz.prog 69 #[.agg #[.string (S m.name),.slice af nf cf,.slice ab nb cb],.slice a0 n0 c0,.slice (some ⟨W4.drew.heap.size+13,0,none⟩) 8 8] w1 fun r w'=>r = .returned (.int .i64 E)∧zB W4 w':=by
  intro w1 hb1 hz1 bh h0 ha;rw[ba.out];have hE:=hD.size;have bg:=BTd hD hb1;exact B3k (Q:=BOk d) bg (by omega) (by omega) bh (by rw[hz1.out];exact zG _) h0 ha (hf.bL FAt.sT hb4) (hT.bL hb4) (enters_of Tryz.func68 (by kernel_rfl) rfl) ah (hq.bL hb4).1 hV hlen
 have hkb:=yC hk;have dh:=tM;have av:=fun w2 (hb2:zB W4 w2)=>D6e (hq.bL (BTd hb4 hb2)).2 ((zN hb2).trans x1) (hf.bL FAt.sT (BTd hb4 hb2))
 rw[HE.out,←ba.out];obtain⟨U,HU⟩:=zM (yJ (vC m.fD) (BO.unk x));rw[←HU.out] at av ⊢;obtain⟨bn,aj⟩:=zM (if E=0 then U else E);rw[←aj.out];clear ih ah hV hk hg hf hb hq hT au HE ba;go_enter Tryz.func26,Tryz.ntmps26;go_wp2_with fail
 rw[←ag.out];go_region_with (first
  | (go_at_call 70;refine bl.mono ?_;rintro r w1 ⟨rfl,hb1,hz1,bh,h0,ha⟩;obtain⟨u0,u1,u2,u3,u4⟩:=bk w1 (BTd hD hb1))
  | (go_at_call 69;refine(aw w1 hb1 hz1 bh h0 ha).mono ?_;rintro r w2 ⟨rfl,hb2⟩))
 all_goals
  obtain⟨s0,s1,s2,s3,s4⟩:=bk w2 hb2;have df:=av w2 hb2;by_cases hE0:E=0
  ·have ez:(E != 0)=false:=by simp[hE0]
   have HZ:=zI hE0;clear hE0;go_wp2_with fail
   refine df.mono ?_;rintro r w3 ⟨rfl,hb3⟩;go_wp2;go_ret;exact⟨by rw[aj.out,zF HZ.out];rfl,BTd hb4 (BTd hb2 hb3)⟩
  ·have ez:(E != 0)=true:=by simpa using hE0
   have HZ:Hid (E≠0):=hE0;clear hE0;go_wp2;go_ret;exact⟨by rw[aj.out,zC HZ.out];rfl,BTd hb4 hb2⟩
theorem C1t {g:GI}(ac:kN g):∀ d,UU g d
 | 0=>fun _ _ _ _ _ _ _ _ _ x=>nomatch (x:Empty)
 | d+1=>D1y ac (C1t ac d)
def lD (x:FI)(s:Mem):Mem:=⟨vM x.name s.names,vM x.nU s.nums,x.cE,max s.begun x.cE⟩
def pA (g:GI)(bar:List Int)(x:FI)(s:Mem):Bool:=!(!sM x.name||decide (x.name∈s.names))&&(qZ x.nU&&(!(decide (x.nU∈bar)||decide (x.nU∈s.nums))&&(!(decide (x.kind<1)||decide (10<x.kind))&&(qO g x&&(!(pL x||(decide (0<x.cE)&&x.many))&&!uH s.last s.begun x.cE)))))
theorem B4v {s:Mem}(h:pA g bar x s=true):xH (yV g bar) 0 uK x s=(none,lD x s):=by
 simp only[pA,lS,Bool.not_eq_true'] at h;obtain⟨h0,h1,h2,h3,h4,h5,h6⟩:=h;simp[uK,xH,yV,h0,h1,h2,h3,h4,h5,h6,lD]
theorem C6k {s:Mem}(h:pA g bar x s=false):∃ e s',xH (yV g bar) 0 uK x s=(some e,s')∧e≠0:=by
 unfold pA at h;cases h0:(!sM x.name||decide (x.name∈s.names)) with
 | true=>exact⟨7,_,by simp only[uK,xH,yV];rw[h0];rfl,by decide⟩
 | false=>
 cases h1:qZ x.nU with
 | false=>exact⟨3,_,by simp only[uK,xH,yV];rw[h0,h1];rfl,by decide⟩
 | true=>
 cases h2:(decide (x.nU∈bar)||decide (x.nU∈s.nums)) with
 | true=>exact⟨8,_,by simp only[uK,xH,yV];rw[h0,h1,h2];rfl,by decide⟩
 | false=>
 cases h3:(decide (x.kind<1)||decide (10<x.kind)) with
 | true=>exact⟨1,_,by simp only[uK,xH,yV];rw[h0,h1,h2,h3];rfl,by decide⟩
 | false=>
 cases h4:qO g x with
 | false=>exact⟨6,_,by simp only[uK,xH,yV];rw[h0,h1,h2,h3,h4];rfl,by decide⟩
 | true=>
 cases h5:(pL x||(decide (0<x.cE)&&x.many)) with
 | true=>exact⟨8,_,by simp only[uK,xH,yV];rw[h0,h1,h2,h3,h4,h5];rfl,by decide⟩
 | false=>
 cases h6:uH s.last s.begun x.cE with
 | true=>exact⟨2,_,by simp only[uK,xH,yV];rw[h0,h1,h2,h3,h4,h5,h6];rfl,by decide⟩
 | false=>rw[h0,h1,h2,h3,h4,h5,h6] at h;cases h
theorem C4s {l:List FI}{s:Mem}(h:(xC (yV g bar) uK i (x::l) s).1=0):pA g bar x s=true∧(xC (yV g bar) uK (i+1) l (lD x s)).1=0:=by
 cases hp:pA g bar x s with
 | true=>
  rw[xC,B4v hp] at h;exact⟨rfl,h⟩
 | false=>
 obtain⟨e,s',h1,h2⟩:=C6k hp;rw[xC,h1] at h;exact absurd h h2
theorem B7z {g:GI}:∀ (l:List MI) (i:Nat) (q:Int×Nat),sW g i l=some q→q.1≠0
 | [],_,_,h=>by cases h
 | m::l,i,q,h=>by
  rw[sW] at h
  split at h
  ·rename_i h0;cases h;exact h0
  ·exact B7z l _ q h
theorem B7y {g:GI}:∀ (l:List MI) (i:Nat),sW g i l=none→∀ m∈l,rE g m=0
 | [],_,_,_,hm=>by simp at hm
 | x::l,i,h,m,hm=>by
  rw[sW] at h
  split at h
  ·cases h
  ·rename_i h0
   rcases yY.1 hm with rfl|hm
   ·simpa using h0
   ·exact B7y l _ h m hm
theorem YL (h:(yB g).1=0):¬ 10<g.mG.length+g.enums.length∧(xC pJ [7] 0 (rX g) []).1=0∧∀ m∈g.mG,rE g m=0:=by
 unfold yB at h;split at h
 ·cases h
 rename_i h1;split at h
 ·rename_i h2;exact absurd h h2
 rename_i h2;refine⟨h1,by simpa using h2,?_⟩;cases hm:sW g 0 g.mG with
 | some q=>rw[hm] at h;exact absurd h (B7z _ _ q hm)
 | none=>exact B7y _ _ hm
theorem ZI (h:rE g m=0):m.fD.length≤16∧m.barred.length≤16∧m.barred.any uM=false∧(xC (yV g m.barred) uK 0 m.fD qC).1=0:=by
 unfold rE at h;split at h
 ·cases h
 rename_i h1;split at h
 ·cases h
 rename_i h2;exact⟨by omega,by omega,by simpa using h2,h⟩
theorem YU {g:GI}{bar:List Int}:∀ (l:List FI) (i:Nat) (s:Mem),(xC (yV g bar) uK i l s).1=0→∀ y∈l,∃ s,pA g bar y s=true
 | [],_,_,_,_,hy=>by simp at hy
 | x::l,i,s,h,y,hy=>by
  obtain⟨h1,h2⟩:=C4s h
  rcases yY.1 hy with rfl|hy
  ·exact⟨s,h1⟩
  ·exact YU l _ _ h2 y hy
theorem sY (hr:(yB g).1=0):kN g:=by
 intro m hm x hx hk;obtain⟨s,hs⟩:=YU _ _ _ (ZI ((YL hr).2.2 m hm)).2.2.2 x hx;simp only[pA,lS] at hs;have hh:=hs.2.2.2.2.1;unfold qO at hh;rw[zF hk] at hh;rcases jJ (fun m:MI=>decide (m.name=x.type)) g.mG with⟨h1,_⟩|⟨_,m',_,_,h3,_⟩
 ·rw[h1] at hh;simp at hh
 exact⟨m',h3⟩
def wD (g:GI)(d:Nat)(msg:Int)(x:BI (d+1)):Int:=
 if (yB g).1≠0 then(yB g).1
 else if msg<0∨(g.mG.length:Int)≤msg then 6
 else match g.mG[msg.toNat]? with
  | some m=>yT g (d+1) 1 m.fD x
  | none=>6
theorem bT{P:Prop}(h:P:=by
 go_enter Tryz.func14,Tryz.ntmps14;go_wp2_with fail
 rw[←au.out];refine hwr.mono ?_;rintro r w3 ⟨rfl,hb3⟩;go_wp2;go_ret;exact⟨by rw[HA.out];rfl,(BTd hb2 hb3).alloc (BTd hb2 hb3).size _⟩):P:=h
theorem B5g {x:BI (d+1)}(hg:GRd w vm ve g)(cu:g.mG.length≤140737488355328)(cw:g.enums.length≤140737488355328)(bc:Fits g)(hq:BRd d w v0 v1 x)(bl:BOk (d+1) x)(hT:Tabs w)(dg : -9223372036854775808≤msg)(dh:msg≤9223372036854775807) :
  Calls Tryz.prog 14 #[.agg #[vm,ve],.int .i64 msg,.agg #[v0,v1]] w fun r w'=>r = .returned (.int .i64 (wD g d msg x))∧zB w w':=by
 obtain⟨am,nm,cm,rfl,bh,_⟩:=hg.1.sH;obtain⟨ae,ne,ce,rfl,_,_⟩:=hg.2.sH;obtain⟨a0,n0,c0,a1,n1,c1,rfl,rfl⟩:=hq.sH;obtain⟨W2,au,hb2,z2,x1,x2⟩:=uD w (.cells #[.slice am nm cm,.slice ae ne ce] 25) (.cells #[.slice a0 n0 c0,.slice a1 n1 c1] 29);have hwr:=B6x (hg.bL hb2) cu cw bc;obtain⟨Q,HQ⟩:=zM ((yB g).1);obtain⟨QI,bn⟩:=zM ((((yB g).2:Nat):Int));rw[←HQ.out,←bn.out] at hwr;have ba:∀ V,zB W2 V→V.cell? ⟨w.heap.size,0,none⟩=some (.slice am nm cm)∧V.cell? ⟨w.heap.size,1,none⟩=some (.slice ae ne ce)∧V.cell? ⟨w.heap.size+1,0,none⟩=some (.slice a0 n0 c0)∧V.cell? ⟨w.heap.size+1,1,none⟩=some (.slice a1 n1 c1):=fun V hV=>⟨zQ hV (zL x1 0 _ rfl),zQ hV (zL x1 1 _ rfl),zQ hV (zL x2 0 _ rfl),zQ hV (zL x2 1 _ rfl)⟩
 obtain⟨ah,ac⟩:=zM (wD g d msg x);rw[←ac.out];by_cases hQ0:Q=0
 ·have ez:(Q != 0)=false:=by simp[hQ0]
  have hr:(yB g).1=0:=by rw[←HQ.out];exact hQ0
  have HZ:=zI hQ0;clear hQ0;by_cases hlo:msg<0
  ·have HA:Hid (ah=6):=by show _=_;rw[ac.out,wD,zC (by rw[hr];simp),zF (.inl hlo)]
   exact bT
  have ak:=hlo;by_cases bg:(nm:Int)≤msg
  ·have HA:Hid (ah=6):=by show _=_;rw[ac.out,wD,zC (by rw[hr];simp),zF (.inr (by rw[←bh.out];exact bg))]
   go_enter Tryz.func14,Tryz.ntmps14;go_wp2_with fail
   rw[←au.out];refine hwr.mono ?_;rintro r w3 ⟨rfl,hb3⟩;obtain⟨t0,t1,t2,t3⟩:=ba w3 hb3;have hs3:w.heap.size<w3.heap.size:=nD (by omega) hb3.size;go_wp2;go_ret;exact⟨by rw[HA.out];rfl,(BTd hb2 hb3).alloc (BTd hb2 hb3).size _⟩
  have av:msg.toNat<g.mG.length:=by rw[←bh.out];omega
  obtain⟨i,rfl⟩:∃ i:Nat,msg=(i:Int):=⟨msg.toNat,by omega⟩
  have av:i<g.mG.length:=av;obtain⟨m,hm⟩:∃ m,g.mG[i]?=some m:=⟨g.mG[i],vG av⟩
  obtain⟨b,off,rfl,hat⟩:=hg.1.get MAt.plain hm;obtain⟨vf,vb,t0,t1,t2,hf,hbr⟩:=hat.at;obtain⟨af,nf,bk,rfl,_,_⟩:=hf.sH;obtain⟨ab,nb,cb,rfl,_,_⟩:=hbr.sH;have HA:Hid (ah=yT g (d+1) 1 m.fD x):=by
   show _=_;rw[ac.out,wD,zC (by rw[hr];simp),zC (by omega)];show(match g.mG[((i:Nat):Int).toNat]? with|some m=>yT g (d+1) 1 m.fD x|none=>6)=_;rw[qU,hm]
  have aj:∀ V,zB W2 V→Calls Tryz.prog 26 #[.agg #[.slice (some ⟨b,off,none⟩) nm cm,.slice ae ne ce],.agg #[.string (S m.name),.slice af nf bk,.slice ab nb cb],.agg #[.slice a0 n0 c0,.slice a1 n1 c1],.int .i64 1] V fun r w'=>r = .returned (.int .i64 ah)∧zB V w':=by
   intro V hV;have ag:=BTd hb2 hV;rw[HA.out];exact C1t (sY hr) (d+1) V 1 _ _ m _ _ _ _ x (by omega) (by omega) (hg.bL ag) (xV hm) (hf.bL FAt.sT ag) (hbr.bL NAt.sT ag) (hq.bL ag) bl (hT.bL ag)
  have hcm:∀ V,zB W2 V→V.cell? ⟨b,off+i*3,none⟩=some (.string (S m.name))∧V.cell? ⟨b,off+i*3+1,none⟩=some (.slice af nf bk)∧V.cell? ⟨b,off+i*3+2,none⟩=some (.slice ab nb cb):=fun V hV=>
   have ag:=BTd hb2 hV
   ⟨zQ ag t0,zQ ag t1,zQ ag t2⟩
  have df:(i:Int)<(nm:Int):=by omega
  clear hg hq hf hbr hat t0 t1 t2 hT bl hm hlo hr av ak bg;have ak:¬ ((i:Int)<0):=by omega
  have bg:¬ ((nm:Int)≤(i:Int)):=by omega
  go_enter Tryz.func14,Tryz.ntmps14;go_wp2_with fail
  rw[←au.out];refine hwr.mono ?_;rintro r w3 ⟨rfl,hb3⟩;obtain⟨W4,bu,aw,-,-⟩:=zV w3 (.cells #[.int .i64 Q,.int .i64 QI] 54);have hb4:=BTd hb3 aw;have hs3:w.heap.size<w3.heap.size:=nD (by omega) hb3.size;obtain⟨t0,t1,t2,t3⟩:=ba w3 hb3;have hD:=BTd hb4 ((zH W4.heap.size W4).drew);obtain⟨s0,s1,s2,s3⟩:=ba _ hD;obtain⟨p0,p1,p2⟩:=hcm _ hD;have cj:=aj _ hD;go_wp2_with fail
  rw[←bu.out];go_region_with (refine cj.mono ?_;rintro r w5 ⟨rfl,cg⟩)
  all_goals
   go_wp2;go_ret;exact⟨rfl,BTd hb2 (BTd hD cg)⟩
 have ez:(Q != 0)=true:=by simpa using hQ0
 have HA:Hid (ah=Q):=by show _=_;rw[ac.out,wD,zF (by rw[←HQ.out];exact hQ0),HQ.out]
 clear hQ0;exact bT
structure WIn (g:GI) (am:Option Addr) (nm cm:Nat) (ae:Option Addr) (ne ce:Nat) (msg:Int) (w:World):Prop where
 hg:GRd w (.slice am nm cm) (.slice ae ne ce) g
 n1:g.mG.length≤140737488355328
 n2:g.enums.length≤140737488355328
 fit:Fits g
 fok:∀ M∈g.mG,(∀ f∈M.fD,I64 f.nU∧I64 f.cE)∧M.fD.length≤140737488355328
 tabs:Tabs w
 m1 : -9223372036854775808≤msg
 m2:msg≤9223372036854775807
theorem WIn.bL (h:WIn g am nm cm ae ne ce msg w)(hb:zB w w'):WIn g am nm cm ae ne ce msg w':=⟨h.hg.bL hb,h.n1,h.n2,h.fit,h.fok,h.tabs.bL hb,h.m1,h.m2⟩
theorem WIn.wrong (h:WIn g am nm cm ae ne ce msg w){x:BI (d+1)}(hq:BRd d w v0 v1 x)(ac:BOk (d+1) x) :
  Calls Tryz.prog 14 #[.agg #[.slice am nm cm,.slice ae ne ce],.int .i64 msg,.agg #[v0,v1]] w fun r w'=>r = .returned (.int .i64 (wD g d msg x))∧zB w w':=B5g h.hg h.n1 h.n2 h.fit hq ac h.tabs h.m1 h.m2
theorem B4j (hI:WIn g am nm cm ae ne ce msg w)(hc:w.heap[c]?=some (.cells #[.slice am nm cm,.slice ae ne ce] 25 (0,0)))(hx:w.heap[cx]?=some (.cells #[.int .i64 msg] 3 (0,0))){x:BI (d+1)}(hq:BRd d w (.slice a0 n0 c0) (.slice a1 n1 c1) x)(ag:BOk (d+1) x) :
  Calls Tryz.prog 213 #[.agg #[.slice a0 n0 c0,.slice a1 n1 c1],.pointer (some ⟨c,0,none⟩),.pointer (some ⟨cx,0,none⟩)] w fun e w'=>e = .returned (.int .i64 (wD g d msg x))∧zB w w':=by
 have hb1:zB w (w.alloc (.cells #[.slice a0 n0 c0,.slice a1 n1 c1] 29)):=(zH _ _).alloc (zG _) _;have ac:=(zR hc)
 have ah:=(zR hx)
 obtain⟨k0,k1⟩:=zO ((hb1.block c ac).trans hc);have k3:(w.alloc (.cells #[.slice a0 n0 c0,.slice a1 n1 c1] 29)).cell? ⟨cx,0,none⟩=some (.int .i64 msg):=zL ((hb1.block cx ah).trans hx) 0 _ rfl;have hd:=(hI.bL hb1).wrong (hq.bL hb1) ag;clear hq hc hx hI;go_enter Tryz.func213,Tryz.ntmps213;go_wp2_with fail
 refine hd.mono ?_;rintro e w1 ⟨rfl,hb2⟩;go_wp2;go_ret;exact⟨rfl,hb1.trans (hb2.mono hb1.size)⟩
theorem C8w (hI:WIn g am nm cm ae ne ce msg w)(hc:w.heap[c]?=some (.cells #[.slice am nm cm,.slice ae ne ce] 25 (0,0)))(hx:w.heap[cx]?=some (.cells #[.int .i64 msg] 3 (0,0))){l:List (BI (d+1))}(h:RdL 2 (BAt (d+1)) w v l)(av:∀ s∈l,BOk (d+1) s) :
  Calls Tryz.prog 141 #[v,.func (.func 213) #[] #[.pointer (some ⟨c,0,none⟩),.pointer (some ⟨cx,0,none⟩)]] w fun e w'=>e = .returned (.int .i64 (yJ (wD g d msg) l))∧zB w w':=by
 obtain⟨ao,n,cap,rfl,Hn,au⟩:=h.sH;obtain⟨R,HR⟩:=zM (yJ (wD g d msg) l);rw[←HR.out];go_enter Tryz.func141,Tryz.ntmps141;go_wp2_with fail
 go_loopg [10] n (fun m i wr=>∃ k:Nat,k+m=n∧i = .int .i64 k∧Hid (R=yJ (wD g d msg) (l.drop k))∧zB w wr)
 case atStart=>exact⟨0,by omega,rfl,HR,zH _ _⟩
 obtain⟨k,hk,rfl,HK,hb⟩:=hrel;have aj:=(hb.block c (zR hc)).trans hc;have ak:=(hb.block cx (zR hx)).trans hx;by_cases hlt:k<n
 ·obtain⟨a,Ha⟩:=yE (l:=l) (k:=k) (by rw[←Hn.out];exact hlt);obtain⟨b,off,rfl,hat⟩:=(h.bL (BAt.sT (d+1)) hb).get (BAt.plain (d+1)) Ha.out;obtain⟨v0,v1,s0,s1,hq⟩:=BQ.of (d+1) hat;obtain⟨a0,n0,c0,a1,n1,c1,rfl,rfl⟩:=hq.sH;have aw:(k:Int)<(n:Int):=by omega
  obtain⟨W1,ah,hb1,-,-⟩:=zV wr (.cells #[.slice a0 n0 c0,.slice a1 n1 c1] 29);have ac:=hb.trans (hb1.mono hb.size);have ag:=B4j (hI.bL ac) ((hb1.block c (zR aj)).trans aj) ((hb1.block cx (zR ak)).trans ak) (show BRd d W1 _ _ a from hq.bL hb1) (av a (uO Ha.out));have hst:=lO (f:=wD g d msg) Ha.out;generalize hF:wD g d msg a=F at ag hst;clear hq;by_cases hz:F=0
  ·have HX:Hid (R=yJ (wD g d msg) (l.drop (k+1))):=by
    show _=_;rw[HK.out,hst,zF hz]
   have ez:(F != 0)=false:=by simp[hz]
   clear hst hF hz hat;go_wp2_with fail
   rw[←ah.out];refine ag.mono ?_;rintro e w1 ⟨rfl,hb2⟩;go_wp2_with fail
   go_roundg (n-(k+1))
   case measure=>omega
   case rel=>exact⟨k+1,by omega,by go_num,HX,ac.trans (hb2.mono ac.size)⟩
  have HX:Hid (R=F):=by
   show _=_;rw[HK.out,hst,zC hz]
  have ez:(F != 0)=true:=by simpa using hz
  clear hst hF hz hat;go_wp2_with fail
  rw[←ah.out];refine ag.mono ?_;rintro e w1 ⟨rfl,hb2⟩;go_wp2;go_ret;exact⟨by rw[HX.out];rfl,ac.trans (hb2.mono ac.size)⟩
 have HX:Hid (R=0):=by
  show _=_;rw[HK.out];exact gD (by rw[←Hn.out];omega)
 go_wp2;go_ret;exact⟨by rw[HX.out];rfl,hb⟩
theorem gC {α:Type}{f : α→Int}:∀ {l:List α},yJ f l=0→∀ a∈l,f a=0
 | b::l,h,a,ha=>by
  unfold yJ at h
  split at h
  ·rename_i hb
   rcases yY.1 ha with rfl|ha
   ·exact hb
   ·exact gC h a ha
  ·rename_i hb
   exact absurd h hb
theorem B2c {e:Nat→Int}:∀ {m k:Nat},rO e k m=0→∀ i,k≤i→i<k+m→e i=0
 | 0,k,_,i,h1,h2=>by omega
 | m+1,k,h,i,h1,h2=>by
  unfold rO at h
  split at h
  ·rename_i hb
   by_cases e:i=k
   ·rw[e];exact hb
   ·exact B2c h i (by omega) (by omega)
  ·rename_i hb
   exact absurd h hb
structure RtV {β:Type}(fs:List FI) (f:List UInt8→β→Int) (x:FI) (v:VI β):Prop where
 fld:fs.find? (isF v.nU)=some x
 others:xG x v=false
 misc:vK x v=false
 without:xQ x v=false
 bits:∀ n∈v.bits,yU x.kind n=0
 bytes:∀ l∈v.bytes,wN x.kind l=0
 subs:∀ s∈v.subs,f x.type s=0
theorem D6f {v:VI β}{s:Int×List Int}(h:uA fs f v s=0):∃ x,RtV fs f x v∧s.1<v.nU∧(0<x.cE→x.cE∉s.2)∧rS fs v s=(v.nU,tF x s.2):=by
 unfold uA at h;split at h
 ·cases h
 rename_i x hx;have e:=B2c h;have e0:(if decide (v.nU≤s.1) then(2:Int) else 0)=0:=e 0 (by omega) (by omega);have e1:(if xG x v then(8:Int) else 0)=0:=e 1 (by omega) (by omega);have e2:(if vK x v then(5:Int) else 0)=0:=e 2 (by omega) (by omega);have e3:(if xQ x v then(2:Int) else 0)=0:=e 3 (by omega) (by omega);have e4:yJ (yU x.kind) v.bits=0:=e 4 (by omega) (by omega);have e5:yJ (wN x.kind) v.bytes=0:=e 5 (by omega) (by omega);have e6:yJ (f x.type) v.subs=0:=e 6 (by omega) (by omega);have e7:(if decide (0<x.cE∧x.cE∈s.2) then(8:Int) else 0)=0:=e 7 (by omega) (by omega);refine⟨x,⟨hx,?_,?_,?_,gC e4,gC e5,gC e6⟩,?_,?_,?_⟩
 ·cases ho:xG x v with
  | false=>rfl
  | true=>rw[ho] at e1;simp at e1
 ·cases ho:vK x v with
  | false=>rfl
  | true=>rw[ho] at e2;simp at e2
 ·cases ho:xQ x v with
  | false=>rfl
  | true=>rw[ho] at e3;simp at e3
 ·by_cases hn:v.nU≤s.1
  ·rw[zF (by simpa using hn)] at e0;cases e0
  omega
 ·intro hc hm;rw[zF (by simpa using ⟨hc,hm⟩)] at e7;cases e7
 unfold rS;have ac:=hx;rw[ac]
structure RtL {β:Type}(fs:List FI) (f:List UInt8→β→Int) (l:List (VI β)):Prop where
 each:∀ v∈l,∃ x,RtV fs f x v
 rise:l.Pairwise fun a b=>a.nU<b.nU
 apart:l.Pairwise fun a b=>wU fs a.nU≤0∨wU fs a.nU≠wU fs b.nU
theorem C7u {v:VI β}(h:RtV fs f x v):wU fs v.nU=x.cE:=by
 have ac:fs.find? (fun y=>decide (y.nU=v.nU))=some x:=h.fld;unfold wU;rw[ac]
theorem cG {β:Type}{fs:List FI}{f:List UInt8→β→Int}:∀ {l:List (VI β)}{s:Int×List Int},vP fs f l s=0→RtL fs f l∧(∀ v∈l,s.1<v.nU)∧∀ v∈l,0<wU fs v.nU→wU fs v.nU∉s.2
 | [],_,_=>⟨⟨fun _ h=>by simp at h,.nil,.nil⟩,fun _ h=>by simp at h,fun _ h=>by simp at h⟩
 | v::l,s,h=>by
  unfold vP at h
  split at h
  ·rename_i hv
   obtain⟨x,hx,h1,h2,h3⟩:=D6f hv
   rw[h3] at h
   obtain⟨⟨g1,g2,g3⟩,g4,g5⟩:=cG h
   have hc:=C7u hx
   refine⟨⟨fun a ha=>?_,.cons (fun a ha=>?_) g2,.cons (fun a ha=>?_) g3⟩,fun a ha=>?_,fun a ha hp=>?_⟩
   ·rcases yY.1 ha with rfl|ha
    ·exact⟨x,hx⟩
    ·exact g1 a ha
   ·exact g4 a ha
   ·by_cases hp:wU fs v.nU≤0
    ·exact .inl hp
    ·refine .inr fun e=>?_
     have h6:=g5 a ha (by omega)
     rw[←e,hc] at h6
     rw[hc] at hp
     unfold tF at h6
     rw[zF (by omega)] at h6
     simp at h6
   ·rcases yY.1 ha with rfl|ha
    ·exact h1
    ·have:=g4 a ha
     dsimp only at this
     omega
   ·rcases yY.1 ha with rfl|ha
    ·rw[hc] at hp ⊢
     exact h2 hp
    ·have h6:=g5 a ha hp
     unfold tF at h6
     split at h6
     ·simp only[zU,not_or] at h6
      exact h6.1
     ·exact h6
  ·rename_i hv
   exact absurd h hv
theorem pU {k:Int}{b:BI (d+1)}(h:yT g (d+1) k fs b=0):k≤12∧RtL fs (fun name s=>yT g d (k+1) (wL g name) s) (BO.vals b)∧∀ r∈BO.unk b,vC fs r=0:=by
 rw[mO] at h;split at h
 ·cases h
 split at h
 ·rename_i h1 h2;exact⟨by omega,(cG h2).1,gC h⟩
 rename_i h1 h2;exact absurd h h2
theorem kX {v:VI β}(h1:xG x v=false)(h2:vK x v=false)(hm:x.many=false)(hk:x.kind=10):∃ s,v.subs = [s]:=by
 unfold xG at h1;rw[zC (by omega),zF hk] at h1;unfold vK yS at h2;rw[hm] at h2;simp only[uZ,pF,jS,Bool.and_true] at h1 h2;exact jR.1 (by omega)
theorem UC {g:GI}(ac:kN g):∀ (d:Nat) (k:Int) (m:MI) (b:BI d),m∈g.mG→BOk d b→yT g d k m.fD b=0→ShB g.mG d m b
 | 0,_,_,b,_,_,_=>nomatch (b:Empty)
 | d+1,k,m,b,hm,hok,h=>by
  obtain⟨_,hr,_⟩:=pU h
  intro v hv
  obtain⟨x,hx⟩:=hr.each v hv
  refine⟨(hok.1 v hv).1,x,hx.fld,fun h1 h2=>?_⟩
  obtain⟨s,hs⟩:=kX hx.others hx.misc h1 h2
  obtain⟨m',ag⟩:=ac m hm x (xL hx.fld) h2
  have ah:=xL ag
  have hz:=hx.subs s (by rw[hs];exact zS.2 rfl)
  unfold wL at hz
  rw[ag] at hz
  exact⟨m',s,ag,hs,UC ac d (k+1) m' s ah ((hok.1 v hv).2.2.2.2.2.1 s (by rw[hs];exact zS.2 rfl)) hz⟩
def VQk {β:Type}(Q : β→Prop)(v:VI β):Prop:=I64 v.nU∧(∀ n∈v.bits,n<18446744073709551616)∧(∀ l∈v.bytes,l.length*1≤reachBytes)∧∀ s∈v.subs,Q s
def BQk:(d:Nat)→BI d→Prop
 | 0=>fun _=>False
 | d+1=>fun b=>(∀ v∈BO.vals b,VQk (BQk d) v)∧∀ r∈BO.unk b,kU r
theorem fE:∀ (d:Nat) (b:BI d),BOk d b→BQk d b
 | 0,_,h=>h
 | d+1,b,h=>⟨fun v hv=>⟨(h.1 v hv).1,(h.1 v hv).2.1,(h.1 v hv).2.2.2.1,fun s hs=>fE d s ((h.1 v hv).2.2.2.2.2.1 s hs)⟩,h.2.2.1⟩
theorem dL {α:Type}(f : α→Nat){l:List α}{a : α}(h:a∈l):f a≤(l.map f).sum:=by
 induction l with
 | nil=>cases h
 | cons b l ih=>
 simp only[wS,tZ];rcases yY.1 h with rfl|h
 ·omega
 have:=ih h;omega
theorem ZD:∀ (d:Nat) (b:BI d),BQk d b→jWB d b≤1000000000→BOk d b
 | 0,_,h,_=>h
 | d+1,b,h,hw=>by
  have hw':((BO.vals b).map (jW (jWB d))).sum+(BO.unk b).length≤1000000000:=hw
  have hl:=tY (jW (jWB d)) (fun v=>by unfold jW;omega) (BO.vals b)
  refine⟨fun v hv=>?_,by unfold reachBytes;omega,h.2,by unfold reachBytes;omega⟩
  have h1:1+v.bits.length+v.bytes.length+(v.subs.map fun s=>1+jWB d s).sum≤((BO.vals b).map (jW (jWB d))).sum:=dL (jW (jWB d)) hv
  have h2:=tY (fun s=>1+jWB d s) (fun _=>by omega) v.subs
  obtain⟨q1,q2,q3,q4⟩:=h.1 v hv
  refine⟨q1,q2,by unfold reachBytes;omega,q3,by unfold reachBytes;omega,fun s hs=>ZD d s (q4 s hs) ?_,by unfold reachBytes;omega⟩
  have:=dL (fun s=>1+jWB d s) hs
  omega
theorem D6u {J:MI→β→β→β}(hJ:∀ M s t,Q s→Q t→Q (J M s t)){a b:VI β}(ha:VQk Q a)(hb:VQk Q b):VQk Q (zX J ms x a b):=by
 unfold zX;split
 ·refine⟨ha.1,fun n hn=>?_,fun n hn=>?_,fun n hn=>?_⟩
  ·rcases zU.1 hn with h|h
   ·exact ha.2.1 n h
   exact hb.2.1 n h
  ·rcases zU.1 hn with h|h
   ·exact ha.2.2.1 n h
   exact hb.2.2.1 n h
  rcases zU.1 hn with h|h
  ·exact ha.2.2.2 n h
  exact hb.2.2.2 n h
 split
 ·split
  ·rename_i M s l t m h1 h2 h3;refine⟨ha.1,ha.2.1,ha.2.2.1,fun n hn=>?_⟩;rw[zS.1 hn];exact hJ M s t (ha.2.2.2 s (by rw[h2];exact vF ..)) (hb.2.2.2 t (by rw[h3];exact vF ..))
  exact ha
 exact hb
theorem D1o {J:MI→β→β→β}(hJ:∀ M s t,Q s→Q t→Q (J M s t)){v:VI β}(hl:∀ a∈l,VQk Q a)(hv:VQk Q v):∀ a∈wC J ms fs l v,VQk Q a:=by
 intro a ha;unfold wC at ha;split at ha
 ·exact hl a ha
 split at ha
 ·rcases pD ha with rfl|h
  ·exact hv
  exact hl a h
 rename_i u hu;rcases pD ha with rfl|h
 ·exact D6u hJ (hl u (xL hu)) hv
 exact hl a h
theorem C8h {β:Type}{Q : β→Prop}{J:MI→β→β→β}(hJ:∀ M s t,Q s→Q t→Q (J M s t)){ms:List MI}{fs:List FI}:∀ (m l:List (VI β)),(∀ a∈l,VQk Q a)→(∀ a∈m,VQk Q a)→∀ a∈m.foldl (wC J ms fs) l,VQk Q a
 | [],_,hl,_=>hl
 | v::m,l,hl,hm=>C8h hJ m _ (D1o hJ hl (hm v (vF ..))) fun a ha=>hm a (wW _ ha)
theorem ZS (ms:List MI):∀ (d:Nat) (M:MI) (a b:BI d),BQk d a→BQk d b→BQk d (jnB ms d M a b)
 | 0,_,_,_,h,_=>h
 | d+1,M,a,b,ha,hb=>⟨C8h (fun M s t=>ZS ms d M s t) _ _ ha.1 hb.1,fun r hr=>by
  have ac:r∈BO.unk a++BO.unk b:=hr
  rcases zU.1 ac with h|h
  ·exact ha.2 r h
  ·exact hb.2 r h⟩
theorem D8h {a b:BI d}(ha:BOk d a)(hb:BOk d b)(hw:jWB d a+jWB d b≤1000000000):BOk d (jnB ms d M a b):=
 ZD d _ (ZS ms d M a b (fE d a ha) (fE d b hb)) (yN (iL ms d M a b) hw)
def ZcAt (w:World)(x:Addr)(z:List UInt8×PV):Prop:=w.cell? x=some z.2.v
theorem ZcAt.sT:fJ ZcAt:=fun _ _ _ _ hb h=>zQ hb h
theorem ZcAt.plain:qQ ZcAt:=fun _ _ _ _ _ h=>pV h
theorem Row.rdZc {l:List (List UInt8×PV)}(h:Row ekZ w base v l):RdL 1 ZcAt w v l:=h.rd ZcAt fun g i a hc=>by have:=hc 0 _ rfl;simpa [ZcAt] using this
theorem E1j {l:List (List UInt8)}(h:RdL 1 ZAt w v l):∃ l':List (List UInt8×PV),l'.map Prod.fst=l∧RdL 1 ZcAt w v l'∧∀ z∈l',RdL 1 YAt w z.2.v z.1:=by
 obtain⟨ao,n,cap,rfl,h1,h2,h3,h4,h5⟩:=h;obtain⟨l',e1,e2⟩:=TF l (fun k z (p:PV)=>∀ x,ao=some x→w.cell? (x.add (k*1))=some p.v∧RdL 1 YAt w p.v z) fun k a ha=>by
  cases ao with
  | none=>have:=(h4 rfl).1;rw[uE (h1.trans this)] at ha;simp at ha
  | some x=>
  obtain⟨v,c,r⟩:=h5 x rfl k a ha;obtain⟨a3,n3,c3,rfl,_,_⟩:=r.sH;exact⟨(a3,n3,c3),fun y hy=>by cases hy;exact⟨c,r⟩⟩
 refine⟨l',e1,⟨ao,n,cap,rfl,by rw[←h1,←e1];simp,h2,h3,h4,fun x hx k a ha=>(e2 k a ha x hx).1⟩,fun z hz=>?_⟩;obtain⟨k,hk⟩:=List.mem_iff_getElem?.1 hz;cases ao with
 | none=>
  have:=(h4 rfl).1;have hl:l'.length=0:=by rw[←yX (f:=Prod.fst),e1,h1];exact this
  rw[uE hl] at hz;cases hz
 | some x=>exact(e2 k z hk x rfl).2
theorem ZM (w:World)(r:RI)(a:Option Addr)(n c:Nat):∀ ad,some (⟨w.heap.size,0,none⟩:Addr)=some ad→∀ k y,[(r,((a,n,c):PV))][k]?=some y→∀ j u,(ekR.enc y)[j]?=some u→(w.alloc (.cells #[.int .i64 r.nU,.int .i64 r.how,.int .u64 (r.bits:Int),.slice a n c] 78)).cell? (ad.add (k*ekR.size+j))=some u:=mL ekR w (r,(a,n,c))
theorem SB {l:List (List UInt8×PV)}(h:RdL 1 ZcAt w v l)(hy:∀ z∈l,RdL 1 YAt W z.2.v z.1∨Row ekY w base z.2.v z.1)(hb0:base≤w.heap.size)(hl:l.length≤1048576)(num:Int) :
  Calls Tryz.prog 78 #[.int .i64 num,v] w fun e w'=>∃ ao n cap,e = .returned (.slice ao n cap)∧RecL W w' base (.slice ao n cap) (l.map fun z=>⟨num,2,0,z.1⟩)∧zB w w':=by
 obtain⟨a1,n1,c1,rfl,H1,_⟩:=h.sH;have ba:n1≤1048576:=by rw[H1.out];exact hl
 obtain⟨R,HR⟩:∃ R:List (RI×PV),Hid (R=l.map fun z=>(⟨num,2,0,z.1⟩,z.2)):=⟨_,rfl⟩
 have au:R.length=l.length:=by rw[HR.out];simp
 go_enter Tryz.func78,Tryz.ntmps78;go_wp2_with fail
 go_loopg [5,10] n1 (fun m u i wr=>∃ (k:Nat) (ao:Option Addr) (no co:Nat),k+m=n1∧i = .int .i64 k∧u = .slice ao no co∧Row ekR wr w.heap.size (.slice ao no co) (R.take k)∧zB w wr)
 case atStart=>exact⟨0,none,0,0,by omega,rfl,rfl,by rw[mA];exact Row.nil _ _ _,zH _ _⟩
 obtain⟨k,ao,no,co,hk,rfl,rfl,hr,hb⟩:=hrel;by_cases hlt:k<n1
 ·obtain⟨x,Hx⟩:=yE (l:=l) (k:=k) (by rw[←H1.out];exact hlt);obtain⟨b,off,rfl,hat⟩:=(h.bL ZcAt.sT hb).get ZcAt.plain Hx.out;obtain⟨z,⟨az,nz,cz⟩⟩:=x;have s0:wr.cell? ⟨b,off+k,none⟩=some (.slice az nz cz):=by simpa [ZcAt,PV.v] using hat
  have aw:(k:Int)<(n1:Int):=by omega
  have ak:R[k]?=some (⟨num,2,0,z⟩,(az,nz,cz)):=by rw[HR.out,sE,Hx.out];rfl
  have hlk:(R.take k).length≤1048576:=by rw[vZ];omega
  have av:=fun k (hk:(Value.slice ao no co).ownBlock=some k)=>(hr.own k hk).1
  clear hat;go_wp2_with (at_builtin;refine tP (by rfl) ekR _ _ (by rfl) w.heap.size (.slice ao no co) (R.take k) [(⟨num,2,0,z⟩,(az,nz,cz))] (by rfl) (hr.bL ((zH _ _).alloc (zG _) _)) (some ⟨wr.heap.size,0,none⟩) 1 1 (by rfl) (by rfl) (by intro e;cases e) (ZM wr ⟨num,2,0,z⟩ az nz cz) (by decide) ?d2 ?d3 ?_)
  case d2=>
   rw[show ekR.bytes=48 from rfl];simp only[sQ,rH];omega
  case d3=>simp;have:=hb.size;omega
  intro v' w3 hr3 hg3;obtain⟨a2,n2,c2,rfl,_⟩:=hr3.shape';have aj:=(hb.alloc hb.size _).grown hg3 (by simp;have:=hb.size;omega) av;have ag:Row ekR w3 w.heap.size (.slice a2 n2 c2) (R.take (k+1)):=by rw[vX ak];exact hr3
  clear hr3;go_wp2_with fail
  go_roundg (n1-(k+1))
  case measure=>omega
  case rel=>exact⟨k+1,a2,n2,c2,by omega,by go_num,rfl,ag,aj⟩
 have hr1:Row ekR wr w.heap.size (.slice ao no co) R:=by
  rw[uP (by rw[au,←H1.out];omega)] at hr;exact hr
 have ac:RecL W wr base (.slice ao no co) (l.map fun z=>⟨num,2,0,z.1⟩):=by
  refine⟨R,hr1.mono hb0,by rw[HR.out,jQ];rfl,fun r ah=>?_⟩;rw[HR.out] at ah;obtain⟨z,hz,rfl⟩:=vT.1 ah;exact(hy z hz).imp id fun k=>k.bL hb
 clear hr hr1;go_wp2;go_ret;exact⟨ao,no,co,rfl,ac,hb⟩
def CDeep (d:Nat)(W:World)(fn:Nat)(cap:Array Value)(name:List UInt8)(f:BI d→List UInt8×Int)(x:BI d):Prop:=
 ∀ (V:World) (v0 v1:Value),zB W V→KQ d V v0 v1 x→Calls Tryz.prog fn (#[.string (S name),.agg #[v0,v1]]++cap) V fun e w'=>∃ ao n c,e = .returned (.tuple #[.slice ao n c,.int .i64 (f x).2])∧Row ekY w' V.heap.size (.slice ao n c) (f x).1∧zB V w'
theorem CDeep.bL {W':World}{f:BI d→List UInt8×Int}{x:BI d}(h:CDeep d W fn cap name f x)(hb:zB W W'):CDeep d W' fn cap name f x:=
 fun V v0 v1 hV=>h V v0 v1 (zK hb hV)
def rD {β:Type}(f : β→List UInt8×Int):List (List UInt8)→List β→List (List UInt8)×Int
 | acc,[]=>(acc,0)
 | acc,b::r=>if (f b).2≠0 then([],(f b).2) else rD f (acc++[(f b).1]) r
theorem D5y {f : β→List UInt8×Int}{l:List β}{b : β}(h:l[k]?=some b)(acc:List (List UInt8)):rD f acc (l.drop k)=if (f b).2≠0 then([],(f b).2) else rD f (acc++[(f b).1]) (l.drop (k+1)):=by
 obtain⟨hk,rfl⟩:=yG.1 h;rw[uQ hk];rfl
def vH (num:Int)(b:List UInt8):RI:=⟨num,2,0,b⟩
theorem D9t (w:World)(z:List UInt8)(a:Option Addr)(n c:Nat):∀ ad,some (⟨w.heap.size,0,none⟩:Addr)=some ad→∀ k y,[(z,((a,n,c):PV))][k]?=some y→∀ j u,(ekZ.enc y)[j]?=some u→(w.alloc (.cells #[.slice a n c] 30)).cell? (ad.add (k*ekZ.size+j))=some u:=mL ekZ w (z,(a,n,c))
theorem B3u (W:World){l:List (BI d)}(h:RdL 2 (BAt d) w v l)(hl:l.length≤1048576)(x:FI)(cw:∀ (args:Array Value) (w:World),(callFunc fn args).run Tryz.prog w = .ok (.enter fn args) w)
  {f:BI d→List UInt8×Int}(aj:∀ y∈l,CDeep d w fn cap x.type f y) :
  Calls Tryz.prog 77 #[fv x,v,.func (.func fn) #[] cap] w fun e w'=>∃ ao n c,e = .returned (.tuple #[.slice ao n c,.int .i64 (rD f [] l).2])∧RecL W w' w.heap.size (.slice ao n c) ((rD f [] l).1.map (vH x.nU))∧zB w w':=by
 obtain⟨a1,n1,c1,rfl,H1,_⟩:=h.sH;have hn:n1≤1048576:=by rw[H1.out];exact hl
 obtain⟨q,Hq⟩:=yP (rD f [] l);rw[Hq.out];obtain⟨W0,bn,hb0,x0,hz0⟩:=zV w (.cells #[.string (S x.name),.int .i64 x.nU,.int .i64 x.kind,.string (S x.type),.bool x.many,.int .i64 x.cE] 47);unfold fv;go_enter Tryz.func77,Tryz.ntmps77;go_wp2_with fail
 rw[←bn.out];go_loopg [8,15] n1 (fun m u i wr=>∃ (k:Nat) (ao:Option Addr) (no co:Nat) (acc:List (List UInt8×PV)),k+m=n1∧i = .int .i64 k∧u = .slice ao no co∧Row ekZ wr W0.heap.size (.slice ao no co) acc∧(∀ z∈acc,Row ekY wr W0.heap.size z.2.v z.1)∧acc.length≤k∧Hid (rD f (acc.map Prod.fst) (l.drop k)=q)∧zB W0 wr)
 case atStart=>exact⟨0,none,0,0,[],by omega,rfl,rfl,Row.nil _ _ _,fun _ hz=>(xP hz).elim,zG _,Hq,zH _ _⟩
 case round=>
  obtain⟨k,ao,no,co,acc,hk,rfl,rfl,hr,bl,cj,HK,hb⟩:=hrel;have au:=zK hb0 hb;have dg:=hb.size;by_cases hlt:k<n1
  ·obtain⟨y,Hx⟩:=yE (l:=l) (k:=k) (by rw[←H1.out];exact hlt);obtain⟨b,off,rfl,hat⟩:=(h.bL (BAt.sT d) au).get (BAt.plain d) Hx.out;obtain⟨v0,v1,s0,s1,hq⟩:=hat.kq;obtain⟨e0,m0,p0,e1,m1,p1,rfl,rfl⟩:=hq.sH;have dh:(k:Int)<(n1:Int):=by omega
   obtain⟨W1,bc,hb1,-,hz1⟩:=zV wr (.cells #[.slice e0 m0 p0,.slice e1 m1 p1] 29);have hx:=aj y (xV Hx.out) W1 _ _ (zK au hb1) (hq.bL hb1);have HS:=D5y (f:=f) Hx.out (acc.map Prod.fst);obtain⟨B,E,HE⟩:∃ B E,Hid (f y=(B,E)):=⟨_,_,rfl⟩
   rw[HE.out] at hx HS;obtain⟨t0,t1,t2,t3,t4,t5⟩:=tW ((zN hb).trans x0);have u4:(wr.alloc (.cells #[.slice e0 m0 p0,.slice e1 m1 p1] 29)).cell? ⟨w.heap.size,3,none⟩=some (.string (S x.type)):=zQ ((zH _ _).alloc (zG _) _) t3;clear hat;by_cases hE:E=0
   ·have cg:(E != 0)=false:=by simp[hE]
    have ac:Hid (rD f (acc.map Prod.fst++[B]) (l.drop (k+1))=q):=by
     show _=_;rw[←HK.out,HS,zC (by simp[hE])]
    clear hE HS;go_wp2_with fail
    rw[←bc.out];refine hx.mono ?_;rintro e w2 ⟨a2,n2,c2,rfl,hr2,hb2⟩;have ag:=zK hb1 hb2;have ah:=zK hb ag;have av:=hr.bL ag;have ak:Row ekY w2 W0.heap.size (PV.v (a2,n2,c2)) B:=hr2.mono (by omega);clear hx u4 hr hr2;go_wp2_with (at_builtin;refine tP (by rfl) ekZ _ _ (by rfl) W0.heap.size (.slice ao no co) acc [(B,(a2,n2,c2))] (by rfl) (av.bL ((zH _ _).alloc (zG _) _)) (some ⟨w2.heap.size,0,none⟩) 1 1 (by rfl) (by rfl) (by intro e;cases e) (D9t w2 B a2 n2 c2) (by decide) ?d2 (oO ah (zG _) _).size ?_)
    case d2=>
     rw[show ekZ.bytes=24 from rfl];simp only[sQ,rH];omega
    intro v' w5 bh aw;obtain⟨a5,n5,c5,rfl,_⟩:=bh.shape';have bu:=D6s (oO ah (zG _) _) (zG _) aw (fun k hk=>(av.own k hk).1);have df:∀ z∈acc++[(B,((a2,n2,c2):PV))],Row ekY w5 W0.heap.size z.2.v z.1:=fun z hz=>by
     have bg:zB w2 (w2.alloc (.cells #[.slice a2 n2 c2] 30)):=(zH _ _).alloc (zG _) _;rcases zU.1 hz with hz|hz
     ·have h1:=(bl z hz).bL ag;exact(h1.bL bg).grown aw (h1.ne av (by decide))
     ·rw[zS] at hz;subst hz;exact(ak.bL bg).grown aw (ak.ne av (by decide))
    go_wp2_with fail
    go_roundg (n1-(k+1))
    case measure=>omega
    case rel=>exact⟨k+1,a5,n5,c5,_,by omega,by go_num,rfl,bh,df,by rw[yQ];simp;omega,by show _=_;rw[wM];exact ac.out,bu⟩
   ·have cg:(E != 0)=true:=by simpa using hE
    have ac:Hid (q=([],E)):=by
     show _=_;rw[←HK.out,HS,zF hE]
    clear hE HS;go_wp2_with fail
    rw[←bc.out];refine hx.mono ?_;rintro e w2 ⟨a2,n2,c2,rfl,hr2,hb2⟩;have ag:=zK au (zK hb1 hb2);go_wp2;go_ret2;exact⟨none,0,0,by rw[ac.out];rfl,by rw[ac.out];exact RecL.nil _ _ _,ag⟩
  ·have ac:Hid (q=(acc.map Prod.fst,0)):=by
    show _=_;rw[←HK.out,nC (by rw[←H1.out];omega)];rfl
   have hsz:=SB (W:=W) hr.rdZc (fun z hz=>.inr (bl z hz)) dg (by omega) x.nU;obtain⟨t0,t1,t2,t3,t4,t5⟩:=tW ((zN hb).trans x0);go_wp2_with fail
   refine hsz.mono ?_;rintro e w6 ⟨a6,n6,c6,rfl,bk,cu⟩;have ba:RecL W w6 w.heap.size (.slice a6 n6 c6) (q.1.map (vH x.nU)):=by
    rw[ac.out,jQ];exact bk.mono (by omega)
   clear hsz bk;go_wp2;go_ret2;exact⟨a6,n6,c6,by rw[ac.out];rfl,ba,zK au cu⟩
def uU {β:Type}(deep:List UInt8→β→List UInt8×Int)(x:FI)(v:VI β):List RI×Int:=
 if x.kind=10 then((rD (deep x.type) [] v.subs).1.map (vH x.nU),(rD (deep x.type) [] v.subs).2)
 else if yI x.kind=2 then(v.bytes.map (vH x.nU),0)
 else if x.many=true then([vH x.nU (rF (yI x.kind) (v.bits.map (wH x.kind)))],0)
 else([⟨x.nU,yI x.kind,wH x.kind (v.bits.headD 0),[]⟩],0)
theorem E0i (w:World)(b:List UInt8)(ao:Option Addr)(n cap:Nat):RdL 1 ZcAt (w.alloc (.cells #[.slice ao n cap] 30)) (.slice (some ⟨w.heap.size,0,none⟩) 1 1) [(b,((ao,n,cap):PV))]:=by
 refine⟨_,1,1,rfl,rfl,zG _,by unfold maxLen;omega,(fun e=>by cases e),fun x hx k a ha=>?_⟩;cases hx
 cases k with
 | succ k=>simp at ha
 | zero=>
 have ha:(b,((ao,n,cap):PV))=a:=by simpa using ha
 subst ha;rw[xS];exact zL (yM w _) 0 _ rfl
theorem C0w (hW:zB W w){v2 v3:Value}{v:VI (BI d)}{Q:BI d→Prop}(h1:RdL 1 UAt w v1 v.bits)(h2:RdL 1 ZAt W v2 v.bytes)(h3:RdL 2 (BAt d) w v3 v.subs)(hv:VSm Q v)(x:FI)(ah:x.kind≠10→yI x.kind≠2→x.many=false→v.bits≠[])(bk:∀ (args:Array Value) (w:World),(callFunc fn args).run Tryz.prog w = .ok (.enter fn args) w)
  {deep:List UInt8→BI d→List UInt8×Int}(ag:x.kind=10→∀ y∈v.subs,CDeep d w fn cap x.type (deep x.type) y) :
  Calls Tryz.prog 29 #[fv x,.agg #[.int .i64 v.nU,v1,v2,v3],.func (.func fn) #[] cap] w fun e w'=>∃ ao n c,e = .returned (.tuple #[.slice ao n c,.int .i64 (uU deep x v).2])∧RecL W w' w.heap.size (.slice ao n c) (uU deep x v).1∧zB w w':=by
 obtain⟨dm,hv2,hv3,hv4,dn,dr⟩:=hv;obtain⟨a1,n1,c1,rfl,H1,_⟩:=h1.sH;obtain⟨a2,n2,c2,rfl,H2,_⟩:=h2.sH;obtain⟨a3,n3,c3,rfl,H3,_⟩:=h3.sH;obtain⟨q,Hq⟩:=yP (uU deep x v);rw[Hq.out];obtain⟨W0,bu,-,hz0,x0,x1⟩:=uD w (.cells #[.string (S x.name),.int .i64 x.nU,.int .i64 x.kind,.string (S x.type),.bool x.many,.int .i64 x.cE] 47) (.cells #[.int .i64 v.nU,.slice a1 n1 c1,.slice a2 n2 c2,.slice a3 n3 c3] 63);have hb0:zB w W0:=by rw[bu.out];exact B7c _ _ _
 obtain⟨Hw,aw⟩:=zM (yI x.kind);have bl:=YA x.kind;rw[←aw.out] at bl ah;have hcb:=fun V (hV:zB W0 V)=>D3a (h1.bL UAt.sT (zK hb0 hV)) hv2 (by omega) x.kind
 have hle:∀ y∈v.bits.map (wH x.kind),y≤18446744073709551615:=fun y hy=>by
  obtain⟨n,hn,rfl⟩:=vT.1 hy;exact dP _ _ (hv2 n hn)
 have dg:(v.bits.map (wH x.kind)).length≤1048576:=by rw[yX];exact dm
 obtain⟨L,HL⟩:=zM (v.bits.map (wH x.kind));rw[←HL.out] at hcb hle dg;have au:=fun V (hV:zB W0 V)=>yH hV (yH (tW ((zN hV).trans x0)) (vI ((zN hV).trans x1)))
 have hd:zB W0 W0.drew:=(zH _ _).drew;have cj:=hcb W0.drew hd;unfold fv;go_enter Tryz.func29,Tryz.ntmps29;go_wp2_with fail
 rw[←bu.out];go_cut [8,9] from 10 to 17 (fun s8 s9 wc=>∃ (ab:Option Addr) (nb cb:Nat),s8 = .int .i64 Hw∧s9 = .slice ab nb cb∧Row ekU wc W0.heap.size (.slice ab nb cb) L∧zB W0 wc)
 case first=>
  go_region_held3 (fun V=>zB W0 V∧(V.cell? ⟨w.heap.size,0,none⟩=some (.string (S x.name))∧V.cell? ⟨w.heap.size,1,none⟩=some (.int .i64 x.nU)∧V.cell? ⟨w.heap.size,2,none⟩=some (.int .i64 x.kind)∧V.cell? ⟨w.heap.size,3,none⟩=some (.string (S x.type))∧V.cell? ⟨w.heap.size,4,none⟩=some (.bool x.many)∧V.cell? ⟨w.heap.size,5,none⟩=some (.int .i64 x.cE))∧V.cell? ⟨w.heap.size+1,0,none⟩=some (.int .i64 v.nU)∧V.cell? ⟨w.heap.size+1,1,none⟩=some (.slice a1 n1 c1)∧V.cell? ⟨w.heap.size+1,2,none⟩=some (.slice a2 n2 c2)∧V.cell? ⟨w.heap.size+1,3,none⟩=some (.slice a3 n3 c3)) ((with_reducible refine au _ ?_;with_reducible (first|exact hd|exact ak))) ((first|(go_at_call 4;refine(bl _).mono ?_;rintro e wm ⟨rfl,rfl⟩)|(go_at_call 76;refine cj.mono ?_;rintro e w1 ⟨ab,nb,cb,rfl,hr1,hb1⟩;have ak:=zK hd hb1)))
  all_goals
   go_wp2_with fail
   go_meet
  all_goals exact⟨ab,nb,cb,rfl,rfl,hr1,ak⟩
 case rest=>
  obtain⟨ab,nb,cb,rfl,rfl,bn,ak⟩:=hcut;have ac:=zK hb0 ak;obtain⟨_,⟨t0,t1,t2,t3,t4,t5⟩,t6,t7,t8,t9⟩:=au wc ak;have hz1:=ak.size;clear cj hcb bl;by_cases e10:x.kind=10
  ·have cw:(x.kind==10)=true:=by simp[e10]
   have HN:Hid (q=((rD (deep x.type) [] v.subs).1.map (vH x.nU),(rD (deep x.type) [] v.subs).2)):=by show _=_;rw[←Hq.out,uU,zF e10]
   have hc:=B3u W (h3.bL (BAt.sT d) ac) dn x bk (cap:=cap) (f:=deep x.type) (fun y hy=>(ag e10 y hy).bL ac);unfold fv at hc;clear e10 ag ah au;go_wp2_with fail
   refine hc.mono ?_;rintro e w2 ⟨a,m,c,rfl,hr,hb⟩;go_wp2;go_ret2;exact⟨a,m,c,by rw[HN.out];rfl,by rw[HN.out];exact hr.mono ac.size,zK ac hb⟩
  ·have cw:(x.kind==10)=false:=by simp[e10]
   by_cases e2:Hw=2
   ·have b2:(Hw==2)=true:=by simp[e2]
    have HN:Hid (q=(v.bytes.map (vH x.nU),0)):=by show _=_;rw[←Hq.out,uU,zC e10,zF (by rw[←aw.out];exact e2)]
    obtain⟨l',k1,k2,k3⟩:=E1j h2;have hc:=SB (W:=W) (base:=w.heap.size) ((k2.bL ZcAt.sT hW).bL ZcAt.sT ac) (fun z hz=>.inl (k3 z hz)) ac.size (by rw[←yX (f:=Prod.fst),k1];exact hv3) x.nU;clear e10 ag ah au e2;go_wp2_with fail
    refine hc.mono ?_;rintro e w2 ⟨a,m,c,rfl,hr,hb⟩;have dl:RecL W w2 w.heap.size (.slice a m c) (v.bytes.map (vH x.nU)):=by rw[←k1,jQ];exact hr
    go_wp2;go_ret2;exact⟨a,m,c,by rw[HN.out];rfl,by rw[HN.out];exact dl,zK ac hb⟩
   ·have b2:(Hw==2)=false:=by simp[e2]
    by_cases av:x.many=true
    ·have HN:Hid (q=([vH x.nU (rF Hw L)],0)):=by show _=_;rw[←Hq.out,uU,zC e10,zC (by rw[←aw.out];exact e2),zF av,←aw.out,←HL.out]
     have cu:=fun V (hV:zB wc V)=>C5r (bn.bL hV).rdU hle (by omega) Hw
     have hsz:∀ (V:World) (a:Option Addr) (m c B:Nat),w.heap.size≤B→B≤V.heap.size→Row ekY V B (.slice a m c) (rF Hw L)→Calls Tryz.prog 78 #[.int .i64 x.nU,.slice (some ⟨V.heap.size,0,none⟩) 1 1] (V.alloc (.cells #[.slice a m c] 30)) fun e w'=>∃ ao n cap,e = .returned (.slice ao n cap)∧RecL W w' w.heap.size (.slice ao n cap) [vH x.nU (rF Hw L)]∧Below (V.alloc (.cells #[.slice a m c] 30)).heap.size (V.alloc (.cells #[.slice a m c] 30)) w':=fun V a m c B ak ba hr=>by
      have:=SB (W:=W) (base:=w.heap.size) (E0i V (rF Hw L) a m c) (fun z hz=>by
       rw[zS] at hz;subst hz;exact .inr ((hr.mono ak).bL ((zH _ _).alloc (zG _) _))) (by simp;omega) (by simp) x.nU
      exact this
     have bh:=fun V (hV:zB wc V)=>yH hV ((au V (zK ak hV)).2.1.2.1)
     have bc:zB wc wc.drew:=(zH _ _).drew;have di:=cu wc.drew bc;rw[av] at t4;clear e10 ag ah au e2 cu;go_wp2_with fail
     go_region_held3 (fun V=>zB wc V∧V.cell? ⟨w.heap.size,1,none⟩=some (.int .i64 x.nU)) ((with_reducible refine bh _ ?_;with_reducible (first|exact bc|exact ba|exact oO ba (zG _) _|exact cg))) ((first|(go_at_call 79;refine di.mono ?_;rintro e w2 ⟨ap,np,cp,rfl,hr2,hb2⟩;have ba:=zK bc hb2)|(go_at_call 78;refine(hsz w2 ap np cp _ (yN ac.size bc.size) hb2.size hr2).mono ?_;rintro e w3 ⟨az,nz,cz,rfl,hr3,hb3⟩;have cg:=zK (oO ba (zG _) _) hb3)))
     all_goals
      clear hr2;go_wp2;go_ret2;exact⟨az,nz,cz,by rw[HN.out];rfl,by rw[HN.out];exact hr3,zK ac cg⟩
    ·have av:x.many=false:=by simpa using av
     have hne:=ah e10 e2 av;obtain⟨b0,bs,aj⟩:∃ b0 bs,v.bits=b0::bs:=by
      cases hbx:v.bits with
      | nil=>exact absurd hbx hne
      | cons b0 bs=>exact⟨b0,bs,rfl⟩
     have HN:Hid (q=([⟨x.nU,Hw,wH x.kind b0,[]⟩],0)):=by show _=_;rw[←Hq.out,uU,zC e10,zC (by rw[←aw.out];exact e2),zC (by simp[av]),←aw.out,aj];rfl
     have bg:L[0]?=some (wH x.kind b0):=by rw[HL.out,aj];rfl
     obtain⟨gb,rfl,hcb⟩:=bn.get bg;have s0:wc.cell? ⟨gb,0,none⟩=some (.int .u64 ((wH x.kind b0:Nat):Int)):=by simpa [ekU,dE] using hcb 0 _ rfl
     have dp:0<nb:=by rw[bn.len];exact(yG.1 bg).1
     have dh:(0:Int)<(nb:Int):=by omega
     obtain⟨y,Hy⟩:=yP (wH x.kind b0);rw[Hy.out] at s0 HN;rw[av] at t4;clear e10 ag ah au e2 hcb bg aj hne;have hrow:RecL W (wc.alloc (.cells #[.int .i64 x.nU,.int .i64 Hw,.int .u64 (y:Int),.slice none 0 0] 78)).drew w.heap.size (.slice (some ⟨wc.heap.size,0,none⟩) 1 1) [⟨x.nU,Hw,y,[]⟩]:=by
      refine⟨[(⟨x.nU,Hw,y,[]⟩,(none,0,0))],(Row.one ekR wc (⟨x.nU,Hw,y,[]⟩,(none,0,0)) ac.size).keep fun _ _ _=>rfl,rfl,fun r hr=>?_⟩;rw[zS] at hr;subst hr;exact .inl (RdL.nil _ _ _)
     have df:zB w (wc.alloc (.cells #[.int .i64 x.nU,.int .i64 Hw,.int .u64 (y:Int),.slice none 0 0] 78)).drew:=(zK ac ((zH _ _).alloc (zG _) _)).drew;go_wp2_with fail
     go_region
     all_goals
      go_wp2_with fail
      go_ret2;exact⟨_,_,_,by rw[HN.out];rfl,by rw[HN.out];exact hrow,df⟩
def sK {β:Type}(deep:List UInt8→β→List UInt8×Int)(fs:List FI):List RI→List (VI β)→List RI×Int
 | acc,[]=>(acc,0)
 | acc,v::r=>if (uU deep (xE fs v.nU) v).2≠0 then([],(uU deep (xE fs v.nU) v).2) else sK deep fs (acc++(uU deep (xE fs v.nU) v).1) r
theorem D0v {deep:List UInt8→β→List UInt8×Int}{v:VI β}(h:l[k]?=some v)(acc:List RI):sK deep fs acc (l.drop k)=if (uU deep (xE fs v.nU) v).2≠0 then([],(uU deep (xE fs v.nU) v).2) else sK deep fs (acc++(uU deep (xE fs v.nU) v).1) (l.drop (k+1)):=by
 obtain⟨hk,rfl⟩:=yG.1 h;rw[uQ hk];rfl
def iK {β:Type}(deep:List UInt8→β→List UInt8×Int)(m:MI)(b:BO β):List UInt8×Int:=
 if (sK deep m.fD [] b.vals).2≠0 then([],(sK deep m.fD [] b.vals).2) else rL [] ((sK deep m.fD [] b.vals).1++b.unk)
def aP:MI:=⟨[],[],[]⟩
def xI (g:GI)(t:List UInt8):MI:=(g.mG.find? fun m=>decide (m.name=t)).getD aP
def uB (g:GI):(d:Nat)→MI→BI d→List UInt8×Int
 | 0,_,_=>([],0)
 | d+1,m,b=>iK (fun t x=>uB g d (xI g t) x) m b
def E1u {β:Type}(g:GI)(Q:List UInt8→β→Prop)(m:MI)(v:VI β):Prop:=
 (∃ f∈m.fD,f.nU=v.nU)∧
 ((xE m.fD v.nU).kind≠10→yI (xE m.fD v.nU).kind≠2→(xE m.fD v.nU).many=false→v.bits≠[])∧
 ((xE m.fD v.nU).kind=10→(∃ mm∈g.mG,mm.name=(xE m.fD v.nU).type)∧∀ s∈v.subs,Q (xE m.fD v.nU).type s)
def E1l {β:Type}(g:GI)(Q:List UInt8→β→Prop)(m:MI)(b:BO β):Prop:=b.vals.length≤1048576∧∀ v∈b.vals,E1u g Q m v
def fB (g:GI):(d:Nat)→MI→BI d→Prop
 | 0,_,_=>True
 | d+1,m,b=>E1l g (fun t x=>fB g d (xI g t) x) m b
theorem B6y:∀ (l:List RI) (acc:List UInt8),acc.length≤4000→(rL acc l).1.length≤4000
 | [],acc,h=>h
 | r::l,acc,_=>by
  rw[rL]
  split
  ·simp
  ·split
   ·simp
   ·exact B6y l _ (by omega)
theorem UY (g:GI):∀ (d:Nat) (m:MI) (b:BI d),(uB g d m b).1.length≤4000
 | 0,_,_=>by simp[uB]
 | _+1,m,b=>by
  show(iK _ m b).1.length≤4000
  unfold iK
  split
  ·simp
  ·exact B6y _ _ (by simp)
theorem VK {β:Type}(f : β→List UInt8×Int)(hf:∀ x,(f x).1.length≤4000):∀ (l:List β) (acc:List (List UInt8)),(∀ z∈acc,z.length≤4000)→(∀ z∈(rD f acc l).1,z.length≤4000)∧(rD f acc l).1.length≤acc.length+l.length
 | [],acc,h=>⟨h,by simp[rD]⟩
 | b::r,acc,h=>by
  rw[rD]
  split
  ·exact⟨(fun z hz=>by cases hz),by simp⟩
  ·have:=VK f hf r (acc++[(f b).1]) fun z hz=>by
    rcases zU.1 hz with hz|hz
    ·exact h z hz
    ·rw[zS] at hz;subst hz;exact hf b
   refine⟨this.1,?_⟩
   have h2:=this.2
   rw[yQ] at h2
   simp only[sQ,rH] at h2 ⊢
   omega
def RSm (r:RI):Prop:=r.bits≤18446744073709551615∧r.bytes.length≤100000000
theorem C2y (deep:List UInt8→β→List UInt8×Int)(hf:∀ t x,(deep t x).1.length≤4000)(x:FI)(v:VI β)(hv:VSm Q v):(∀ r∈(uU deep x v).1,RSm r)∧(uU deep x v).1.length≤1048576:=by
 obtain⟨h1,h2,h3,h4,h5,_⟩:=hv;unfold uU;split
 ·have:=VK (deep x.type) (hf x.type) v.subs [] (fun z hz=>by cases hz);refine⟨fun r hr=>?_,?_⟩
  ·obtain⟨z,hz,rfl⟩:=vT.1 hr;have:=this.1 z hz;exact⟨qA _,by show z.length≤_;omega⟩
  rw[yX];have:=this.2;simp only[rH] at this;omega
 split
 ·refine⟨fun r hr=>?_,by rw[yX];exact h3⟩;obtain⟨z,hz,rfl⟩:=vT.1 hr;have:=h4 z hz;exact⟨qA _,by show z.length≤_;omega⟩
 split
 ·refine⟨fun r hr=>?_,by simp⟩;rw[zS] at hr;subst hr;have:=TX (yI x.kind) (v.bits.map (wH x.kind));rw[yX] at this;exact⟨qA _,by show(rF _ _).length≤_;omega⟩
 refine⟨fun r hr=>?_,by simp⟩;rw[zS] at hr;subst hr;refine⟨?_,by simp⟩;show wH x.kind (v.bits.headD 0)≤_;cases hb:v.bits with
 | nil=>exact dP _ _ (by simp)
 | cons a r=>exact dP _ _ (h2 a (by rw[hb];simp))
theorem B8n {β:Type}{Q : β→Prop}(deep:List UInt8→β→List UInt8×Int)(hf:∀ t x,(deep t x).1.length≤4000)(fs:List FI):∀ (l:List (VI β)) (acc:List RI),(∀ v∈l,VSm Q v)→(∀ r∈acc,RSm r)→(∀ r∈(sK deep fs acc l).1,RSm r)∧(sK deep fs acc l).1.length≤acc.length+l.length*1048576
 | [],acc,_,h=>⟨h,by simp[sK]⟩
 | v::r,acc,hv,h=>by
  rw[sK]
  split
  ·exact⟨(fun z hz=>by cases hz),by simp⟩
  ·have h0:=C2y deep hf (xE fs v.nU) v (hv v (by simp))
   have:=B8n deep hf fs r (acc++(uU deep (xE fs v.nU) v).1) (fun v hv'=>hv v (wW _ hv')) fun z hz=>by
    rcases zU.1 hz with hz|hz
    ·exact h z hz
    ·exact h0.1 z hz
   refine⟨this.1,?_⟩
   have h2:=this.2
   rw[yQ] at h2
   have h3:=h0.2
   rw[sQ,iC]
   omega
theorem C9r {l:List MI}(h:∃ m∈l,m.name=t):∃ k:Nat,yK (fun m=>decide (m.name=t)) l=(k:Int)∧l[k]?=some ((l.find? fun m=>decide (m.name=t)).getD aP)∧((l.find? fun m=>decide (m.name=t)).getD aP).name=t∧(l.find? fun m=>decide (m.name=t)).getD aP∈l:=by
 unfold yK
 induction l with
 | nil=>obtain⟨f,hf,_⟩:=h;cases hf
 | cons a r ih=>
 by_cases ha:a.name=t
 ·refine⟨0,?_,?_,?_,?_⟩ <;> simp[oW,ha]
 have h':∃ f∈r,f.name=t:=by
  obtain⟨f,hf,hn⟩:=h;rcases yY.1 hf with rfl|hf
  ·exact absurd hn ha
  exact⟨f,hf,hn⟩
 obtain⟨k,h1,h2,h3,h4⟩:=ih h';have e:(a::r).find? (fun f=>decide (f.name=t))=r.find? fun f=>decide (f.name=t):=by simp[ha]
 rw[e];refine⟨k+1,?_,by simpa using h2,h3,wW _ h4⟩;rw[oW];simp only[ha,decide_false,mS,if_false];cases hx:r.findIdx? (fun f=>decide (f.name=t)) with
 | none=>rw[hx] at h1;simp at h1
 | some j=>rw[hx] at h1;simp at h1 ⊢;omega
theorem D9v (h:∃ m∈g.mG,m.name=t):∃ k:Nat,yK (fun m=>decide (m.name=t)) g.mG=(k:Int)∧g.mG[k]?=some (xI g t)∧(xI g t).name=t∧xI g t∈g.mG:=C9r h
def OSw {β:Type}(Q : β→Prop)(b:BO β):Prop:=(∀ v∈b.vals,VSm Q v)∧b.unk.length*48≤reachBytes∧∀ r∈b.unk,r.bits≤18446744073709551615∧r.bytes.length≤1048576
def BSw:(d:Nat)→BI d→Prop
 | 0=>fun _=>True
 | d+1=>fun b=>OSw (BSw d) b
def YG (g:GI)(d:Nat):Prop:=∀ (w:World) (vm ve vf vb v0 v1:Value) (m:MI) (b:BI d),GRd w vm ve g→RdL 6 FAt w vf m.fD→RdL 1 NAt w vb m.barred→KQ d w v0 v1 b→BSw d b→fB g d m b→
 Calls Tryz.prog 15 #[.agg #[vm,ve],.agg #[.string (S m.name),vf,vb],.agg #[v0,v1]] w fun e w'=>∃ ao n c,e = .returned (.tuple #[.slice ao n c,.int .i64 (uB g d m b).2])∧Row ekY w' w.heap.size (.slice ao n c) (uB g d m b).1∧zB w w'
theorem D2r (ih:YG g d)(hg:GRd W vm ve g)(xf:W.heap[cf]?=some (.cells #[vm,ve] 25 (0,0)))(ht:∃ m∈g.mG,m.name=t){x:BI d}(hx:BSw d x)(hf:fB g d (xI g t) x) :
  CDeep d W 27 #[.pointer (some ⟨cf,0,none⟩)] t (fun y=>uB g d (xI g t) y) x:=by
 intro V v0 v1 hV hq;show Calls Tryz.prog 27 #[.string (S t),.agg #[v0,v1],.pointer (some ⟨cf,0,none⟩)] V _;obtain⟨e0,m0,p0,e1,m1,p1,rfl,rfl⟩:=hq.sH;obtain⟨am,nm,cm,rfl,bg,_⟩:=hg.1.sH;obtain⟨ae,ne,ce,rfl,_,_⟩:=hg.2.sH;have bh:=(zR xf)
 obtain⟨j,hj,aj,ba,ac⟩:=D9v ht;have bu:j<nm:=by rw[bg.out];exact(yG.1 aj).1
 have bn:(j:Int)<(nm:Int):=by omega
 obtain⟨M,HM⟩:=zM (xI g t);rw[←HM.out] at aj ba hf ⊢;obtain⟨bm,om,rfl,hat⟩:=(hg.bL hV).1.get MAt.plain aj;obtain⟨vf,vb,s0,s1,s2,av,au⟩:=hat.at;obtain⟨af,nf,kf,rfl,_,_⟩:=av.sH;obtain⟨ab,nb,kb,rfl,_,_⟩:=au.sH;obtain⟨W1,bc,hb1,x1,hz1⟩:=zV V (.cells #[.slice e0 m0 p0,.slice e1 m1 p1] 29);have y1:=(hV.block _ bh).trans xf;have bk:∀ U,zB W1 U→zB W1 U∧(U.cell? ⟨cf,0,none⟩=some (.slice (some ⟨bm,om,none⟩) nm cm)∧U.cell? ⟨cf,1,none⟩=some (.slice ae ne ce))∧(U.cell? ⟨V.heap.size,0,none⟩=some (.slice e0 m0 p0)∧U.cell? ⟨V.heap.size,1,none⟩=some (.slice e1 m1 p1))∧U.cell? ⟨bm,om+j*3,none⟩=some (.string (S M.name))∧U.cell? ⟨bm,om+j*3+1,none⟩=some (.slice af nf kf)∧U.cell? ⟨bm,om+j*3+2,none⟩=some (.slice ab nb kb):=fun U hU=>by
  have ah:=zK hb1 hU;have hcv:=(zR y1)
  exact⟨hU,zO ((ah.block _ hcv).trans y1),zO ((zN hU).trans x1),zQ ah s0,zQ ah s1,zQ ah s2⟩
 have bl:∀ U,zB W1 U→Calls Tryz.prog 28 #[.agg #[.slice (some ⟨bm,om,none⟩) nm cm,.slice ae ne ce],.string (S t)] U fun e w'=>e = .returned (.int .i64 (j:Int))∧zB U w':=fun U hU=>by
  have:=fX ((hg.bL hV).bL (zK hb1 hU)).1 ⟨ae,ne,ce,rfl⟩ t;rw[hj] at this;exact this
 have hwt:=fun U (hU:zB W1 U)=>ih U _ _ _ _ _ _ M x ((hg.bL hV).bL (zK hb1 hU)) (av.bL FAt.sT (zK hb1 hU)) (au.bL NAt.sT (zK hb1 hU)) (hq.bL (zK hb1 hU)) hx hf
 obtain⟨R,HR⟩:=yP (uB g d M x);show Calls Tryz.prog 27 #[.string (S t),.agg #[.slice e0 m0 p0,.slice e1 m1 p1],.pointer (some ⟨cf,0,none⟩)] V fun e w'=>∃ ao n c,e = .returned (.tuple #[.slice ao n c,.int .i64 (uB g d M x).2])∧Row ekY w' V.heap.size (.slice ao n c) (uB g d M x).1∧zB V w'
 rw[HR.out] at hwt ⊢;have hd:zB W1 W1.drew:=(zH _ _).drew;clear hat s0 s1 s2 aj ba hj ac ht ih hx hf hq av au hg;go_enter Tryz.func27,Tryz.ntmps27;go_wp2_with fail
 rw[←bc.out];go_region_held3 (fun U=>zB W1 U∧(U.cell? ⟨cf,0,none⟩=some (.slice (some ⟨bm,om,none⟩) nm cm)∧U.cell? ⟨cf,1,none⟩=some (.slice ae ne ce))∧(U.cell? ⟨V.heap.size,0,none⟩=some (.slice e0 m0 p0)∧U.cell? ⟨V.heap.size,1,none⟩=some (.slice e1 m1 p1))∧U.cell? ⟨bm,om+j*3,none⟩=some (.string (S M.name))∧U.cell? ⟨bm,om+j*3+1,none⟩=some (.slice af nf kf)∧U.cell? ⟨bm,om+j*3+2,none⟩=some (.slice ab nb kb)) ((with_reducible refine bk _ ?_;with_reducible (first|exact hd|exact ag|exact aw))) ((first|(go_at_call 28;refine(bl _ (by with_reducible exact hd)).mono ?_;rintro e w2 ⟨rfl,hb2⟩;have ag:=zK hd hb2)|(go_at_call 15;refine(hwt _ (by with_reducible exact ag)).mono ?_;rintro e w3 ⟨az,nz,cz,rfl,hr3,hb3⟩;have aw:=zK ag hb3)))
 all_goals
  have ak:=hr3.mono (yN hb1.size ag.size);clear hr3;go_wp2;go_ret2;exact⟨az,nz,cz,rfl,ak,zK hb1 aw⟩
theorem D2s (ih:YG g d):YG g (d+1):=by
 intro w vm ve vf vb v0 v1 m b hg hf dg hq hsm di;have hq:BRd d w v0 v1 b:=hq;obtain⟨hv,fz,f6⟩:OSw (BSw d) b:=hsm;obtain⟨f9,fk⟩:E1l g (fun t x=>fB g d (xI g t) x) m b:=di;obtain⟨am,nm,cm,rfl,gh,_⟩:=hg.1.sH;obtain⟨ae,ne,ce,rfl,_,_⟩:=hg.2.sH;obtain⟨af,nf,cf,rfl,eh,_⟩:=hf.sH;obtain⟨ab,nb,cb,rfl,_,_⟩:=dg.sH;obtain⟨a0,n0,c0,rfl,H0,_⟩:=hq.1.sH;obtain⟨a1,n1,c1,rfl,H1,_⟩:=hq.2.sH;have gq:n0≤1048576:=by rw[H0.out];exact f9
 obtain⟨R,HR⟩:=yP (uB g (d+1) m b);rw[HR.out];obtain⟨q,Hq⟩:∃ q,Hid (sK (fun t x=>uB g d (xI g t) x) m.fD [] b.vals=q):=⟨_,rfl⟩
 have dp:Hid (R=if q.2≠0 then([],q.2) else rL [] (q.1++b.unk)):=by
  show _=_;rw[←HR.out,←Hq.out];rfl
 have bg:=B8n (fun t x=>uB g d (xI g t) x) (fun t x=>UY g d _ x) m.fD b.vals [] hv (fun r hr=>by cases hr);rw[Hq.out] at bg;obtain⟨W0,au⟩:=zM (((w.alloc (.cells #[.slice am nm cm,.slice ae ne ce] 25)).alloc (.cells #[.string (S m.name),.slice af nf cf,.slice ab nb cb] 35)).alloc (.cells #[.slice a0 n0 c0,.slice a1 n1 c1] 29));have hb0:zB w W0:=by rw[au.out];exact(((zH _ _).alloc (zG _) _).alloc (by simp) _).alloc (by simp;omega) _
 have hz0:w.heap.size+3≤W0.heap.size:=by rw[au.out];simp
 obtain⟨x3,x2,x1⟩:=D6n w (.cells #[.slice am nm cm,.slice ae ne ce] 25) (.cells #[.string (S m.name),.slice af nf cf,.slice ab nb cb] 35) (.cells #[.slice a0 n0 c0,.slice a1 n1 c1] 29);rw[←au.out] at x1 x2 x3;obtain⟨t0,t1⟩:=zO (g:=w.heap.size+1+1) x3;have u0:=t0;have u1:=t1;rw[au.out] at u0 u1;have gp:=tM;go_enter Tryz.func15,Tryz.ntmps15;go_wp2_with fail
 rw[←au.out];go_loopg [9,20] n0 (fun mm u i wr=>∃ (k:Nat) (ao:Option Addr) (no co:Nat) (acc:List RI),k+mm=n0∧i = .int .i64 k∧u = .slice ao no co∧RecL w wr W0.heap.size (.slice ao no co) acc∧acc.length≤k*1048576∧Hid (sK (fun t x=>uB g d (xI g t) x) m.fD acc ((BO.vals b).drop k)=q)∧zB W0 wr)
 case atStart=>exact⟨0,none,0,0,[],by omega,rfl,rfl,RecL.nil _ _ _,by simp,Hq,zH _ _⟩
 obtain⟨k,ao,no,co,acc,hk,rfl,rfl,hr,aw,HK,hb⟩:=hrel;have ak:=zK hb0 hb;have dz:=hb.size;by_cases hlt:k<n0
 ·obtain⟨v,Hx⟩:=yE (l:=(BO.vals b)) (k:=k) (by rw[←H0.out];exact hlt);have cu:=xV Hx.out;obtain⟨dx,dm,ac⟩:=fk v cu;obtain⟨gv,ov,rfl,dv⟩:=hq.1.get VAt.plain Hx.out;obtain⟨y1,y2,y3,z0,z1,z2,z3,r1,r2,r3⟩:=dv.at;obtain⟨b1,m1,d1,rfl,_,_⟩:=r1.sH;obtain⟨b2,m2,d2,rfl,_,_⟩:=r2.sH;obtain⟨b3,m3,d3,rfl,_,_⟩:=r3.sH;have gl:(k:Int)<(n0:Int):=by omega
  obtain⟨j,hj,bn,fu,fq⟩:=D3s dx;have HS:=D0v (deep:=fun t x=>uB g d (xI g t) x) (fs:=m.fD) Hx.out acc;have cj:=(C2y (fun t x=>uB g d (xI g t) x) (fun t x=>UY g d _ x) (xE m.fD v.nU) v (hv v cu)).2;obtain⟨f,Hf⟩:=zM (xE m.fD v.nU);rw[←Hf.out] at bn HS dm ac cj;have gj:j<nf:=by rw[eh.out];exact(yG.1 bn).1
  have gi:(j:Int)<(nf:Int):=by omega
  obtain⟨bf,of,rfl,hat⟩:=hf.get FAt.plain bn;obtain⟨B,E,HE⟩:∃ B E,Hid (uU (fun t x=>uB g d (xI g t) x) f v=(B,E)):=⟨_,_,rfl⟩
  rw[HE.out] at HS cj;obtain⟨W1,d9,hb1,xv,hz1⟩:=zV wr (.cells #[.int .i64 v.nU,.slice b1 m1 d1,.slice b2 m2 d2,.slice b3 m3 d3] 63);have ag:=zK ak hb1;have fj:∀ V,zB W1 V→Calls Tryz.prog 30 #[.agg #[.string (S m.name),.slice (some ⟨bf,of,none⟩) nf cf,.slice ab nb cb],.int .i64 v.nU] V fun e w'=>e = .returned (.int .i64 (j:Int))∧zB V w':=fun V hV=>by
   have:=iU (hf.bL FAt.sT (zK ag hV)) ⟨ab,nb,cb,rfl⟩ ⟨m.name,rfl⟩ v.nU;rw[hj] at this;exact this
  have fy:∀ V,zB W1 V→Calls Tryz.prog 29 #[.agg #[.string (S f.name),.int .i64 f.nU,.int .i64 f.kind,.string (S f.type),.bool f.many,.int .i64 f.cE],.agg #[.int .i64 v.nU,.slice b1 m1 d1,.slice b2 m2 d2,.slice b3 m3 d3],.func (.func 27) #[] #[.pointer (some ⟨w.heap.size,0,none⟩)]] V fun e w'=>∃ ao n c,e = .returned (.tuple #[.slice ao n c,.int .i64 E])∧RecL w w' V.heap.size (.slice ao n c) B∧zB V w':=fun V hV=>by
   have bl:=zK ag hV;have:=C0w bl (r1.bL UAt.sT bl) r2 (r3.bL (BAt.sT d) bl) (hv v cu) f dm (enters_of Tryz.func27 (by kernel_rfl) rfl) (cap:=#[.pointer (some ⟨w.heap.size,0,none⟩)]) (deep:=fun t x=>uB g d (xI g t) x) (fun dt y hy=>(D2r ih (hg.bL bl) ((zN (zK (zK hb hb1) hV)).trans x1) (ac dt).1 ((hv v cu).2.2.2.2.2 y hy) ((ac dt).2 y hy)));rw[HE.out] at this;exact this
  have fh:∀ V,zB W1 V→zB W1 V∧(V.cell? ⟨w.heap.size+1,0,none⟩=some (.string (S m.name))∧V.cell? ⟨w.heap.size+1,1,none⟩=some (.slice (some ⟨bf,of,none⟩) nf cf)∧V.cell? ⟨w.heap.size+1,2,none⟩=some (.slice ab nb cb))∧(V.cell? ⟨wr.heap.size,0,none⟩=some (.int .i64 v.nU)∧V.cell? ⟨wr.heap.size,1,none⟩=some (.slice b1 m1 d1)∧V.cell? ⟨wr.heap.size,2,none⟩=some (.slice b2 m2 d2)∧V.cell? ⟨wr.heap.size,3,none⟩=some (.slice b3 m3 d3))∧V.cell? ⟨bf,of+j*6,none⟩=some (.string (S f.name))∧V.cell? ⟨bf,of+j*6+1,none⟩=some (.int .i64 f.nU)∧V.cell? ⟨bf,of+j*6+2,none⟩=some (.int .i64 f.kind)∧V.cell? ⟨bf,of+j*6+3,none⟩=some (.string (S f.type))∧V.cell? ⟨bf,of+j*6+4,none⟩=some (.bool f.many)∧V.cell? ⟨bf,of+j*6+5,none⟩=some (.int .i64 f.cE):=fun V hV=>
   ⟨hV,uG ((zN (zK (zK hb hb1) hV)).trans x2),vI ((zN hV).trans xv),(FAt.sT _ _ _ _ (zK ag hV) hat).at⟩
  have hd:zB W1 W1.drew:=(zH _ _).drew;have s0:=zQ ak z0;have s1:=zQ ak z1;have s2:=zQ ak z2;have s3:=zQ ak z3;have dr:Hid (sK (fun t x=>uB g d (xI g t) x) m.fD acc ((BO.vals b).drop k)=if E≠0 then([],E) else sK (fun t x=>uB g d (xI g t) x) m.fD (acc++B) ((BO.vals b).drop (k+1))):=HS;clear HS dm ac dx dv hat hj bn fu fq z0 z1 z2 z3 r1 r2 r3 u0 u1 t0 t1;go_wp2_with fail
  rw[←d9.out];go_cut [12,13] from 24 to 37 (fun s12 gg wc=>∃ (a5:Option Addr) (n5 c5:Nat),s12 = .slice a5 n5 c5∧gg = .int .i64 E∧RecL w wc W0.heap.size (.slice a5 n5 c5) B∧zB W1 wc)
  case first=>
   go_region_held3 (fun V=>zB W1 V∧(V.cell? ⟨w.heap.size+1,0,none⟩=some (.string (S m.name))∧V.cell? ⟨w.heap.size+1,1,none⟩=some (.slice (some ⟨bf,of,none⟩) nf cf)∧V.cell? ⟨w.heap.size+1,2,none⟩=some (.slice ab nb cb))∧(V.cell? ⟨wr.heap.size,0,none⟩=some (.int .i64 v.nU)∧V.cell? ⟨wr.heap.size,1,none⟩=some (.slice b1 m1 d1)∧V.cell? ⟨wr.heap.size,2,none⟩=some (.slice b2 m2 d2)∧V.cell? ⟨wr.heap.size,3,none⟩=some (.slice b3 m3 d3))∧V.cell? ⟨bf,of+j*6,none⟩=some (.string (S f.name))∧V.cell? ⟨bf,of+j*6+1,none⟩=some (.int .i64 f.nU)∧V.cell? ⟨bf,of+j*6+2,none⟩=some (.int .i64 f.kind)∧V.cell? ⟨bf,of+j*6+3,none⟩=some (.string (S f.type))∧V.cell? ⟨bf,of+j*6+4,none⟩=some (.bool f.many)∧V.cell? ⟨bf,of+j*6+5,none⟩=some (.int .i64 f.cE)) ((with_reducible refine fh _ ?_;with_reducible (first|exact hd|exact cw|exact av))) ((first|(go_at_call 30;refine(fj _ (by with_reducible exact hd)).mono ?_;rintro e w2 ⟨rfl,hb2⟩;have cw:=zK hd hb2)|(go_at_call 29;refine(fy _ (by with_reducible exact cw)).mono ?_;rintro e w3 ⟨a5,n5,c5,rfl,cg,ew⟩;have av:=zK cw ew)))
   all_goals
    have dl:RecL w w3 W0.heap.size (.slice a5 n5 c5) B:=cg.mono (by have:=hb2.size;have:W1.drew.heap.size=W1.heap.size:=rfl;omega);clear cg;go_wp2_with fail
    go_meet
   all_goals exact⟨a5,n5,c5,rfl,rfl,dl,av⟩
  obtain⟨a5,n5,c5,rfl,rfl,cg,av⟩:=hcut;have bk:=zK (zK hb hb1) av;by_cases hE:E=0
  ·have eo:(E != 0)=false:=by simp[hE]
   have bh:Hid (sK (fun t x=>uB g d (xI g t) x) m.fD (acc++B) ((BO.vals b).drop (k+1))=q):=by
    show _=_;rw[←HK.out,dr.out,zC (by simp[hE])]
   have hr3:=(hr.bL hb1).bL av;obtain⟨l',k1,k2,k3⟩:=hr3;obtain⟨m',j1,j2,j3⟩:=cg;obtain⟨q1,q2,q3⟩:=D1g j1;have fw:l'.length≤k*1048576:=by rw[←yX (f:=Prod.fst),k2];exact aw
   have hl2:m'.length≤1048576:=by rw[←yX (f:=Prod.fst),j2];exact cj
   clear hE hr;go_wp2_with (at_builtin;refine tP (by rfl) ekR _ _ (by rfl) W0.heap.size (.slice ao no co) l' m' (by rfl) k1 a5 n5 c5 (by rfl) q1 q2 q3 (by decide) ?d2 bk.size ?_)
   case d2=>
    rw[show ekR.bytes=48 from rfl];have h1:k*1048576≤1048576*1048576:=qV _ (by omega);omega
   intro v' w6 aj bc;obtain⟨a6,n6,c6,rfl,_⟩:=aj.shape';have df:=bk.grown bc bk.size (fun k hk=>(k1.own k hk).1);have bu:=RecL.app (o:=none) k1 k2 k3 j2 j3 aj bc rfl;have eu:(acc++B).length≤(k+1)*1048576:=by
    rw[yQ,iC];have:B.length≤1048576:=cj;omega
   clear aj k1 k3 j1 j3;go_wp2_with fail
   go_roundg (n0-(k+1))
   case measure=>omega
   case rel=>exact⟨k+1,a6,n6,c6,_,by omega,by go_num,rfl,bu,eu,bh,df⟩
  have eo:(E != 0)=true:=by simpa using hE
  have HF:Hid (R=([],E)):=by
   show _=_;have e:q=([],E):=by rw[←HK.out,dr.out,zF hE]
   rw[dp.out,e,zF hE]
  clear hE;go_wp2;go_ret2;exact⟨none,0,0,by rw[HF.out];rfl,by rw[HF.out];exact Row.nil _ _ _,zK hb0 bk⟩
 have bh:Hid (q=(acc,0)):=by
  show _=_;rw[←HK.out,nC (by rw[←H0.out];omega)];rfl
 have HF:Hid (R=rL [] (acc++b.unk)):=by
  show _=_;rw[dp.out,bh.out,zC (by simp)]
 have ba:∀ r∈acc,RSm r:=by have:=bg.1;rw[bh.out] at this;exact this
 obtain⟨g0,g1⟩:=zO (g:=w.heap.size+1+1) ((zN hb).trans x3);obtain⟨m',j2,j3,q1,q2,q3⟩:=D0t hq.2;obtain⟨l',k1,k2,k3⟩:=hr;have fw:l'.length≤1048576*1048576:=by
  rw[←yX (f:=Prod.fst),k2];exact yN aw (qV _ (by omega))
 have hl2:m'.length*48≤reachBytes:=by rw[←yX (f:=Prod.fst),j2];exact fz
 have gc:∀ ad,a1=some ad→∀ k y,m'[k]?=some y→∀ j u,(ekR.enc y)[j]?=some u→wr.cell? (ad.add (k*ekR.size+j))=some u:=fun ad had k y hy j u hu=>zQ ak (q3 ad had k y hy j u hu)
 clear q3;go_wp2_with (at_builtin;refine C1m (by rfl) ekR rfl _ _ (by rfl) W0.heap.size (.slice ao no co) l' m' (by rfl) k1 a1 n1 c1 (by rfl) q1 q2 gc ?d1 ?d2 dz ?_)
 case d1=>omega
 case d2=>
  unfold reachBytes at hl2;omega
 intro v' w6 aj bc;obtain⟨a6,n6,c6,rfl,_⟩:=aj.shape';have df:=hb.grown bc dz (fun k hk=>(k1.own k hk).1);have ah:=zK hb0 df;have bu:=RecL.app (o:=none) k1 k2 k3 j2 (fun r hr=>.inl (j3 r hr)) aj bc rfl;have hby:=C6w (bu.rd ah) (fun r hr=>by
  rcases zU.1 hr with hr|hr
  ·exact ba r hr
  have:=f6 r hr;exact⟨this.1,by omega⟩)
 rw[←HF.out] at hby;clear aj k1 k3 j3 bu;go_wp2_with fail
 refine hby.mono ?_;rintro e w7 ⟨a7,n7,c7,ei,rfl,dy,fd⟩;obtain⟨E7,dn⟩:=yP (R.2);rw[dn.out];obtain⟨W8,ee,dw,x8,-⟩:=zV w7 (.cells #[.int .i64 E7,.int .i64 ei] 54);obtain⟨p0,p1⟩:=zO x8;have dh:Row ekY W8.drew w.heap.size (.slice a7 n7 c7) R.1:=((dy.bL dw).mono ah.size).keep fun _ _ _=>rfl
 have fe:=(zK (zK ah fd) dw).drew;clear hby dy;go_wp2_with fail
 rw[←ee.out];go_region
 all_goals
  go_wp2_with fail
  go_ret2;exact⟨a7,n7,c7,by rw[dn.out];rfl,dh,fe⟩
theorem C3r (g:GI):∀ d,YG g d
 | 0=>fun _ _ _ _ _ _ _ _ _ _ _ _ hq _ _=>hq.elim
 | d+1=>D2s (C3r g d)
theorem TM (h:fs.find? (isF n)=some x):xE fs n=x:=by
 unfold xE;rw[show fs.find? (fun f=>decide (f.nU=n))=some x from h];rfl
theorem C9q (h:g.mG.find? (isN t)=some m):xI g t=m:=by
 unfold xI;rw[show g.mG.find? (fun m=>decide (m.name=t))=some m from h];rfl
def BVn:(d:Nat)→BI d→Prop
 | 0=>fun _=>True
 | d+1=>fun b=>(BO.vals b).length≤1048576∧∀ v∈BO.vals b,∀ s∈v.subs,BVn d s
theorem B8r {g:GI}(ah:kN g):∀ (d:Nat) (k:Int) (m:MI) (b:BI d),m∈g.mG→BVn d b→yT g d k m.fD b=0→fB g d m b
 | 0,_,_,b,_,_,_=>nomatch (b:Empty)
 | d+1,k,m,b,hm,hs,h=>by
  obtain⟨_,hr,_⟩:=pU h
  refine⟨hs.1,fun v hv=>?_⟩
  obtain⟨x,hx⟩:=hr.each v hv
  have ef:=TM hx.fld
  have av:=xL hx.fld
  refine⟨⟨x,av,qI hx.fld⟩,fun aj kh aw=>?_,fun aj=>?_⟩
  ·rw[ef] at aj kh aw
   have ac:=hx.misc
   have ag:=hx.others
   unfold xG at ag
   have ba:¬ (x.kind=8∨x.kind=9):=fun h=>kh (by unfold yI;rcases h with h|h <;> simp[h])
   rw[zC ba,zC aj] at ag
   have hz:v.bytes.length+v.subs.length=0:=by simpa using ag
   intro e
   unfold vK yS at ac
   rw[e] at ac
   simp only[rH,pF,uZ] at ac
   have:=ac.1
   omega
  ·rw[ef] at aj ⊢
   obtain⟨m',ak⟩:=ah m hm x av aj
   have au:=xL ak
   have e:=C9q (g:=g) (t:=x.type) ak
   refine⟨⟨m',au,by have:=rN ak;simpa using this⟩,fun s hs'=>?_⟩
   have hz:=hx.subs s hs'
   unfold wL at hz
   rw[ak] at hz
   show fB g d (xI g x.type) s
   rw[e]
   exact B8r ah d (k+1) m' s au (hs.2 v hv s hs') hz
def nH (g:GI)(d:Nat)(msg:Int)(x:BI (d+1)):List UInt8×Int:=
 if wD g d msg x≠0 then([],wD g d msg x)
 else match g.mG[msg.toNat]? with
  | some m=>uB g (d+1) m x
  | none=>([],6)
theorem UW {x:BI (d+1)}(h:wD g d msg x=0):(yB g).1=0∧∃ (j:Nat) (m:MI),msg=(j:Int)∧g.mG[j]?=some m∧yT g (d+1) 1 m.fD x=0:=by
 unfold wD at h;split at h
 ·rename_i h1;exact absurd h h1
 rename_i h1;split at h
 ·cases h
 rename_i h2;split at h
 ·rename_i m hm;exact⟨by omega,msg.toNat,m,by omega,hm,h⟩
 cases h
theorem C2o:∀ (ns l:List Int),l.Nodup→(∀ a∈l,a∈ns)→l.length≤ns.length
 | [],l,_,h=>by
  cases l with
  | nil=>simp
  | cons a l=>exact absurd (h a (vF ..)) (by simp)
 | n::ns,l,hn,h=>by
  have h1:=C2o ns (l.erase n) (hn.erase n) fun a ha=>by
   obtain⟨h2,h3⟩:=hn.mem_erase_iff.1 ha
   rcases yY.1 (h a h3) with rfl|h4
   ·exact absurd rfl h2
   ·exact h4
  rw[sQ]
  by_cases hm:n∈l
  ·rw[List.length_erase_of_mem hm] at h1
   omega
  ·rw[List.erase_of_not_mem hm] at h1
   omega
theorem D8t (h:RtL fs f l):l.length≤fs.length:=by
 have h1:=C2o (fs.map FI.nU) (l.map VI.nU) (by
  rw[List.Nodup,List.pairwise_map];exact h.rise.imp fun hab e=>by omega) fun a ha=>by
   obtain⟨v,hv,rfl⟩:=vT.1 ha;obtain⟨x,hx⟩:=h.each v hv;rw[←qI hx.fld];exact bG (xL hx.fld)
 simpa using h1
theorem B9j {num how:Int}{bits len:Nat}(h:yW num how bits len=0):len≤4000:=by
 unfold yW at h;split at h
 ·cases h
 split at h
 ·cases h
 rename_i h1;split at h
 ·cases h
 split at h
 ·cases h
 split at h
 ·cases h
 split at h
 ·cases h
 rename_i h2;by_cases h3:how=2
 ·exact Nat.le_of_not_lt fun h4=>h1 ⟨h3,h4⟩
 exact Nat.le_of_not_lt fun h4=>h2 ⟨h3,by omega⟩
theorem B8s {g:GI}(aj:(yB g).1=0):∀ (d:Nat) (k:Int) (m:MI) (b:BI d),m∈g.mG→BOk d b→yT g d k m.fD b=0→BSw d b∧BVn d b
 | 0,_,_,b,_,_,_=>nomatch (b:Empty)
 | d+1,k,m,b,hm,hok,h=>by
  obtain⟨_,hr,hu⟩:=pU h
  have hl:=D8t hr
  have au:=(ZI ((YL aj).2.2 m hm)).1
  have ac:∀ v∈BO.vals b,∀ s∈v.subs,BSw d s∧BVn d s:=fun v hv s hs=>by
   obtain⟨x,hx⟩:=hr.each v hv
   have ag:=XA hx.others (fun e=>by rw[e] at hs;cases hs)
   obtain⟨M,hM⟩:=sY aj m hm x (xL hx.fld) ag
   have hz:=hx.subs s hs
   unfold wL at hz
   rw[hM] at hz
   exact B8s aj d (k+1) M s (xL hM) ((hok.1 v hv).2.2.2.2.2.1 s hs) hz
  refine⟨⟨fun v hv=>?_,hok.2.2.2,fun r ak=>?_⟩,by omega,fun v hv s hs=>(ac v hv s hs).2⟩
  ·obtain⟨x,hx⟩:=hr.each v hv
   have ah:=hx.misc
   unfold vK yS at ah
   simp only[pF,uZ] at ah
   have av:=ah.2.1
   refine⟨by omega,fun n hn=>by have:=(hok.1 v hv).2.1 n hn;omega,by omega,fun z hz=>?_,by omega,fun s hs=>(ac v hv s hs).1⟩
   have:=hx.bytes z hz
   unfold wN at this
   split at this
   ·cases this
   ·omega
  ·have h1:=hu r ak
   have h2:=hok.2.2.1 r ak
   refine⟨by have:=h2.2.2.1;omega,?_⟩
   unfold vC at h1
   split at h1
   ·rename_i h3
    have:=B9j h3
    omega
   ·rename_i h3
    exact absurd h1 h3
theorem C3e {x:BI (d+1)}(ac:BOk (d+1) x)(h:wD g d msg x=0):BSw (d+1) x∧BVn (d+1) x:=by
 obtain⟨h1,j,m,_,hm,he⟩:=UW h;exact B8s h1 (d+1) 1 m x (xV hm) ac he
theorem C7r (hI:WIn g am nm cm ae ne ce msg w){x:BI (d+1)}(hq:BRd d w (.slice a0 n0 c0) (.slice a1 n1 c1) x)(ah:BOk (d+1) x) :
  Calls Tryz.prog 8 #[.agg #[.slice am nm cm,.slice ae ne ce],.int .i64 msg,.agg #[.slice a0 n0 c0,.slice a1 n1 c1]] w fun e w'=>∃ ao n c,e = .returned (.tuple #[.slice ao n c,.int .i64 (nH g d msg x).2])∧Row ekY w' w.heap.size (.slice ao n c) (nH g d msg x).1∧zB w w':=by
 obtain⟨W2,bn,hb2,z2,x1,x2⟩:=uD w (.cells #[.slice am nm cm,.slice ae ne ce] 25) (.cells #[.slice a0 n0 c0,.slice a1 n1 c1] 29);obtain⟨Q,HQ⟩:=yP (wD g d msg x);have hwr:=(hI.bL hb2).wrong (hq.bL hb2) ah;rw[HQ.out] at hwr;obtain⟨R,HR⟩:=yP (nH g d msg x);rw[HR.out];obtain⟨y0,y1⟩:=zO x1;obtain⟨y2,y3⟩:=zO x2;have HI:Hid (WIn g am nm cm ae ne ce msg w):=hI;have bh:=zI hq;have bk:Hid (wD g d msg x=0→BSw (d+1) x):=fun hz=>(C3e ah hz).1
 have bl:Hid (wD g d msg x=0→BVn (d+1) x):=fun hz=>(C3e ah hz).2
 clear hI hq ah;go_enter Tryz.func8,Tryz.ntmps8;go_upto_region 1 with fail
 rw[←bn.out];go_wp2_with fail
 refine hwr.mono ?_;rintro e w3 ⟨rfl,hb3⟩;have ak:=zP hb2 hb3;clear y0 y1 y2 y3 hwr;by_cases hQ0:Q=0
 ·subst hQ0;obtain⟨hr,j,M,Hj,hM,bc⟩:=UW HQ.out;have HT:Hid (R=uB g (d+1) M x):=by
   show _=_;rw[←HR.out,nH,zC (by rw[HQ.out];simp),Hj,qU,hM]
  have bu:=HI.out.hg.1.len.1;have cw:=(yG.1 hM).1;have ag:=B8r (sY hr) (d+1) 1 M x (xV hM) (bl.out HQ.out) bc;subst Hj;obtain⟨bm,om,rfl,hat⟩:=HI.out.hg.1.get MAt.plain hM;obtain⟨vf,vb,s0,s1,s2,aw,av⟩:=hat.at;obtain⟨af,nf,kf,rfl,_,_⟩:=aw.sH;obtain⟨ab,nb,kb,rfl,_,_⟩:=av.sH;have df:(j:Int)<(nm:Int):=by omega
  have cu:¬ (j:Int)<0:=by omega
  have hd:=hb3.drew;have ac:∀ V,zB W2 V→V.cell? ⟨w.heap.size,0,none⟩=some (.slice (some ⟨bm,om,none⟩) nm cm)∧V.cell? ⟨w.heap.size,1,none⟩=some (.slice ae ne ce)∧V.cell? ⟨w.heap.size+1,0,none⟩=some (.slice a0 n0 c0)∧V.cell? ⟨w.heap.size+1,1,none⟩=some (.slice a1 n1 c1)∧V.cell? ⟨bm,om+j*3,none⟩=some (.string (S M.name))∧V.cell? ⟨bm,om+j*3+1,none⟩=some (.slice af nf kf)∧V.cell? ⟨bm,om+j*3+2,none⟩=some (.slice ab nb kb):=fun V hV=>by
   have ba:=zP hb2 hV;obtain⟨e1,e2⟩:=zO ((zN hV).trans x1);obtain⟨e3,e4⟩:=zO ((zN hV).trans x2);exact⟨e1,e2,e3,e4,zQ ba s0,zQ ba s1,zQ ba s2⟩
  have hwt:∀ U,zB W2 U→Calls Tryz.prog 15 #[.agg #[.slice (some ⟨bm,om,none⟩) nm cm,.slice ae ne ce],.agg #[.string (S M.name),.slice af nf kf,.slice ab nb kb],.agg #[.slice a0 n0 c0,.slice a1 n1 c1]] U fun e w'=>∃ ao n c,e = .returned (.tuple #[.slice ao n c,.int .i64 R.2])∧Row ekY w' U.heap.size (.slice ao n c) R.1∧zB U w':=fun U hU=>by
   have aj:=zP hb2 hU;rw[HT.out];exact C3r g (d+1) U _ _ _ _ _ _ M x (HI.out.hg.bL aj) (aw.bL FAt.sT aj) (av.bL NAt.sT aj) (bh.out.bL aj) (bk.out HQ.out) ag
  clear hat s0 s1 s2 aw av hM bc ag bu cw;go_upto_region 4 with fail
  refine wp_region_held_drew (S:=fun U=>zB W2 U) (by kernel_rfl) hd (fun hHeld=>?_);refine zTk 0 rfl ac ?_
  try simp only[zE]
  refine zTk 1 rfl ac ?_
  try simp only[zE]
  refine zTk 2 rfl ac ?_
  try simp only[zE]
  refine zTk 3 rfl ac ?_
  try simp only[zE]
  refine zTk 4 rfl ac ?_
  try simp only[zE]
  refine zTk 5 rfl ac ?_
  try simp only[zE]
  refine zTk 6 rfl ac ?_
  try simp only[zE]
  refine rA (i:=7) rfl fun K hK=>?_
  go_simp;refine(hwt _ hd).mono ?_;rintro e w5 ⟨az,nz,cz,rfl,bg,cj⟩;have cg:=zP hd cj;refine hK.out _ _ ?_ (fun hHeld=>?_)
  ·(try dsimp only);with_reducible assumption
  clear hK K
  try simp only[zE]
  refine zTk 8 rfl ac ?_
  try simp only[zE]
  refine zTk 9 rfl ac ?_
  try simp only[zE]
  refine zTk 10 rfl ac ?_
  try simp only[zE]
  refine zTk 11 rfl ac ?_
  try simp only[zE]
  refine wpAnyH_done (by kernel_rfl) ?_ _;have hz3:=hb3.size;have au:=bg.mono (by show w.heap.size≤w3.heap.size;omega);clear bg;go_wp2;go_ret2;exact⟨az,nz,cz,rfl,au,zP hb2 cg⟩
 have HT:Hid (R=([],Q)):=by show _=_;rw[←HR.out,nH,zF (by rw[HQ.out];exact hQ0),HQ.out]
 have ez:(Q != 0)=true:=by simpa using hQ0
 go_wp2;go_ret2;exact⟨none,0,0,by rw[HT.out];rfl,by rw[HT.out];exact Row.nil _ _ _,ak⟩
theorem B2b {β:Type}(q:Int→Bool)(n:Int):∀ l:List (VI β),(l.filter fun a=>q a.nU).find? (isV n)=if q n then l.find? (isV n) else none
 | []=>by simp
 | a::l=>by
  have ih:=B2b q n l
  by_cases ha:a.nU=n
  ·cases hq:q n with
   | true=>
    rw[List.filter_cons_of_pos (by rw[ha];exact hq),eG (by simp[isV,ha]),zF rfl,eG (by simp[isV,ha])]
   | false=>
    rw[List.filter_cons_of_neg (by rw[ha,hq];simp),ih,hq]
    rfl
  ·rw[eD (l:=l) (by simp[isV,ha])]
   by_cases hq:q a.nU=true
   ·rw[List.filter_cons_of_pos (p:=fun a:VI β=>q a.nU) hq,eD (by simp[isV,ha]),ih]
   ·rw[List.filter_cons_of_neg (p:=fun a:VI β=>q a.nU) hq,ih]
theorem C2j {y:VI β}(hx:fs.find? (isF y.nU)=some x)(n:Int) :
  (putN fs x l y).find? (isV n)=if n=y.nU then(if xQ x y then none else some y) else if uX fs x n then none else l.find? (isV n):=by
 have hf:=B2b (fun n=>!uX fs x n) n l;have hs:=YP hx;unfold putN;by_cases hn:n=y.nU
 ·rw[zF hn];subst hn;rw[hs] at hf;simp only[Bool.not_true,mS,if_false] at hf;split
  ·exact hf
  have h1:∀ k,((l.filter fun a=>!uX fs x a.nU).take k).find? (isV y.nU)=none:=fun k=>by
   rw[oE] at hf ⊢;exact fun a ha=>hf a (lX ha)
  rw[vY,gK,h1,Option.none_or,eI,eG (by simp[isV])]
 rw[zC hn];have e:(if (!uX fs x n)=true then l.find? (isV n) else none)=if uX fs x n then none else l.find? (isV n):=by cases uX fs x n <;> rfl
 rw[e] at hf;split
 ·exact hf
 rw[←hf,vY,gK,eI,eD (by simp[isV];exact fun h=>hn h.symm),←gK,nX]
def ouB (fs:List FI)(m n:Int):Bool:=decide (0<wU fs m∧wU fs n=wU fs m)
theorem SC {m:Int}(hx:fs.find? (isF m)=some x):wU fs m=x.cE:=by
 have ac:fs.find? (fun y=>decide (y.nU=m))=some x:=hx;unfold wU;rw[ac]
theorem fP {m:Int}(hx:fs.find? (isF m)=some x)(hn:n≠m):uX fs x n=ouB fs m n:=by
 have hm:=qI hx;have hc:=SC hx;unfold uX ouB;rw[hc,hm];by_cases h:x.cE≤0
 ·rw[zF h,yC hn,yC (by omega)]
 rw[zC h];by_cases e:wU fs n=x.cE
 ·rw[xU e,xU ⟨by omega,e⟩]
 rw[yC e,yC (fun h=>e h.2)]
def orN {β:Type}(J:MI→β→β→β)(ms:List MI)(x:FI)(u:Option (VI β))(v:VI β):VI β:=match u with
 | some u=>zX J ms x u v
 | none=>v
theorem C9f {J:MI→β→β→β}{v:VI β}(hx:fs.find? (isF v.nU)=some x)(hw:xQ x v=false)(n:Int) :
  (wC J ms fs l v).find? (isV n)=if n=v.nU then some (orN J ms x (l.find? (isV n)) v) else if ouB fs v.nU n then none else l.find? (isV n):=by
 have ah:∀ u:VI β,xQ x (zX J ms x u v)=false:=fun u=>by
  unfold zX;by_cases hm:x.many=true
  ·rw[zF hm];unfold xQ;rw[zF (.inl hm)]
  rw[zC hm];by_cases hk:x.kind=10
  ·rw[zF hk];unfold xQ;rw[zF (.inr (.inr hk))]
  rw[zC hk];exact hw
 unfold wC;rw[hx];cases hu:l.find? (isV v.nU) with
 | none=>
  show(putN fs x l v).find? (isV n)=_;rw[C2j hx n,hw];by_cases hn:n=v.nU
  ·rw[zF hn,zF hn,hn,hu];rfl
  rw[zC hn,zC hn,fP hx hn]
 | some u=>
 have ag:u.nU=v.nU:=by have:=rN hu;simpa [isV] using this
 have ac:(zX J ms x u v).nU=v.nU:=qH ag;show(putN fs x l (zX J ms x u v)).find? (isV n)=_;rw[C2j (by rw[ac];exact hx) n,ah,ac];by_cases hn:n=v.nU
 ·rw[zF hn,zF hn,hn,hu];rfl
 rw[zC hn,zC hn,fP hx hn]
def fF {β:Type}(J:MI→β→β→β)(ms:List MI)(fs:List FI)(n:Int)(l m:List (VI β)):Option (VI β):=match m.find? (isV n) with
 | some v=>some (orN J ms ((fs.find? (isF n)).getD ⟨[],0,0,[],false,0⟩) (l.find? (isV n)) v)
 | none=>if m.any (fun v=>ouB fs v.nU n) then none else l.find? (isV n)
theorem B7v {β:Type}{J:MI→β→β→β}{ms:List MI}{fs:List FI}{f:List UInt8→β→Int}(n:Int):∀ (m l:List (VI β)),RtL fs f m→
  (m.foldl (wC J ms fs) l).find? (isV n)=fF J ms fs n l m
 | [],l,_=>by simp[fF]
 | v::m,l,h=>by
  obtain⟨x,hx⟩:=h.each v (vF ..)
  have h':RtL fs f m:=⟨fun a ha=>h.each a (wW _ ha),(sP.1 h.rise).2,(sP.1 h.apart).2⟩
  have hr:=(sP.1 h.rise).1
  have hap:=(sP.1 h.apart).1
  rw[List.foldl_cons,B7v n m _ h']
  unfold fF
  rw[C9f hx.fld hx.without n]
  by_cases hn:n=v.nU
  ·have e1:m.find? (isV n)=none:=oE.2 fun a ha=>by
    have:=hr a ha
    simp[isV]
    omega
   have e2:m.any (fun a=>ouB fs a.nU n)=false:=mC.2 fun a ha=>by
    have h3:=hap a ha
    unfold ouB
    rw[hn]
    simp only[decide_eq_true_eq,not_and]
    intro h4 h5
    rcases h3 with h3|h3
    ·omega
    ·exact h3 h5
   rw[e1,eG (by simp[isV,hn]),zF hn]
   simp only[e2,mS,if_false]
   rw[hn,hx.fld]
   rfl
  ·rw[zC hn,eD (by simp[isV];exact fun h=>hn h.symm)]
   cases hf:m.find? (isV n) with
   | none=>
    simp only[List.any_cons]
    by_cases h1:ouB fs v.nU n=true <;> by_cases h2:(m.any fun v=>ouB fs v.nU n)=true <;> simp only[h1,h2,if_true,if_false,Bool.or_true,mS,Bool.or_false]
   | some v2=>
    have ac:=xL hf
    have ag:v2.nU=n:=by have:=rN hf;simpa [isV] using this
    have e3:ouB fs v.nU n=false:=by
     have h3:=hap v2 ac;unfold ouB;rw[←ag];refine yC fun h4=>?_
     rcases h3 with h3|h3
     ·omega
     ·exact h3 h4.2.symm
    rw[e3];rfl
theorem B7w {a b:BI (d+1)}{f:List UInt8→BI d→Int}(hb:RtL M.fD f (BO.vals b))(n:Int) :
  (BO.vals (jnB g.mG (d+1) M a b)).find? (isV n)=fF (jnB g.mG d) g.mG M.fD n (BO.vals a) (BO.vals b):=
 B7v (J:=jnB g.mG d) (ms:=g.mG) n (BO.vals b) (BO.vals a) hb
section
variable {β:Type}{J:MI→β→β→β}{ms:List MI}{fs:List FI}{a b:List (VI β)}{x:FI}
end
section
variable{ms:List MI}{fs:List FI}
variable {β:Type}
theorem B4q {y:VI β}:∀ {l:List (VI β)},(l.Pairwise fun a b=>a.nU<b.nU)→(∀ a∈l,a.nU≠y.nU)→((l.take (vW y.nU l)++[y]++l.drop (vW y.nU l)).Pairwise fun a b=>a.nU<b.nU)
 | [],_,_=>by simp[vW]
 | a::l,h,hn=>by
  have h1:=(sP.1 h).1
  have h2:=(sP.1 h).2
  have ha:=hn a (vF ..)
  by_cases hlt:y.nU<a.nU
  ·have e:vW y.nU (a::l)=0:=by
    unfold vW;rw[oW,zF (by simpa using hlt)];rfl
   rw[e];simp only[mA,tH,oC,eI];refine .cons (fun b hb=>?_) h;rcases yY.1 hb with rfl|hb
   ·exact hlt
   ·have:=h1 b hb;omega
  ·have e:vW y.nU (a::l)=vW y.nU l+1:=by
    unfold vW;rw[oW,zC (by simpa using hlt)];cases l.findIdx? fun v=>decide (y.nU<v.nU) with
    | none=>rfl
    | some k=>rfl
   rw[e];simp only[List.take_succ_cons,List.drop_succ_cons,lT];refine .cons (fun b hb=>?_) (B4q h2 fun b hb=>hn b (wW _ hb));rcases zU.1 hb with hb|hb
   ·rcases zU.1 hb with hb|hb
    ·exact h1 b (lX hb)
    ·rw[zS.1 hb];omega
   ·exact h1 b (eL hb)
theorem UG {x:FI}{l:List (VI β)}{y:VI β}(hx:fs.find? (isF y.nU)=some x)(h:l.Pairwise fun a b=>a.nU<b.nU):(putN fs x l y).Pairwise fun a b=>a.nU<b.nU:=by
 have hf:=h.filter (fun a=>!uX fs x a.nU);unfold putN;split
 ·exact hf
 refine B4q hf fun a ha e=>?_
 have:=(sC.1 ha).2;rw[e,YP hx] at this;cases this
theorem D1q {J:MI→β→β→β}{l:List (VI β)}{v:VI β}(h:l.Pairwise fun a b=>a.nU<b.nU):(wC J ms fs l v).Pairwise fun a b=>a.nU<b.nU:=by
 unfold wC;split
 ·exact h
 rename_i x hx;split
 ·exact UG hx h
 rename_i u hu;have ac:u.nU=v.nU:=by have:=rN hu;simpa [isV] using this
 exact UG (by rw[qH ac];exact hx) h
theorem cN {J:MI→β→β→β}{ms:List MI}{fs:List FI}:∀ (m l:List (VI β)),(l.Pairwise fun a b=>a.nU<b.nU)→((m.foldl (wC J ms fs) l).Pairwise fun a b=>a.nU<b.nU)
 | [],_,h=>h
 | v::m,_,h=>cN m _ (D1q h)
theorem B7g {l:List (VI β)}(h:l.Pairwise fun a b=>a.nU<b.nU){a:VI β}(ha:a∈l):l.find? (isV a.nU)=some a:=by
 induction l with
 | nil=>cases ha
 | cons b l ih=>
 rcases yY.1 ha with rfl|ha'
 ·exact eG (by simp[isV])
 have:=(sP.1 h).1 a ha';rw[eD (by simp[isV];omega)];exact ih (sP.1 h).2 ha'
def oL (fs:List FI)(l:List (VI β)):Prop:=∀ a∈l,∀ b∈l,a.nU≠b.nU→0<wU fs a.nU→wU fs a.nU≠wU fs b.nU
theorem cD {l:List (VI β)}(h:l.Pairwise fun a b=>wU fs a.nU≤0∨wU fs a.nU≠wU fs b.nU):oL fs l:=by
 induction l with
 | nil=>intro a ha;cases ha
 | cons c l ih=>
 have h1:=(sP.1 h).1;have h2:=ih (sP.1 h).2;intro a ha b hb hne hp e;rcases yY.1 ha with ea|ha'
 ·rcases yY.1 hb with eb|hb'
  ·exact hne (by rw[ea,eb])
  subst ea;rcases h1 b hb' with h|h
  ·omega
  exact h e
 rcases yY.1 hb with eb|hb'
 ·subst eb;rcases h1 a ha' with h|h
  ·omega
  exact h e.symm
 exact h2 a ha' b hb' hne hp e
theorem C6o {J:MI→β→β→β}{l:List (VI β)}{v:VI β}(h:oL fs l):oL fs (wC J ms fs l v):=by
 have key:∀ {x:FI}{y:VI β},fs.find? (isF y.nU)=some x→oL fs (putN fs x l y):=by
  intro x y hx a ha b hb hne hp;have ac:∀ c∈putN fs x l y,c=y∨(c∈l∧uX fs x c.nU=false):=fun c hc=>by
   unfold putN at hc;split at hc
   ·exact .inr ⟨(sC.1 hc).1,by simpa using (sC.1 hc).2⟩
   rcases zU.1 hc with hc|hc
   ·rcases zU.1 hc with hc|hc
    ·have:=sC.1 (lX hc);exact .inr ⟨this.1,by simpa using this.2⟩
    exact .inl (zS.1 hc)
   have:=sC.1 (eL hc);exact .inr ⟨this.1,by simpa using this.2⟩
  rcases ac a ha with rfl|⟨ha,hoa⟩
  ·rcases ac b hb with rfl|⟨hb,hob⟩
   ·exact absurd rfl hne
   rw[fP hx (fun e=>hne e.symm)] at hob;intro e;unfold ouB at hob;exact(of_decide_eq_false hob) ⟨hp,e.symm⟩
  rcases ac b hb with rfl|⟨hb,hob⟩
  ·rw[fP hx hne] at hoa;intro e;unfold ouB at hoa;exact(of_decide_eq_false hoa) ⟨by omega,e⟩
  exact h a ha b hb hne hp
 unfold wC;split
 ·exact h
 rename_i x hx;split
 ·exact key hx
 rename_i u hu;have ag:u.nU=v.nU:=by have:=rN hu;simpa [isV] using this
 exact key (by rw[qH ag];exact hx)
theorem TY {J:MI→β→β→β}{ms:List MI}{fs:List FI}:∀ (m l:List (VI β)),oL fs l→oL fs (m.foldl (wC J ms fs) l)
 | [],_,h=>h
 | v::m,_,h=>TY m _ (C6o h)
end
variable{β:Type}{n:Int}{v:VI β}{l:List (VI β)}
theorem kV (h:l.find? (isV n)=some v):v.nU=n:=by have:=rN h;simpa [isV] using this
theorem kP {fs:List FI}{f:List UInt8→β→Int}(h:RtL fs f l)(hv:l.find? (isV n)=some v):∃ x,RtV fs f x v∧fs.find? (isF n)=some x:=by
 obtain⟨x,hx⟩:=h.each v (xL hv);exact⟨x,hx,by rw[←kV hv];exact hx.fld⟩
section
variable {g:GI}{d:Nat}
theorem mN {x:FI}{M:MI}(h:g.mG.find? (isN x.type)=some M):wL g x.type=M.fD:=by
 have h':g.mG.find? (fun m=>decide (m.name=x.type))=some M:=h;unfold wL;rw[h']
end
def GdV {β:Type}(R:MI→β→Prop)(ms:List MI)(fs:List FI)(v:VI β):Prop:=
 ∃ x,fs.find? (isF v.nU)=some x∧(x.many=false→yS v=1∧(x.kind=10→v.bits = []∧v.bytes = []∧∃ M s,ms.find? (isN x.type)=some M∧v.subs = [s]∧R M s))
def GdB (ms:List MI):(d:Nat)→MI→BI d→Prop
 | 0=>fun _ _=>False
 | d+1=>fun M b=>((BO.vals b).Pairwise fun u v=>u.nU<v.nU)∧∀ v∈BO.vals b,GdV (GdB ms d) ms M.fD v
section
variable {β:Type}{R:MI→β→Prop}{J:MI→β→β→β}{ms:List MI}{fs:List FI}{x:FI}
theorem GdV.fld {v:VI β}(h:GdV R ms fs v)(hx:fs.find? (isF v.nU)=some x):x.many=false→yS v=1∧(x.kind=10→v.bits = []∧v.bytes = []∧∃ M s,ms.find? (isN x.type)=some M∧v.subs = [s]∧R M s):=by
 obtain⟨y,hy,h1⟩:=h;rw[hx] at hy;cases hy
 exact h1
theorem C9i {a b:VI β}(hn:a.nU=b.nU)(hm:x.many=false)(hk:x.kind=10)(ha:a.bits = [])(hb:a.bytes = []){M:MI}{s t : β}(hM:ms.find? (isN x.type)=some M)(hs:a.subs = [s])(ht:b.subs = [t]):zX J ms x a b=⟨b.nU,[],[],[J M s t]⟩:=by
 unfold zX;rw[hm,zC (by simp),zF hk,hM,hs,ht];show(⟨a.nU,a.bits,a.bytes,[J M s t]⟩:VI β)=_;rw[ha,hb,hn]
theorem WY (hJ:∀ M s t,R M s→R M t→R M (J M s t)){a b:VI β}(hn:a.nU=b.nU)(hx:fs.find? (isF b.nU)=some x)(ha:GdV R ms fs a)(hb:GdV R ms fs b):GdV R ms fs (zX J ms x a b):=by
 refine⟨x,by rw[qH hn];exact hx,fun hm=>?_⟩;have h1:=ha.fld (by rw[hn];exact hx) hm;have h2:=hb.fld hx hm;by_cases hk:x.kind=10
 ·obtain⟨p1,p2,M,s,p3,p4,p5⟩:=h1.2 hk;obtain⟨q1,q2,M',t,q3,q4,q5⟩:=h2.2 hk;rw[p3] at q3;cases q3
  rw[C9i hn hm hk p1 p2 p3 p4 q4];exact⟨rfl,fun _=>⟨rfl,rfl,M,J M s t,p3,rfl,hJ M s t p5 q5⟩⟩
 have e:zX J ms x a b=b:=by
  unfold zX;rw[hm,zC (by simp),zC hk]
 rw[e];exact h2
theorem D8z (hJ:∀ M s t,R M s→R M t→R M (J M s t)){l:List (VI β)}{v:VI β}(hl:∀ a∈l,GdV R ms fs a)(hv:GdV R ms fs v):∀ a∈wC J ms fs l v,GdV R ms fs a:=by
 obtain⟨x,hx,_⟩:=id hv;unfold wC;rw[hx];intro a ha;cases hu:l.find? (isV v.nU) with
 | none=>
  rw[hu] at ha;rcases pD ha with rfl|h
  ·exact hv
  exact hl a h
 | some u=>
 rw[hu] at ha;have ac:u.nU=v.nU:=by have:=rN hu;simpa [isV] using this
 rcases pD ha with rfl|h
 ·exact WY hJ ac hx (hl u (xL hu)) hv
 exact hl a h
theorem VV (hJ:∀ M s t,R M s→R M t→R M (J M s t)):∀ (m l:List (VI β)),(∀ a∈l,GdV R ms fs a)→(∀ a∈m,GdV R ms fs a)→∀ a∈m.foldl (wC J ms fs) l,GdV R ms fs a
 | [],_,hl,_=>hl
 | v::m,l,hl,hm=>VV hJ m _ (D8z hJ hl (hm v (vF ..))) fun a ha=>hm a (wW _ ha)
theorem D1l {l:List (VI β)}(hr:l.Pairwise fun u v=>u.nU<v.nU){v:VI β}(hv:GdV R ms fs v)(hx:fs.find? (isF v.nU)=some x):sU fs x v (!rY x v) l=putN fs x l v:=by
 rw[A8x (fun hm=>(hv.fld hx hm).1)];exact D1k hr
end
variable{α:Type}{g:GI}{bar:List Int}{pre:List FI}{w:World}{vm ve:Value}
theorem ZT (ms:List MI):∀ (d:Nat) (M:MI) (a b:BI d),GdB ms d M a→GdB ms d M b→GdB ms d M (jnB ms d M a b)
 | 0,_,_,_,h,_=>h
 | d+1,_,_,_,ha,hb=>⟨cN _ _ ha.1,VV (fun M s t=>ZT ms d M s t) _ _ ha.2 hb.2⟩
theorem C3d {g:GI}(ac:kN g):∀ (d:Nat) (k:Int) (m:MI) (b:BI d),m∈g.mG→yT g d k m.fD b=0→GdB g.mG d m b
 | 0,_,_,b,_,_=>nomatch (b:Empty)
 | d+1,k,m,b,hm,h=>by
  obtain⟨_,hr,_⟩:=pU h
  refine⟨hr.rise,fun v hv=>?_⟩
  obtain⟨x,hx⟩:=hr.each v hv
  refine⟨x,hx.fld,fun h1=>⟨?_,fun h2=>?_⟩⟩
  ·have h3:=hx.misc
   unfold vK at h3
   rw[h1] at h3
   simp only[jS,Bool.and_true,pF,uZ] at h3
   omega
  ·obtain⟨s,hs⟩:=kX hx.others hx.misc h1 h2
   obtain⟨m',ag⟩:=ac m hm x (xL hx.fld) h2
   have ah:=xL ag
   have hz:=hx.subs s (by rw[hs];exact zS.2 rfl)
   unfold wL at hz
   rw[ag] at hz
   have ho:=hx.others
   unfold xG at ho
   rw[zC (by omega),zF h2] at ho
   simp only[uZ] at ho
   refine⟨uE (by omega),uE (by omega),m',s,ag,hs,C3d ac d (k+1) m' s ah hz⟩
def uI (g:GI)(x:FI):Int:=
 if x.kind=5 then(if yK (fun m=>decide (m.name=x.type)) g.enums<0 then 6 else 0)
 else if x.kind=10 then(if yK (fun m=>decide (m.name=x.type)) g.mG<0 then 6 else 0)
 else if 1≤x.kind∧x.kind≤9 then(if x.type = [] then 0 else 8)
 else 1
def vN:List FI→Int×Int→Int×Int
 | [],s=>s
 | y::l,s=>vN l (if y.cE≠0∧y.cE≠s.2 then s.1+1 else s.1,y.cE)
theorem C7t (l:List FI)(y:FI)(s:Int×Int):vN (l++[y]) s=(if y.cE≠0∧y.cE≠(vN l s).2 then(vN l s).1+1 else(vN l s).1,y.cE):=by
 induction l generalizing s with
 | nil=>rfl
 | cons x l ih=>rw[lT,vN,ih];rfl
def sG (g:GI)(bar:List Int)(ahead:List FI)(x:FI):Int:=
 if sM x.name=false then 7
 else if x.name∈ahead.map FI.name then 7
 else if qZ x.nU=false then 3
 else if x.nU∈bar then 8
 else if x.nU∈ahead.map FI.nU then 8
 else if uI g x≠0 then uI g x
 else if x.many=true∧0<x.cE then 8
 else if uH (vN ahead (0,0)).2 (vN ahead (0,0)).1 x.cE=true then 2 else 0
def qF (g:GI)(bar:List Int):List FI→List FI→Int
 | _,[]=>0
 | pre,x::l=>if sG g bar pre x≠0 then sG g bar pre x else qF g bar (pre++[x]) l
theorem cF [DecidableEq α](x y : α)(l:List α):y∈vM x l↔y∈l∨y=x:=by
 unfold vM;split
 ·rename_i h;constructor
  ·exact fun h=>.inl h
  rintro(h1|rfl)
  ·exact h1
  exact h
 simp
structure Agr (pre:List FI) (s:Mem):Prop where
 nm:∀ y,y∈s.names↔y∈pre.map FI.name
 nu:∀ y,y∈s.nums↔y∈pre.map FI.nU
 ch:vN pre (0,0)=(s.begun,s.last)
 b0:0≤s.begun
 lb:s.last≤s.begun
theorem Agr.next {s:Mem}{x:FI}(h:Agr pre s)(hp:pA g bar x s=true):Agr (pre++[x]) (lD x s):=by
 have hm:uH s.last s.begun x.cE=false:=by
  simp only[pA,lS,Bool.not_eq_true'] at hp;exact hp.2.2.2.2.2.2
 have hb:=h.b0;have hl:=h.lb;have hc:x.cE=0∨x.cE=s.last∨x.cE=s.begun+1:=by
  simp only[uH,jL,uZ,ne_eq,Decidable.not_not] at hm;exact hm
 refine⟨?_,?_,?_,?_,?_⟩
 ·intro y;simp only[lD,wM,wS,tA,zU,zS];rw[cF,h.nm]
 ·intro y;simp only[lD,wM,wS,tA,zU,zS];rw[cF,h.nu]
 ·rw[C7t,h.ch];simp only[lD,Prod.mk.injEq,and_true];split <;> omega
 ·simp only[lD];omega
 simp only[lD];omega
theorem D1j {s:Mem}(x:FI)(h:Agr pre s) :
  (pA g bar x s=true∧sG g bar pre x=0)∨∃ s',xH (yV g bar) 0 uK x s=(some (sG g bar pre x),s')∧sG g bar pre x≠0:=by
 have e1:decide (x.name∈s.names)=decide (x.name∈pre.map FI.name):=by rw[uR];simp only[decide_eq_true_eq];exact h.nm _
 have e2:decide (x.nU∈s.nums)=decide (x.nU∈pre.map FI.nU):=by rw[uR];simp only[decide_eq_true_eq];exact h.nu _
 have e3:=h.ch;cases h0:sM x.name with
 | false=>exact .inr ⟨_,by simp only[uK,xH,yV,sG];rw[h0];rfl,by simp[sG,h0]⟩
 | true=>
 by_cases hn:x.name∈pre.map FI.name
 ·have:decide (x.name∈s.names)=true:=by rw[e1];simpa using hn
  have hr:sG g bar pre x=7:=by simp only[sG];rw[h0,zC (by simp),zF hn]
  rw[hr];exact .inr ⟨_,by simp only[uK,xH,yV];rw[h0,this];rfl,by decide⟩
 have t1:decide (x.name∈s.names)=false:=by rw[e1];simpa using hn
 cases h1:qZ x.nU with
 | false=>
  have hr:sG g bar pre x=3:=by simp only[sG];rw[h0,h1,zC (by simp),zC hn];rfl
  rw[hr];exact .inr ⟨_,by simp only[uK,xH,yV];rw[h0,t1,h1];rfl,by decide⟩
 | true=>
 by_cases hb:x.nU∈bar
 ·have:decide (x.nU∈bar)=true:=by simpa using hb
  have hr:sG g bar pre x=8:=by simp only[sG];rw[h0,h1,zC (by simp),zC hn,zC (by simp),zF hb]
  rw[hr];exact .inr ⟨_,by simp only[uK,xH,yV];rw[h0,t1,h1,this];rfl,by decide⟩
 have t2:decide (x.nU∈bar)=false:=by simpa using hb
 by_cases hu:x.nU∈pre.map FI.nU
 ·have:decide (x.nU∈s.nums)=true:=by rw[e2];simpa using hu
  have hr:sG g bar pre x=8:=by simp only[sG];rw[h0,h1,zC (by simp),zC hn,zC (by simp),zC hb,zF hu]
  rw[hr];exact .inr ⟨_,by simp only[uK,xH,yV];rw[h0,t1,h1,t2,this];rfl,by decide⟩
 have t3:decide (x.nU∈s.nums)=false:=by rw[e2];simpa using hu
 have hR:sG g bar pre x=if uI g x≠0 then uI g x else if x.many=true∧0<x.cE then 8 else if uH s.last s.begun x.cE=true then 2 else 0:=by
  simp only[sG];rw[h0,h1,zC (by simp),zC hn,zC (by simp),zC hb,zC hu,e3]
 rw[hR];have hK:(uI g x=1∧(decide (x.kind<1)||decide (10<x.kind))=true)∨(uI g x=6∧(decide (x.kind<1)||decide (10<x.kind))=false∧qO g x=false)∨(uI g x=8∧(decide (x.kind<1)||decide (10<x.kind))=false∧qO g x=true∧pL x=true)∨(uI g x=0∧(decide (x.kind<1)||decide (10<x.kind))=false∧qO g x=true∧pL x=false):=by
  unfold uI qO pL;by_cases k5:x.kind=5
  ·by_cases q:yK (fun m=>decide (m.name=x.type)) g.enums<0
   ·simp[k5,q] <;> (try omega)
   simp[k5,q] <;> (try omega)
  by_cases k10:x.kind=10
  ·by_cases q:yK (fun m=>decide (m.name=x.type)) g.mG<0
   ·simp[k10,q] <;> (try omega)
   simp[k10,q] <;> (try omega)
  by_cases k9:1≤x.kind∧x.kind≤9
  ·have a1:¬ x.kind<1:=by omega
   have a2:¬ 10<x.kind:=by omega
   by_cases q:x.type = []
   ·simp[k5,k10,k9,q,a1,a2]
   simp[k5,k10,k9,q,a1,a2]
  have:x.kind<1∨10<x.kind:=by omega
  simp[k5,k10,k9,this]
 rcases hK with⟨k1,k2⟩|⟨k1,k2,k3⟩|⟨k1,k2,k3,k4⟩|⟨k1,k2,k3,k4⟩
 ·rw[k1,zF (by decide)];exact .inr ⟨_,by simp only[uK,xH,yV];rw[h0,t1,h1,t2,t3,k2];rfl,by decide⟩
 ·rw[k1,zF (by decide)];exact .inr ⟨_,by simp only[uK,xH,yV];rw[h0,t1,h1,t2,t3,k2,k3];rfl,by decide⟩
 ·rw[k1,zF (by decide)];exact .inr ⟨_,by simp only[uK,xH,yV];rw[h0,t1,h1,t2,t3,k2,k3,k4];rfl,by decide⟩
 rw[k1,zC (by decide)];by_cases hm:x.many=true∧0<x.cE
 ·have tm:(pL x||(decide (0<x.cE)&&x.many))=true:=by simp[hm.1,hm.2]
  rw[zF hm];exact .inr ⟨_,by simp only[uK,xH,yV];rw[h0,t1,h1,t2,t3,k2,k3,tm];rfl,by decide⟩
 have tm:(pL x||(decide (0<x.cE)&&x.many))=false:=by
  rw[k4,lU,jL];by_cases q:0<x.cE
  ·right;cases e:x.many with
   | true=>exact absurd ⟨e,q⟩ hm
   | false=>rfl
  left;simpa using q
 rw[zC hm];cases h6:uH s.last s.begun x.cE with
 | true=>
  exact .inr ⟨_,by simp only[uK,xH,yV];rw[h0,t1,h1,t2,t3,k2,k3,tm,h6];rfl,by decide⟩
 | false=>
 refine .inl ⟨?_,rfl⟩;unfold pA;rw[h0,t1,h1,t2,t3,k2,k3,tm,h6];rfl
theorem B7h {g:GI}{bar:List Int}:∀ (l:List FI) (i:Nat) (pre:List FI) (s:Mem),Agr pre s→(xC (yV g bar) uK i l s).1=qF g bar pre l
 | [],_,_,_,_=>rfl
 | x::l,i,pre,s,h=>by
  rcases D1j (g:=g) (bar:=bar) x h with⟨h1,h2⟩|⟨s',h1,h2⟩
  ·rw[xC,B4v h1,qF,zC (by simp[h2])]
   exact B7h l (i+1) _ _ (h.next h1)
  ·rw[xC,h1,qF,zF h2]
theorem C7a (g:GI)(m:MI):rE g m=if 16<m.fD.length∨16<m.barred.length then 5 else if m.barred.any uM then 3 else qF g m.barred [] m.fD:=by
 unfold rE;rw[B7h m.fD 0 [] qC ⟨fun _=>by simp[qC],fun _=>by simp[qC],rfl,by simp[qC],by simp[qC]⟩]
def qL (ahead:List II)(x:II):Int:=
 if x.name∈ahead.map II.name then 7
 else if sM x.name=false then 7
 else if x.value < -2147483648∨2147483647<x.value then 3
 else if x.value∈ahead.map II.value∨(ahead = []∧x.value≠0) then 8 else 0
def pP:List II→List II→Int
 | _,[]=>0
 | pre,x::l=>if qL pre x≠0 then qL pre x else pP (pre++[x]) l
theorem B4f:∀ (l:List II) (n:Int) (i:Nat) (pre:List II) (s:List (List UInt8)×List Int),(∀ y,y∈s.1↔y∈pre.map II.name)→(∀ y,y∈s.2↔y∈pre.map II.value)→(pre = []→∀ x,l.head?=some x→n=x.value)→(pre≠[]→n=0)→(xC (uN n) [7,3,8] i l s).1=pP pre l
 | [],_,_,_,_,_,_,_,_=>rfl
 | x::l,n,i,pre,s,hn,hv,h0,h1=>by
  have e1:decide (x.name∈s.1)=decide (x.name∈pre.map II.name):=by rw[uR];simp only[decide_eq_true_eq];exact hn _
  have e2:decide (x.value∈s.2)=decide (x.value∈pre.map II.value):=by rw[uR];simp only[decide_eq_true_eq];exact hv _
  have hnz:decide (n≠0)=decide (pre = []∧x.value≠0):=by
   rw[uR];simp only[decide_eq_true_eq];by_cases hp:pre = []
   ·rw[h0 hp x rfl];simp[hp]
   ·rw[h1 hp];simp[hp]
  rw[pP,xC];by_cases q1:x.name∈pre.map II.name
  ·have t1:decide (x.name∈s.1)=true:=by rw[e1];simpa using q1
   have hr:qL pre x=7:=by rw[qL,zF q1]
   rw[hr,zF (by decide)];simp only[xH,uN,t1,Bool.or_true,if_true]
  ·have t1:decide (x.name∈s.1)=false:=by rw[e1];simpa using q1
   cases q2:sM x.name with
   | false=>
    have hr:qL pre x=7:=by rw[qL,zC q1,zF q2]
    rw[hr,zF (by decide)];simp only[xH,uN,q2,jS,Bool.true_or,if_true]
   | true=>
    by_cases q3:x.value < -2147483648∨2147483647<x.value
    ·have hr:qL pre x=3:=by rw[qL,zC q1,zC (by rw[q2];simp),zF q3]
     have t3:(decide (x.value < -2147483648)||decide (2147483647<x.value))=true:=by simpa using q3
     rw[hr,zF (by decide)];simp only[xH,uN,q2,t1,t3,Bool.not_true,Bool.or_false,if_true];rfl
    ·have t3:(decide (x.value < -2147483648)||decide (2147483647<x.value))=false:=by simpa using q3
     by_cases q4:x.value∈pre.map II.value∨(pre = []∧x.value≠0)
     ·have hr:qL pre x=8:=by rw[qL,zC q1,zC (by rw[q2];simp),zC q3,zF q4]
      have t4:(decide (n≠0)||decide (x.value∈s.2))=true:=by
       rw[hnz,e2];simp only[jN,decide_eq_true_eq];exact q4.symm
      rw[hr,zF (by decide)];simp only[xH,uN,q2,t1,t3,t4,Bool.not_true,Bool.or_false,if_true];rfl
     ·have hr:qL pre x=0:=by rw[qL,zC q1,zC (by rw[q2];simp),zC q3,zC q4]
      have t4:(decide (n≠0)||decide (x.value∈s.2))=false:=by
       rw[hnz,e2,pF];simp only[uZ];exact⟨fun h=>q4 (.inr h),fun h=>q4 (.inl h)⟩
      rw[hr,zC (by decide)];have hgo:xH (uN n) 0 [7,3,8] x s=(none,(vM x.name s.1,vM x.value s.2)):=by
       simp only[xH,uN,q2,t1,t3,t4,Bool.not_true,Bool.or_false];rfl
      rw[hgo];refine B4f l n (i+1) (pre++[x]) _ ?_ ?_ (fun h=>by simp at h) (fun _=>?_)
      ·intro y;simp only[wM,wS,tA,zU,zS];rw[cF,hn]
      ·intro y;simp only[wM,wS,tA,zU,zS];rw[cF,hv]
      ·have:=(pF.1 t4).1;simpa using this
theorem C6z (e:EI):pC e=if e.items.length<1∨16<e.items.length then 5 else pP [] e.items:=by
 unfold pC;split
 ·rfl
 rename_i h;refine B4f e.items _ 0 [] ([],[]) (fun _=>by simp) (fun _=>by simp) (fun _ x hx=>?_) (fun h=>by simp at h);cases hi:e.items with
 | nil=>rw[hi] at hx;cases hx
 | cons y r=>rw[hi] at hx;cases hx;rfl
def oJ (s:List UInt8):Bool:=!keptB s&&sM s
def nO:Nat→List (List UInt8)→List (List UInt8)→Int×Nat
 | _,_,[]=>(0,0)
 | i,pre,s::l=>if oJ s=false∨s∈pre then(7,i) else nO (i+1) (pre++[s]) l
theorem B4g:∀ (l:List (List UInt8)) (i:Nat) (pre s:List (List UInt8)),(∀ y,y∈s↔y∈pre)→xC pJ [7] i l s=nO i pre l
 | [],_,_,_,_=>rfl
 | x::l,i,pre,s,h=>by
  have e:nN x s=decide (oJ x=false∨x∈pre):=by
   rw[uR];simp only[nN,oJ,jN,Bool.not_eq_true',decide_eq_true_eq,jL,Bool.not_eq_false',h];constructor
   ·rintro(h|h|h)
    ·exact .inl (.inr h)
    ·exact .inl (.inl h)
    ·exact .inr h
   ·rintro((h|h)|h)
    ·exact .inr (.inl h)
    ·exact .inl h
    ·exact .inr (.inr h)
  rw[xC,nO];by_cases q:oJ x=false∨x∈pre
  ·rw[zF q];simp only[xH,pJ,e,q,decide_true,if_true]
  ·rw[zC q];have hgo:xH pJ 0 [7] x s=(none,vM x s):=by
    simp only[xH,pJ,e,q,decide_false];rfl
   rw[hgo];refine B4g l (i+1) _ _ ?_;intro y;rw[cF,h];simp
theorem XP{P:Prop}(h:P:=by
 go_wp2
 all_goals (go_ret;refine⟨nQ ?_,rfl⟩;(try rw[uR]);(try simp);(try omega))):P:=h
theorem B2v (c:UInt8)(w:World):Calls Tryz.prog 109 #[.int .u8 (c.toNat:Int)] w fun e w'=>e = .returned (.bool (qN c))∧w=w':=by
 obtain⟨X,HX⟩:=zM (c.toNat:Nat);have HL:Hid (qN c=((decide (97≤X)&&decide (X≤122))||(decide (65≤X)&&decide (X≤90)))):=by show _=_;rw[HX.out];rfl
 have hX:X<256:=by rw[HX.out];exact UInt8.toNat_lt _
 rw[←HX.out,HL.out];clear HX HL;by_cases h1:97≤X
 ·by_cases h2:X≤122
  ·go_enter Tryz.func109,Tryz.ntmps109;exact XP
  go_enter Tryz.func109,Tryz.ntmps109;exact XP
 go_enter Tryz.func109,Tryz.ntmps109;exact XP
theorem bU{P:Prop}(h:P:=by
 go_enter Tryz.func108,Tryz.ntmps108;go_wp2_with fail
 refine ac.mono ?_;rintro e w1 ⟨rfl,rfl⟩;exact XP):P:=h
theorem D1b (c:UInt8)(w:World):Calls Tryz.prog 108 #[.int .u8 (c.toNat:Int)] w fun e w'=>e = .returned (.bool (rK c))∧w=w':=by
 have ac:=B2v c w;obtain⟨X,HX⟩:=zM (c.toNat:Nat);have HL:Hid (rK c=(qN c||(decide (48≤X)&&decide (X≤57))||(X==95))):=by show _=_;rw[HX.out];rfl
 have hX:X<256:=by rw[HX.out];exact UInt8.toNat_lt _
 rw[←HX.out] at ac;rw[←HX.out,HL.out];clear HX HL;generalize qN c=q at ac ⊢;cases q with
 | true=>
  go_enter Tryz.func108,Tryz.ntmps108;go_wp2_with fail
  refine ac.mono ?_;rintro e w1 ⟨rfl,rfl⟩;go_wp2;go_ret;exact⟨rfl,rfl⟩
 | false=>
 by_cases h1:48≤X
 ·by_cases h2:X≤57
  ·exact bU
  exact bU
 exact bU
theorem D7e {p:UInt8→Bool}:∀ {r:List UInt8},(∀ x∈r,p x=true)→r.takeWhile p=r
 | [],_=>rfl
 | c::r,h=>by rw[bR,zF (h c (by simp)),D7e fun x hx=>h x (by simp[hx])]
theorem D1z {p:UInt8→Bool}:∀ {r:List UInt8},r.takeWhile p=r→∀ x∈r,p x=true
 | [],_,_,hx=>by simp at hx
 | c::r,h,x,hx=>by
  rw[bR] at h
  split at h
  ·rename_i hc
   rcases yY.1 hx with rfl|hx
   ·exact hc
   ·exact D1z (List.cons.inj h).2 x hx
  ·cases h
def mH (l:List UInt8)(k:Nat):Bool:=rK (l.getD k 0)&&(decide (k≠0)||qN (l.getD k 0))
theorem D6i:∀ (l:List UInt8),(∀ k,k<l.length→mH l k=true)→qT l=l.length
 | [],_=>rfl
 | c::r,h=>by
  have h0:=h 0 (by simp)
  simp[mH] at h0
  have hr:∀ x∈r,rK x=true:=by
   intro x hx;obtain⟨k,hk,rfl⟩:=List.getElem_of_mem hx;have:=h (k+1) (by simp;omega);simp[mH,hk] at this;exact this
  rw[qT,zF h0.2,D7e hr];simp;omega
theorem C3q {l:List UInt8}{k:Nat}(hk:k<l.length)(h:mH l k=false):qT l≠l.length:=by
 cases l with
 | nil=>simp at hk
 | cons c r=>
 cases k with
 | zero=>
  simp[mH] at h;rw[qT];split
  ·rename_i hl;have:rK c=true:=by simp[rK,hl]
   rw[h this] at hl;cases hl
  simp
 | succ k=>
 simp at hk;simp[mH,hk] at h;rw[qT];split
 ·have:(r.takeWhile rK).length<r.length:=by
   rcases mW (r.takeWhile rK).length r.length with h1|h1
   ·exact h1
   have e:=(List.takeWhile_prefix rK (l:=r)).eq_of_length_le h1;have:=D1z e _ (List.getElem_mem hk);rw[this] at h;cases h
  simp;omega
 simp
theorem TU (l:List UInt8)(hl:l.length≤9223372036854775807)(w:World) :
  Calls Tryz.prog 50 #[.string (S l)] w fun e w'=>e = .returned (.bool (sM l))∧zB w w':=by
 have ag:∀ W,(convert 9 30 (.string (S l))).run Tryz.prog W = .ok (.slice (some ⟨W.heap.size,0,none⟩) (S l).size (grownCap W (S l).size 0 5)) (Lib.bytesWorld W 5 (S l)):=fun W=>Lib.run_convert_string_bytes W _ _ _ _ Tryz.underlying9 Tryz.underlying30 Tryz.underlying5
 have hsz:=fO l;obtain⟨Wc,ah⟩:=zM (Lib.bytesWorld w 5 (S l));have ac:zB w Wc:=by rw[ah.out];exact⟨rfl,rfl,rfl,by rw[Lib.bytesWorld_size];omega,fun k hk=>Lib.bytesWorld_at_old _ _ _ k hk⟩
 have hcc:∀ j,j<l.length→Wc.cell? ⟨w.heap.size,j,none⟩=some (.int .u8 ((l.getD j 0).toNat:Int)):=by
  intro j hj;rw[ah.out,Lib.bytesWorld_cell _ _ _ j (by rw[fO];exact hj)];simp[S]
 have aj:l.length≤grownCap w l.length 0 5:=grownCap_ge _ _ _ _;obtain⟨n,Hn⟩:=zM (l.length);rw[←Hn.out] at hsz hl aj hcc;go_enter Tryz.func50,Tryz.ntmps50;go_wp2_with fail
 rw[←ah.out];clear ag;go_loopg [8] n (fun m i wr=>∃ k:Nat,k+m=n∧i = .int .i64 k∧Hid (∀ j,j<k→mH l j=true)∧Wc=wr)
 case atStart=>exact⟨0,by omega,rfl,fun j hj=>by omega,rfl⟩
 obtain⟨k,hk,rfl,HK,rfl⟩:=hrel;by_cases hlt:k<n
 ·have hcell:=hcc k hlt;have ak:(k:Int)<(n:Int):=by omega
  obtain⟨c,Hc⟩:=zM (l.getD k 0);rw[←Hc.out] at hcell;have hm:=D1b c Wc;have ht:=B2v c Wc;have HO:Hid (mH l k=(rK c&&(decide (k≠0)||qN c))):=by show _=_;rw[Hc.out];rfl
  cases q1:rK c with
  | false=>
   have HN:Hid (sM l=false):=by
    show _=_;have:=C3q (show k<l.length by rw[←Hn.out];exact hlt) (by rw[HO.out,q1];rfl);simp[sM,this]
   rw[q1] at hm;clear hcc q1 HO;go_wp2_with fail
   refine hm.mono ?_;rintro e w1 ⟨rfl,rfl⟩;go_wp2;go_ret;exact⟨nQ HN.out.symm,ac⟩
  | true=>
  rw[q1] at hm;by_cases hk0:k=0
  ·subst hk0;cases q2:qN c with
   | false=>
    have HN:Hid (sM l=false):=by
     show _=_;have:=C3q (show 0<l.length by rw[←Hn.out];exact hlt) (by rw[HO.out,q1,q2];rfl);simp[sM,this]
    rw[q2] at ht;clear hcc q1 q2 HO;go_wp2_with fail
    refine hm.mono ?_;rintro e w1 ⟨rfl,rfl⟩;go_wp2_with fail
    refine ht.mono ?_;rintro e w1 ⟨rfl,rfl⟩;go_wp2;go_ret;exact⟨nQ HN.out.symm,ac⟩
   | true=>
   have HN:Hid (∀ j,j<1→mH l j=true):=by
    intro j hj;obtain rfl:j=0:=by omega
    rw[HO.out,q1,q2];rfl
   rw[q2] at ht;clear hcc q1 q2 HO;go_wp2_with fail
   refine hm.mono ?_;rintro e w1 ⟨rfl,rfl⟩;go_wp2_with fail
   refine ht.mono ?_;rintro e w1 ⟨rfl,rfl⟩;go_wp2_with fail
   go_roundg (n-1)
   case measure=>omega
   case rel=>exact⟨1,by omega,rfl,HN,rfl⟩
  have HN:Hid (∀ j,j<k+1→mH l j=true):=by
   intro j hj;by_cases e:j=k
   ·rw[e,HO.out,q1];simp[hk0]
   exact HK.out j (by omega)
  have hkb:((k:Int)==0)=false:=by simp;omega
  clear hcc q1 HO hk0;go_wp2_with fail
  refine hm.mono ?_;rintro e w1 ⟨rfl,rfl⟩;go_wp2_with fail
  go_roundg (n-(k+1))
  case measure=>omega
  case rel=>exact⟨k+1,by omega,by go_num,HN,rfl⟩
 have HW:=zI (D6i l fun j hj=>HK.out j (by rw[←Hn.out] at hj;omega));have HN:Hid (sM l=(decide (0<n)&&decide (n≤16))):=by
  show _=_;rw[Hn.out];simp only[sM,HW.out];cases l <;> simp
 clear hcc HW;by_cases h0:0<n
 ·by_cases h16:n≤16
  ·go_wp2;go_ret;exact⟨nQ (by rw[HN.out];simp[h0,h16];omega),ac⟩
  go_wp2;go_ret;exact⟨nQ (by rw[HN.out];simp[h16];omega),ac⟩
 go_wp2;go_ret;exact⟨nQ (by rw[HN.out];simp[h0]),ac⟩
theorem C6n (w:World):Calls Tryz.prog 106 #[] w fun e w'=>e = .returned (.slice (some ⟨w.heap.size,0,none⟩) 9 9)∧w.alloc (.cells iS 9)=w':=by
 go_enter Tryz.func106,Tryz.ntmps106;go_wp2;go_ret;exact⟨rfl,rfl⟩
theorem Row.blk (E:EK α){base g:Nat}(l:List α){fr:Nat×Nat}(hb:base≤g)(h:w.heap[g]?=some (.cells (E.flat l).toArray E.elem fr))(ac:fr=(0,0))(hl:l.length≤maxLen):Row E w base (.slice (some ⟨g,0,none⟩) l.length l.length) l:=by
 subst ac;refine⟨E.flat_len l,.inr ⟨g,l.length,_,rfl,hb,h,zG _,hl,by simp[E.flat_len],?_⟩⟩;rw[←E.flat_len l];simp
theorem D4d (s:List UInt8):keptB s=decide (s∈pO++[jI,jH,kY]):=by
 rw[uR];simp only[keptB,jN,decide_eq_true_eq,zU,yY,rI,or_false];constructor
 ·rintro(h|h|h|h)
  ·exact .inr (.inl h)
  ·exact .inr (.inr (.inl h))
  ·exact .inr (.inr (.inr h))
  exact .inl h
 rintro(h|h|h|h)
 ·exact .inr (.inr (.inr h))
 ·exact .inl h
 ·exact .inr (.inl h)
 exact .inr (.inr (.inl h))
theorem B8p (s:List UInt8)(hs:s.length≤9223372036854775807)(w:World):Calls Tryz.prog 47 #[.string (S s)] w fun e w'=>e = .returned (.bool (oJ s))∧zB w w':=by
 have bc:=C6n w;obtain⟨W2,ac,ah,-,-,-⟩:=uD w (.cells iS 9) (.cells #[.string (S jI),.string (S jH),.string (S kY)] 9);have r1:Row ekS W2 w.heap.size (.slice (some ⟨w.heap.size,0,none⟩) 9 9) pO:=Row.blk ekS pO (zG _) (by rw[ac.out];exact oP _ _ _) rfl (by decide);have r2:Row ekS W2 w.heap.size (.slice (some ⟨w.heap.size+1,0,none⟩) 3 3) [jI,jH,kY]:=Row.blk ekS [jI,jH,kY] (Nat.le_add_right _ _) (by rw[ac.out];exact pX _ _ _) rfl (by decide);have bn:=sL s;go_enter Tryz.func47,Tryz.ntmps47;go_wp2_with fail
 refine bc.mono ?_;rintro e w1 ⟨rfl,bk⟩;subst bk;go_wp2_with (at_builtin;refine cQ rfl ekS _ _ rfl w.heap.size _ pO [jI,jH,kY] rfl (by rw[ac.out] at r1;exact r1) w.heap.size _ rfl (by rw[ac.out] at r2;exact r2) ?e1 ?e2 ?_)
 case e1=>decide
 case e2=>simp;omega
 intro v5 w5 ak ba;obtain⟨a5,n5,c5,rfl,H5⟩:=ak.shape';obtain rfl:n5=12:=H5.out;have aj:zB w w5:=by
  rw[ac.out] at ah;exact ah.grown ba (by simp;omega) (fun k hk=>by simp[Value.ownBlock] at hk;omega)
 have ag:=zI (D4d s);obtain⟨L,au⟩:=zM (pO++[jI,jH,kY]);have av:L.length=12:=by rw[au.out];rfl
 rw[←au.out] at ak ag;clear r1 r2 ba bc H5 ac ah;have bh:=TU s hs w5;go_wp2_with fail
 go_loopg [9] 12 (fun m i wr=>∃ k:Nat,k+m=12∧i = .int .i64 k∧Hid (s∉L.take k)∧w5=wr)
 case atStart=>exact⟨0,by omega,rfl,by show ¬ _;simp,rfl⟩
 obtain⟨k,hk,rfl,HK,rfl⟩:=hrel;by_cases hlt:k<12
 ·obtain⟨x,Hx⟩:=yE (l:=L) (k:=k) (by rw[av];exact hlt);obtain⟨gb,rfl,aw⟩:=ak.get Hx.out;have hc:w5.cell? ⟨gb,k,none⟩=some (.string (S x)):=by
   have:=aw 0 _ rfl;have e:ekS.size=1:=rfl;rw[e,tS,oX] at this;exact this
  have bl:(k:Int)<12:=by omega
  have hlx:=sL x;clear aw;by_cases hsx:s=x
  ·have HM:Hid (oJ s=false):=by
    show _=_;have:s∈L:=by rw[hsx];exact uO Hx.out
    simp[oJ,ag.out,this]
   have hb:(s==x)=true:=by simp[hsx]
   clear hsx;go_wp2;go_ret;exact⟨nQ HM.out.symm,aj⟩
  have hb:(s==x)=false:=by simp[hsx]
  have HX:Hid (s∉L.take (k+1)):=by
   show ¬ _;rw[vX Hx.out];simp[hsx];exact HK.out
  clear hsx;go_wp2_with fail
  go_roundg (12-(k+1))
  case measure=>omega
  case rel=>exact⟨k+1,by omega,by go_num,HX,rfl⟩
 have HX:Hid (oJ s=sM s):=by
  show _=_;have h2:=HK.out;rw[uP (by rw[av];omega)] at h2;simp[oJ,ag.out,h2]
 clear HK ag;go_wp2_with fail
 refine bh.mono ?_;rintro e w6 ⟨rfl,bg⟩;go_wp2;go_ret;exact⟨nQ HX.out.symm,aj.trans (bg.mono aj.size)⟩
theorem bV{P:Prop}(h:P:=by
 clear hat;cases hq:decide (a.name=x) with
 | true=>
  have HF:=zI (jE Ha.out HK.out hq);have ah:(a.name==x)=true:=by simpa using hq
  clear hq;go_wp2;go_ret;exact⟨by rw[HF.out];rfl,hb1⟩
 | false=>
 have HX:Hid (∀ a∈l.take (k+1),decide (a.name=x)=false):=by
  show ∀ a∈_,_;rw[vX Ha.out];intro y hy;rcases zU.1 hy with hy|hy
  ·exact HK.out y hy
  rw[zS] at hy;rw[hy];exact hq
 have ah:(a.name==x)=false:=by simpa using hq
 clear hq;go_wp2_with fail
 go_roundg (n-(k+1))
 case measure=>omega
 case rel=>exact⟨k+1,by omega,by go_num,HX,hb1⟩):P:=h
theorem XO{P:Prop}(h:P:=by
 have HF:Hid (yK (fun m=>decide (m.name=x)) l = -1):=by
  have:=HK.out;rw[uP (by rw[←Hn.out];omega)] at this;exact SL this
 go_wp2;go_ret;exact⟨by rw[HF.out];rfl,hb⟩):P:=h
theorem bA {l:List MI}(h:RdL 3 MAt w vm l)(au:∃ ao n cap,ve = .slice ao n cap)(x:List UInt8) :
  Calls Tryz.prog 36 #[.agg #[vm,ve],.string (S x)] w fun e w'=>e = .returned (.int .i64 (yK (fun m=>decide (m.name=x)) l))∧zB w w':=by
 obtain⟨ao,n,cap,rfl,Hn,ag⟩:=h.sH;obtain⟨ae,ne,ce,rfl⟩:=au;obtain⟨W0,ac,hb0,-,-⟩:=zV w (.cells #[.slice ao n cap,.slice ae ne ce] 25);have hlx:=sL x;go_enter Tryz.func36,Tryz.ntmps36;go_wp2_with fail
 rw[←ac.out];go_loopg [10] n (fun m i wr=>∃ k:Nat,k+m=n∧i = .int .i64 k∧Hid (∀ a∈l.take k,decide (a.name=x)=false)∧zB w wr)
 case atStart=>exact⟨0,by omega,rfl,by show ∀ a∈_,_;simp,hb0⟩
 obtain⟨k,hk,rfl,HK,hb⟩:=hrel;by_cases hlt:k<n
 ·obtain⟨a,Ha⟩:=yE (l:=l) (k:=k) (by rw[←Hn.out];exact hlt);obtain⟨b,off,rfl,hat⟩:=(h.bL MAt.sT hb).get MAt.plain Ha.out;obtain⟨vf,vb,s0,s1,s2,ak,aj⟩:=hat.at;obtain⟨af,nf,cf,rfl,_,_⟩:=ak.sH;obtain⟨ab,nb,cb,rfl,_,_⟩:=aj.sH;have av:(k:Int)<(n:Int):=by omega
  have aw:=sL a.name;have hb1:zB w (wr.alloc (.cells #[.string (S a.name),.slice af nf cf,.slice ab nb cb] 35)):=hb.alloc hb.size _;exact bV
 exact XO
theorem D0w {l:List EI}(h:RdL 2 EAt w ve l)(ak:∃ ao n cap,vm = .slice ao n cap)(x:List UInt8) :
  Calls Tryz.prog 107 #[.agg #[vm,ve],.string (S x)] w fun e w'=>e = .returned (.int .i64 (yK (fun m=>decide (m.name=x)) l))∧zB w w':=by
 obtain⟨ao,n,cap,rfl,Hn,ag⟩:=h.sH;obtain⟨ae,ne,ce,rfl⟩:=ak;obtain⟨W0,ac,hb0,-,-⟩:=zV w (.cells #[.slice ae ne ce,.slice ao n cap] 25);have hlx:=sL x;go_enter Tryz.func107,Tryz.ntmps107;go_wp2_with fail
 rw[←ac.out];go_loopg [10] n (fun m i wr=>∃ k:Nat,k+m=n∧i = .int .i64 k∧Hid (∀ a∈l.take k,decide (a.name=x)=false)∧zB w wr)
 case atStart=>exact⟨0,by omega,rfl,by show ∀ a∈_,_;simp,hb0⟩
 obtain⟨k,hk,rfl,HK,hb⟩:=hrel;by_cases hlt:k<n
 ·obtain⟨a,Ha⟩:=yE (l:=l) (k:=k) (by rw[←Hn.out];exact hlt);obtain⟨b,off,rfl,hat⟩:=(h.bL EAt.sT hb).get EAt.plain Ha.out;obtain⟨vi,s0,s1,aj⟩:=hat.at;obtain⟨ai,ni,ci,rfl,_,_⟩:=aj.sH;have au:(k:Int)<(n:Int):=by omega
  have av:=sL a.name;have hb1:zB w (wr.alloc (.cells #[.string (S a.name),.slice ai ni ci] 92)):=hb.alloc hb.size _;exact bV
 exact XO
end L
end Go.Proofs.YthcomdofaaeihaaGreatDoor
