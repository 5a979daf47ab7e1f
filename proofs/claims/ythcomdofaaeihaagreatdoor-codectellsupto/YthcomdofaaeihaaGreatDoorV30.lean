import Derived.Test.YthcomdofaaeihaaGreatDoorV24
set_option maxHeartbeats 32000000
set_option maxRecDepth 100000
namespace Go.Proofs.YthcomdofaaeihaaGreatDoor
namespace L
open Go.RowKit
theorem E0d {ao:Option Addr}{len cap:Nat}{k:Nat}(hk:k≤len)(hc:len≤cap)(w:World) :
  (Instr.slice 32 (.slice ao len cap) none (some (.int .i64 (k:Int))) none).run Tryz.prog w = .ok (.slice ao k cap) w:=by
 have:=run_slice_h (P:=Tryz.prog) (w:=w) 32 ao len cap Tryz.underlying32 .i64 (k:Int) (by omega) (by omega);rw[this];have e1:(sizeOf (Tryz.prog.elem 32)).run Tryz.prog w = .ok 6 w:=by rfl
 rw[e1];have e2:ao.map (fun x=>x.add 0)=ao:=by cases ao <;> rfl
 simp[Result.andThen,sliced,e2]
theorem iD{P:Prop}(h:P:=by
 go_wp2;go_ret;exact⟨oA HE.out.symm,ac⟩):P:=h
theorem Qk9{P:Prop}(h:P:=by
 go_wp2;go_meet
 case rel=>exact⟨by rw[HC.out];congr 1;simp;omega,rfl⟩):P:=h
theorem mY{P:Prop}(h:P:=by
 rintro e w3 ⟨rfl,hb3⟩;have aw:=(aj w3 (hb2.trans (hb3.mono hb2.size))).2.2.2;clear aj;go_wp2;go_ret;exact⟨oA HE.out.symm,aw⟩):P:=h
theorem eO{P:Prop}(h:P:=by
 show ¬ _;rw[vX Hy.out,wM];intro hm;rcases zU.1 hm with hm|hm
 ·exact HK.out hm
 simp at hm;exact hxy hm.symm):P:=h
theorem Ql2{P:Prop}(h:P:=by
 go_wp2_with fail
 go_roundg (i-(k+1))
 case measure=>omega
 case rel=>exact⟨k+1,cn,y.cE,by omega,by go_num,rfl,rfl,by omega,by omega,bh,hb3⟩):P:=h
theorem Ql3{P:Prop}(h:P:=by
 rintro e w3 ⟨rfl,hb3⟩;have dl:=hb2.trans (hb3.mono hb2.size);go_wp2;go_meet
 case rel=>exact⟨HE,dl⟩):P:=h
theorem B3y {w:World}{vm ve vf vb:Value}{g:GI}(m:MI){i:Nat}{x:FI}(hx:m.fD[i]?=some x)(hg:GRd w vm ve g)(hl:RdL 6 FAt w vf m.fD)(cg:RdL 1 NAt w vb m.barred)(hn:m.fD.length≤16)(dy:x.name.length≤9223372036854775807) :
  Calls Tryz.prog 48 #[.agg #[vm,ve],.agg #[.string (S m.name),vf,vb],.int .i64 (i:Int)] w fun e w'=>e = .returned (.int .i64 (sG g m.barred (m.fD.take i) x))∧zB w w':=by
 obtain⟨a1,n1,c1,rfl,_,_⟩:=hg.1.sH;obtain⟨a2,n2,c2,rfl,_,_⟩:=hg.2.sH;obtain⟨af,nf,cf,rfl,Hf,_⟩:=hl.sH;obtain⟨ab,nb,cb,rfl,Hb,eo⟩:=cg.sH;have hi:i<nf:=by rw[Hf.out];exact(yG.1 hx).1
 have fh:nf≤16:=by rw[Hf.out];exact hn
 have dw:=(hl.len).2.1;have fd:(i:Int)<(nf:Int):=by omega
 have fj:∀ V,(Instr.slice 32 (.slice af nf cf) none (some (.int .i64 (i:Int))) none).run Tryz.prog V = .ok (.slice af i cf) V:=fun V=>E0d (by omega) dw V
 obtain⟨bf,of,rfl,dt⟩:=hl.get FAt.plain hx;obtain⟨y0,y1,y2,y3,y4,y5⟩:=dt.at;have eu:bf<w.heap.size:=mD w _ y0;have HX:=zI hx;clear hx dt;obtain⟨W1,av⟩:=zM (((w.alloc (.cells #[.slice a1 n1 c1,.slice a2 n2 c2] 25)).alloc (.cells #[.string (S m.name),.slice (some ⟨bf,of,none⟩) nf cf,.slice ab nb cb] 35)).alloc (.cells #[.string (S x.name),.int .i64 x.nU,.int .i64 x.kind,.string (S x.type),.bool x.many,.int .i64 x.cE] 47));have hb1:zB w W1:=by rw[av.out];exact(((zH _ _).alloc (zG _) _).alloc (by simp) _).alloc (by simp;omega) _
 have hz1:w.heap.size+3≤W1.heap.size:=by rw[av.out];simp
 have x1:W1.heap[w.heap.size]?=some (.cells #[.slice a1 n1 c1,.slice a2 n2 c2] 25 (0,0)):=by rw[av.out,wT _ _ _ (by simp;omega)];exact oP _ _ _
 have x2:W1.heap[w.heap.size+1]?=some (.cells #[.string (S m.name),.slice (some ⟨bf,of,none⟩) nf cf,.slice ab nb cb] 35 (0,0)):=by rw[av.out,wT _ _ _ (by simp)];exact pX _ _ _
 have x3:W1.heap[w.heap.size+1+1]?=some (.cells #[.string (S x.name),.int .i64 x.nU,.int .i64 x.kind,.string (S x.type),.bool x.many,.int .i64 x.cE] 47 (0,0)):=by
  have:=yM ((w.alloc (.cells #[.slice a1 n1 c1,.slice a2 n2 c2] 25)).alloc (.cells #[.string (S m.name),.slice (some ⟨bf,of,none⟩) nf cf,.slice ab nb cb] 35)) (.cells #[.string (S x.name),.int .i64 x.nU,.int .i64 x.kind,.string (S x.type),.bool x.many,.int .i64 x.cE] 47);rw[←av.out] at this;simpa using this
 obtain⟨X,df⟩:=zM (w.heap.size+1+1);have eh:X≤w.heap.size+2:=xD df.out;have ei:w.heap.size+2≤X:=xD df.out.symm;rw[←df.out] at x3;have ag:=fun V (hV:zB W1 V)=>yH ((zN hV).trans x1) (yH ((zN hV).trans x2) (yH ((zN hV).trans x3) (hb1.trans (hV.mono (by omega)))))
 have dv:=TU x.name dy W1;obtain⟨R,HR⟩:=zM (sG g m.barred (m.fD.take i) x);rw[←HR.out];have z0:=(tW x3).1;rw[av.out] at z0;go_enter Tryz.func48,Tryz.ntmps48;go_wp2_with fail
 rw[←av.out,←df.out];refine dv.mono ?_;rintro e w2 ⟨rfl,hb2⟩;obtain⟨k1,k2,k3,ac⟩:=ag w2 hb2;obtain⟨u0,u1,u2⟩:=uG k2;clear z0 dv y0 y1 y2 y3 y4 y5;cases q0:sM x.name with
 | false=>
  have HE:Hid (R=7):=by show _=_;rw[HR.out,sG,zF q0]
  clear q0;exact iD
 | true=>
 have bc:Hid (R=if x.name∈(m.fD.take i).map FI.name then 7 else if qZ x.nU=false then 3 else if x.nU∈m.barred then 8 else if x.nU∈(m.fD.take i).map FI.nU then 8 else if uI g x≠0 then uI g x else if x.many=true∧0<x.cE then 8 else if uH (vN (m.fD.take i) (0,0)).2 (vN (m.fD.take i) (0,0)).1 x.cE=true then 2 else 0):=by
  show _=_;rw[HR.out,sG,zC (by rw[q0];simp)]
 obtain⟨A,HA⟩:=zM (m.fD.take i);have bg:A.length=i:=by rw[HA.out,vZ];rw[←Hf.out];omega
 have di:∀ (k:Nat) (y:FI),A[k]?=some y→m.fD[k]?=some y:=by
  intro k y h;rw[HA.out,oZ] at h;split at h
  ·exact h
  cases h
 rw[←HA.out] at bc;clear q0 HR;go_wp2_with fail
 go_loopg [32] i (fun gm j wr=>∃ k:Nat,k+gm=i∧j = .int .i64 k∧Hid (x.name∉(A.take k).map FI.name)∧zB W1 wr)
 case atStart=>exact⟨0,by omega,rfl,by show ¬ _;simp,hb2⟩
 clear k1 k2 k3 ac u0 u1 u2 hb2;obtain⟨k,hk,rfl,HK,hb2⟩:=hrel;obtain⟨k1,k2,k3,ac⟩:=ag wr hb2;have dm:=(zR k3)
 obtain⟨t0,t1,t2,t3,t4,t5⟩:=tW k3;by_cases hlt:k<i
 ·obtain⟨y,Hy⟩:=yE (l:=A) (k:=k) (by rw[bg];exact hlt);obtain⟨b',o',e,au⟩:=(hl.bL FAt.sT ac).get FAt.plain (di _ _ Hy.out);cases e
  obtain⟨y0,y1,y2,y3,y4,y5⟩:=au.at;have dp:(k:Int)<(i:Int):=by omega
  have fe:=sL y.name;have hl2:=sL x.name;have hb3:zB W1 (wr.alloc (.cells #[.string (S y.name),.int .i64 y.nU,.int .i64 y.kind,.string (S y.type),.bool y.many,.int .i64 y.cE] 47)):=hb2.alloc hb2.size _;clear au;by_cases hxy:y.name=x.name
  ·have HE:Hid (R=7):=by
    show _=_;rw[bc.out,zF (by rw[←hxy];exact vT.2 ⟨y,uO Hy.out,rfl⟩)]
   have hq:(y.name==x.name)=true:=by simp[hxy]
   have aw:=(ag _ hb3).2.2.2;clear hxy bc ag;go_wp2;go_ret;exact⟨oA HE.out.symm,aw⟩
  have hq:(y.name==x.name)=false:=by simp[hxy]
  have bu:Hid (x.name∉(A.take (k+1)).map FI.name):=by
   exact eO
  clear hxy bc ag;go_wp2_with fail
  go_roundg (i-(k+1))
  case measure=>omega
  case rel=>exact⟨k+1,by omega,by go_num,bu,hb3⟩
 have cw:Hid (R=if qZ x.nU=false then 3 else if x.nU∈m.barred then 8 else if x.nU∈A.map FI.nU then 8 else if uI g x≠0 then uI g x else if x.many=true∧0<x.cE then 8 else if uH (vN A (0,0)).2 (vN A (0,0)).1 x.cE=true then 2 else 0):=by
  have h2:=HK.out;rw[uP (by rw[bg];omega)] at h2;show _=_;rw[bc.out,zC h2]
 clear HK bc;go_upto_region 10 with fail
 go_cut [59] (fun c wx=>c = .bool (!qZ x.nU)∧wr=wx)
 case first=>
  have e:qZ x.nU=(decide (1≤x.nU)&&(decide (x.nU<536870912)&&(decide (x.nU<19000)||decide (19999<x.nU)))):=rfl;have HC:=zI e;clear e;by_cases c1:x.nU<1
  ·exact Qk9
  by_cases c2:536870911<x.nU
  ·exact Qk9
  by_cases c3:19000≤x.nU
  ·by_cases c4:x.nU≤19999
   ·exact Qk9
   exact Qk9
  exact Qk9
 obtain⟨rfl,rfl⟩:=hcut;obtain⟨u0,u1,u2⟩:=uG k2;cases q1:qZ x.nU with
 | false=>
  have HE:Hid (R=3):=by show _=_;rw[cw.out,zF q1]
  clear q1 ag cw;exact iD
 | true=>
 have bk:Hid (R=if x.nU∈m.barred then 8 else if x.nU∈A.map FI.nU then 8 else if uI g x≠0 then uI g x else if x.many=true∧0<x.cE then 8 else if uH (vN A (0,0)).2 (vN A (0,0)).1 x.cE=true then 2 else 0):=by
  show _=_;rw[cw.out,zC (by rw[q1];simp)]
 clear q1 cw;go_wp2_with fail
 go_loopg [63] nb (fun gm j wq=>∃ k:Nat,k+gm=nb∧j = .int .i64 k∧Hid (x.nU∉m.barred.take k)∧wr=wq)
 case atStart=>exact⟨0,by omega,rfl,by show ¬ _;simp,rfl⟩
 obtain⟨k,hk,rfl,HK,rfl⟩:=hrel;by_cases hlt:k<nb
 ·obtain⟨n,Hn⟩:=yE (l:=m.barred) (k:=k) (by rw[←Hb.out];exact hlt);obtain⟨bb,ob,rfl,dn⟩:=(cg.bL NAt.sT ac).get NAt.plain Hn.out;have dn:wr.cell? ⟨bb,ob+k*1,none⟩=some (.int .i64 n):=dn;rw[tS] at dn;have dp:(k:Int)<(nb:Int):=by omega
  by_cases hxn:n=x.nU
  ·have HE:Hid (R=8):=by
    show _=_;rw[bk.out,zF (by rw[←hxn];exact uO Hn.out)]
   have hq:(n==x.nU)=true:=by simp[hxn]
   clear hxn bk ag;exact iD
  have hq:(n==x.nU)=false:=by simp[hxn]
  have bu:Hid (x.nU∉m.barred.take (k+1)):=by
   show ¬ _;rw[vX Hn.out];simp[Ne.symm hxn];exact HK.out
  clear hxn bk ag;go_wp2_with fail
  go_roundg (nb-(k+1))
  case measure=>omega
  case rel=>exact⟨k+1,by omega,by go_num,bu,rfl⟩
 have bl:Hid (R=if x.nU∈A.map FI.nU then 8 else if uI g x≠0 then uI g x else if x.many=true∧0<x.cE then 8 else if uH (vN A (0,0)).2 (vN A (0,0)).1 x.cE=true then 2 else 0):=by
  have h2:=HK.out;rw[uP (by rw[←Hb.out];omega)] at h2;show _=_;rw[bk.out,zC h2]
 clear HK bk;go_wp2_with fail
 go_loopg [77] i (fun gm j wq=>∃ k:Nat,k+gm=i∧j = .int .i64 k∧Hid (x.nU∉(A.take k).map FI.nU)∧zB W1 wq)
 case atStart=>exact⟨0,by omega,rfl,by show ¬ _;simp,hb2⟩
 clear k1 k2 k3 ac u0 u1 u2 t0 t1 t2 t3 t4 t5 hb2 dm;obtain⟨k,hk,rfl,HK,hb2⟩:=hrel;obtain⟨wq,dh⟩:∃ wq,wq=wr:=⟨_,rfl⟩
 subst dh;obtain⟨k1,k2,k3,ac⟩:=ag wq hb2;have dm:=(zR k3)
 obtain⟨t0,t1,t2,t3,t4,t5⟩:=tW k3;by_cases hlt:k<i
 ·obtain⟨y,Hy⟩:=yE (l:=A) (k:=k) (by rw[bg];exact hlt);obtain⟨b',o',e,au⟩:=(hl.bL FAt.sT ac).get FAt.plain (di _ _ Hy.out);cases e
  obtain⟨y0,y1,y2,y3,y4,y5⟩:=au.at;have dp:(k:Int)<(i:Int):=by omega
  have hb3:zB W1 (wq.alloc (.cells #[.string (S y.name),.int .i64 y.nU,.int .i64 y.kind,.string (S y.type),.bool y.many,.int .i64 y.cE] 47)):=hb2.alloc hb2.size _;clear au;by_cases hxy:y.nU=x.nU
  ·have HE:Hid (R=8):=by
    show _=_;rw[bl.out,zF (by rw[←hxy];exact vT.2 ⟨y,uO Hy.out,rfl⟩)]
   have hq:(y.nU==x.nU)=true:=by simp[hxy]
   have aw:=(ag _ hb3).2.2.2;clear hxy bl ag;go_wp2;go_ret;exact⟨oA HE.out.symm,aw⟩
  have hq:(y.nU==x.nU)=false:=by simp[hxy]
  have bu:Hid (x.nU∉(A.take (k+1)).map FI.nU):=by
   exact eO
  clear hxy bl ag;go_wp2_with fail
  go_roundg (i-(k+1))
  case measure=>omega
  case rel=>exact⟨k+1,by omega,by go_num,bu,hb3⟩
 have ah:Hid (R=if uI g x≠0 then uI g x else if x.many=true∧0<x.cE then 8 else if uH (vN A (0,0)).2 (vN A (0,0)).1 x.cE=true then 2 else 0):=by
  have h2:=HK.out;rw[uP (by rw[bg];omega)] at h2;show _=_;rw[bl.out,zC h2]
 clear HK bl;go_upto_block 6 with fail;go_cut [] (fun wc=>Hid (uI g x=0)∧zB W1 wc)
 case first=>
  obtain⟨f0,f1⟩:=zO k1;have hen:=D0w (hg.bL ac).2 ⟨a1,n1,c1,rfl⟩ x.type;have cj:=bA (hg.bL ac).1 ⟨a2,n2,c2,rfl⟩ x.type;obtain⟨re,He⟩:=zM (yK (fun m:EI=>decide (m.name=x.type)) g.enums);obtain⟨rm,Hm⟩:=zM (yK (fun m:MI=>decide (m.name=x.type)) g.mG);rw[←He.out] at hen;rw[←Hm.out] at cj;have hl2:=sL x.type;by_cases k5:x.kind=5
  ·have HK:Hid (uI g x=if re<0 then 6 else 0):=by show _=_;rw[uI,zF k5,He.out]
   have q1:(x.kind==5)=true:=by simp[k5]
   clear k5 cj;by_cases hr:re<0
   ·have HE:Hid (R=6):=by show _=_;rw[ah.out,HK.out,zF hr];rfl
    have aj:=ag;clear ah HK ag;go_wp2_with fail
    refine hen.mono ?_;exact mY
   have HE:Hid (uI g x=0):=by show _=_;rw[HK.out,zC hr]
   clear ah HK ag;go_wp2_with fail
   refine hen.mono ?_;exact Ql3
  by_cases k10:x.kind=10
  ·have HK:Hid (uI g x=if rm<0 then 6 else 0):=by show _=_;rw[uI,zC k5,zF k10,Hm.out]
   have q0:(x.kind==5)=false:=by simp[k5]
   have q1:(x.kind==10)=true:=by simp[k10]
   clear k5 k10 hen;by_cases hr:rm<0
   ·have HE:Hid (R=6):=by show _=_;rw[ah.out,HK.out,zF hr];rfl
    have aj:=ag;clear ah HK ag;go_wp2_with fail
    refine cj.mono ?_;exact mY
   have HE:Hid (uI g x=0):=by show _=_;rw[HK.out,zC hr]
   clear ah HK ag;go_wp2_with fail
   refine cj.mono ?_;exact Ql3
  have q5:(x.kind==5)=false:=by simp[k5]
  have fk:(x.kind==10)=false:=by simp[k10]
  clear hen cj;by_cases k9:1≤x.kind∧x.kind≤9
  ·have HK:Hid (uI g x=if x.type = [] then 0 else 8):=by show _=_;rw[uI,zC k5,zC k10,zF k9]
   have hk:x.kind=1∨x.kind=2∨x.kind=3∨x.kind=4∨x.kind=6∨x.kind=7∨x.kind=8∨x.kind=9:=by omega
   clear k5 k10 k9;by_cases ht:x.type = []
   ·have HE:Hid (uI g x=0):=by show _=_;rw[HK.out,zF ht]
    have dz:(x.type == [])=true:=by simp[ht]
    clear HK ht ah ag;rcases hk with hk|hk|hk|hk|hk|hk|hk|hk
    all_goals go_wp2
    all_goals go_meet
    all_goals exact⟨HE,hb2⟩
   have HE:Hid (R=8):=by show _=_;rw[ah.out,HK.out,zC ht];rfl
   have dz:(x.type == [])=false:=by cases hx:x.type with|nil=>exact absurd hx ht|cons a b=>rfl
   clear HK ht ah ag;rcases hk with hk|hk|hk|hk|hk|hk|hk|hk
   all_goals go_wp2
   all_goals go_ret
   all_goals exact⟨oA HE.out.symm,ac⟩
  have HE:Hid (R=1):=by show _=_;rw[ah.out,uI,zC k5,zC k10,zC k9];rfl
  have r1:(x.kind==1)=false:=by simp;omega
  have r2:(x.kind==2)=false:=by simp;omega
  have r3:(x.kind==3)=false:=by simp;omega
  have r4:(x.kind==4)=false:=by simp;omega
  have r6:(x.kind==6)=false:=by simp;omega
  have r7:(x.kind==7)=false:=by simp;omega
  have r8:(x.kind==8)=false:=by simp;omega
  have r9:(x.kind==9)=false:=by simp;omega
  clear k5 k10 k9 ah ag;exact iD
 clear k1 k2 k3 ac t0 t1 t2 t3 t4 t5 dm hb2;obtain⟨dr,hb2⟩:=hcut;obtain⟨k1,k2,k3,ac⟩:=ag wc hb2;obtain⟨t0,t1,t2,t3,t4,t5⟩:=tW k3;obtain⟨u0,u1,u2⟩:=uG k2;have bn:Hid (R=if x.many=true∧0<x.cE then 8 else if uH (vN A (0,0)).2 (vN A (0,0)).1 x.cE=true then 2 else 0):=by
  show _=_;rw[ah.out,zC (by rw[dr.out];simp)]
 clear ah dr;go_upto_region 42 with fail
 go_cut [121] (fun c wx=>c = .bool (decide (x.many=true∧0<x.cE))∧wc=wx)
 case first=>
  clear ag bn;obtain⟨mn,cu⟩:=zM (x.many);rw[←cu.out] at t4;cases mn with
  | false=>
   go_wp2;go_meet
   case rel=>exact⟨by rw[←cu.out];simp,rfl⟩
  | true=>
  by_cases hc:0<x.cE
  ·go_wp2;go_meet
   case rel=>exact⟨by rw[←cu.out];simp[hc],rfl⟩
  go_wp2;go_meet
  case rel=>exact⟨by rw[←cu.out];simp[hc],rfl⟩
 obtain⟨rfl,rfl⟩:=hcut;by_cases hmc:x.many=true∧0<x.cE
 ·have HE:Hid (R=8):=by show _=_;rw[bn.out,zF hmc]
  have hd:decide (x.many=true∧0<x.cE)=true:=by simpa using hmc
  rw[hd];clear hmc bn ag hd;exact iD
 have dg:Hid (R=if uH (vN A (0,0)).2 (vN A (0,0)).1 x.cE=true then 2 else 0):=by show _=_;rw[bn.out,zC hmc]
 have hd:decide (x.many=true∧0<x.cE)=false:=by simpa using hmc
 rw[hd];clear hmc bn hd;go_wp2_with fail
 go_loopg [14,15,127] i (fun gm d9 ee j wq=>∃ (k:Nat) (cn cl:Int),k+gm=i∧j = .int .i64 k∧d9 = .int .i64 cn∧ee = .int .i64 cl∧0≤cn∧cn≤(k:Int)∧Hid (vN A (0,0)=vN (A.drop k) (cn,cl))∧zB W1 wq)
 case atStart=>exact⟨0,0,0,by omega,rfl,rfl,rfl,by omega,by omega,rfl,hb2⟩
 clear k1 k2 k3 ac u0 u1 u2 t0 t1 t2 t3 t4 t5 hb2;obtain⟨k,cn,cl,hk,rfl,rfl,rfl,hc0,ew,HK,hb2⟩:=hrel;obtain⟨wq,dh⟩:∃ wq,wq=wr:=⟨_,rfl⟩
 subst dh;obtain⟨k1,k2,k3,ac⟩:=ag wq hb2;obtain⟨t0,t1,t2,t3,t4,t5⟩:=tW k3;by_cases hlt:k<i
 ·obtain⟨y,Hy⟩:=yE (l:=A) (k:=k) (by rw[bg];exact hlt);obtain⟨b',o',e,au⟩:=(hl.bL FAt.sT ac).get FAt.plain (di _ _ Hy.out);cases e
  obtain⟨y0,y1,y2,y3,y4,y5⟩:=au.at;have dp:(k:Int)<(i:Int):=by omega
  have hb3:zB W1 (wq.alloc (.cells #[.string (S y.name),.int .i64 y.nU,.int .i64 y.kind,.string (S y.type),.bool y.many,.int .i64 y.cE] 47)):=hb2.alloc hb2.size _;have hdr:A.drop k=y::A.drop (k+1):=by
   obtain⟨dx,e⟩:=yG.1 Hy.out;rw[uQ dx,e]
  have ba:Hid (vN A (0,0)=vN (A.drop (k+1)) (if y.cE≠0∧y.cE≠cl then cn+1 else cn,y.cE)):=by show _=_;rw[HK.out,hdr];rfl
  clear au hdr HK dg ag;by_cases h1:y.cE=0
  ·have q1:(y.cE != 0)=false:=by simp[h1]
   have bh:Hid (vN A (0,0)=vN (A.drop (k+1)) (cn,y.cE)):=by show _=_;rw[ba.out,zC (by simp[h1])]
   clear h1 ba;exact Ql2
  have q1:(y.cE != 0)=true:=by simp[h1]
  by_cases h2:y.cE=cl
  ·have q2:(y.cE != cl)=false:=by simp[h2]
   have bh:Hid (vN A (0,0)=vN (A.drop (k+1)) (cn,y.cE)):=by show _=_;rw[ba.out,zC (by simp[h2])]
   clear h1 h2 ba;exact Ql2
  have q2:(y.cE != cl)=true:=by simp[h2]
  have bh:Hid (vN A (0,0)=vN (A.drop (k+1)) (cn+1,y.cE)):=by show _=_;rw[ba.out,zF ⟨h1,h2⟩]
  have hcb:cn+1≤1000:=by omega
  clear h1 h2 ba;go_wp2_with fail
  go_roundg (i-(k+1))
  case measure=>omega
  case rel=>exact⟨k+1,cn+1,y.cE,by omega,by go_num,by go_num,rfl,by omega,by omega,bh,hb3⟩
 have HC:Hid (vN A (0,0)=(cn,cl)):=by
  have e:A.drop k = []:=sF (by rw[bg];omega);show _=_;rw[HK.out,e];rfl
 have ak:Hid (R=if uH cl cn x.cE=true then 2 else 0):=by show _=_;rw[dg.out,HC.out]
 have hcb:cn+1≤1000:=by omega
 clear HC HK dg ag;by_cases h1:x.cE=0
 ·have q1:(x.cE != 0)=false:=by simp[h1]
  have HE:Hid (R=0):=by show _=_;rw[ak.out,zC (by simp[uH,h1])]
  clear h1 ak;exact iD
 have q1:(x.cE != 0)=true:=by simp[h1]
 by_cases h2:x.cE=cl
 ·have q2:(x.cE != cl)=false:=by simp[h2]
  have HE:Hid (R=0):=by show _=_;rw[ak.out,zC (by simp[uH,h2])]
  clear h1 h2 ak;exact iD
 have q2:(x.cE != cl)=true:=by simp[h2]
 by_cases h3:x.cE=cn+1
 ·have q3:(x.cE != cn+1)=false:=by simp[h3]
  have HE:Hid (R=0):=by show _=_;rw[ak.out,zC (by simp[uH,h3])]
  clear h1 h2 h3 ak;exact iD
 have q3:(x.cE != cn+1)=true:=by simp[h3]
 have HE:Hid (R=2):=by show _=_;rw[ak.out,zF (by simp[uH,h1,h2,h3])]
 clear h1 h2 h3 ak;exact iD
end L
end Go.Proofs.YthcomdofaaeihaaGreatDoor
