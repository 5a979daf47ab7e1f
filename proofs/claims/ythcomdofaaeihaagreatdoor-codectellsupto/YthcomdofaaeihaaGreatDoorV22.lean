import Derived.Test.YthcomdofaaeihaaGreatDoorV18
set_option maxHeartbeats 32000000
set_option maxRecDepth 100000
set_option linter.unusedVariables false
namespace Go.Proofs.YthcomdofaaeihaaGreatDoor
namespace L
open Go.RowKit
variable{v b3 b2 m b0 b1 least n:Nat}
def oI (c:Nat):Option (Nat×Nat×Nat):=
 if c<128 then some (0,0,c) else if 194≤c∧c<224 then some (1,128,c-192) else if 224≤c∧c<240 then some (2,2048,c-224) else if 240≤c∧c<245 then some (3,65536,c-240) else none
def tC (b:Nat→Nat)(n:Nat):Nat→Nat
 | 0=>n
 | j+1=>64*tC b n j+b (j+1)%64
def qY (least v:Nat):Bool:=decide (v<least)||(decide (1114111<v)||(decide (55296≤v)&&decide (v<57344)))
theorem C9d (h:oI b0=none):vQ n b0 b1 b2 b3=0:=by
 unfold oI at h;unfold vQ
 repeat' split at h
 all_goals first|(cases h;done)|skip
 rename_i c0 c1 c2 c3;rw[zC c0,zC c1,zC c2,zC c3]
theorem TJ {n b1 b2 b3:Nat}(h:oI b0=some (m,least,v)):(m=0∧least=0∧v=b0∧b0<128)∨(m=1∧least=128∧v=b0-192∧194≤b0∧b0<224)∨(m=2∧least=2048∧v=b0-224∧224≤b0∧b0<240)∨(m=3∧least=65536∧v=b0-240∧240≤b0∧b0<245):=by
 unfold oI at h
 repeat' split at h
 all_goals first|(cases h;done)|(simp only[Option.some.injEq,Prod.mk.injEq] at h;omega)
theorem A5i {b:Nat→Nat}(e1:b 1=b1)(e2:b 2=b2)(e3:b 3=b3)(h:oI b0=some (m,least,v)){j:Nat}(h1:1≤j)(h2:j≤m)(hb:¬ (j<n∧b j / 64=2)):vQ n b0 b1 b2 b3=0:=by
 have hl:=TJ (n:=n) (b1:=b1) (b2:=b2) (b3:=b3) h;have hj:j=1∨j=2∨j=3:=by omega
 unfold vQ;rcases hl with⟨rfl,_,_,c⟩|⟨rfl,_,_,c⟩|⟨rfl,_,_,c⟩|⟨rfl,_,_,c⟩
 ·omega
 ·obtain rfl:j=1:=by omega
  rw[e1] at hb;rw[zC (by omega),zF c,zC hb]
 ·rw[zC (by omega),zC (by omega),zF c,zC];rintro⟨q1,q2,_⟩;rcases hj with rfl|rfl|rfl
  ·rw[e1] at hb;exact hb q1
  ·rw[e2] at hb;exact hb q2
  omega
 rw[zC (by omega),zC (by omega),zC (by omega),zF c,zC];rintro⟨q1,q2,q3,_⟩;rcases hj with rfl|rfl|rfl
 ·rw[e1] at hb;exact hb q1
 ·rw[e2] at hb;exact hb q2
 rw[e3] at hb;exact hb q3
theorem XR{P:Prop}(h:P:=by
 simp only[jN,decide_eq_true_eq,lS];omega):P:=h
theorem YI {b:Nat→Nat}(e1:b 1=b1)(e2:b 2=b2)(e3:b 3=b3)(h0:b0<256)(h1:b1<256)(h2:b2<256)(h3:b3<256)(h:oI b0=some (m,least,v))(hb:∀ j,1≤j→j≤m→j<n∧b j / 64=2):vQ n b0 b1 b2 b3=if qY least (tC b v m) then 0 else 1+m:=by
 have hl:=TJ (n:=n) (b1:=b1) (b2:=b2) (b3:=b3) h;unfold vQ;rcases hl with⟨rfl,rfl,rfl,c⟩|⟨rfl,rfl,rfl,c⟩|⟨rfl,rfl,rfl,c⟩|⟨rfl,rfl,rfl,c⟩
 ·rw[zF c];have:qY 0 (tC b v 0)=false:=by
   show(decide (v<0)||(decide (1114111<v)||(decide (55296≤v)&&decide (v<57344))))=false;rw[yC (by omega:¬ v<0),yC (by omega:¬ 1114111<v),yC (by omega:¬ 55296≤v)];rfl
  rw[this];rfl
 ·have q1:=hb 1 (by omega) (by omega);rw[e1] at q1;rw[zC (by omega),zF c,zF q1];have:qY 128 (tC b (b0-192) 1)=false:=by unfold qY tC tC;rw[e1];simp;omega
  rw[this];rfl
 ·have q1:=hb 1 (by omega) (by omega);have q2:=hb 2 (by omega) (by omega);rw[e1] at q1;rw[e2] at q2;rw[zC (by omega),zC (by omega),zF c];have hv:tC b (b0-224) 2=64*(64*(b0-224)+b1%64)+b2%64:=by simp only[tC,e1,e2]
  rw[hv];unfold qY;by_cases q:2048≤64*(64*(b0-224)+b1%64)+b2%64∧¬ (55296≤64*(64*(b0-224)+b1%64)+b2%64∧64*(64*(b0-224)+b1%64)+b2%64<57344)
  ·rw[zF ⟨q1,q2,q⟩,zC];exact XR
  rw[zC (fun h=>q h.2.2),zF];exact XR
 have q1:=hb 1 (by omega) (by omega);have q2:=hb 2 (by omega) (by omega);have q3:=hb 3 (by omega) (by omega);rw[e1] at q1;rw[e2] at q2;rw[e3] at q3;rw[zC (by omega),zC (by omega),zC (by omega),zF c];have hv:tC b (b0-240) 3=64*(64*(64*(b0-240)+b1%64)+b2%64)+b3%64:=by simp only[tC,e1,e2,e3]
 rw[hv];unfold qY;by_cases q:65536≤64*(64*(64*(b0-240)+b1%64)+b2%64)+b3%64∧64*(64*(64*(b0-240)+b1%64)+b2%64)+b3%64≤1114111
 ·rw[zF ⟨q1,q2,q3,q⟩,zC];exact XR
 rw[zC (fun h=>q h.2.2.2),zF];exact XR
theorem Qh7{P:Prop}(h:P:=by
 go_wp2;go_ret;exact⟨by rw[HX.out];rfl,rfl⟩):P:=h
theorem aD{P:Prop}(h:P:=by
 have u4:decide ((V:Int)<57344)=true:=by simp;omega
 have HX:=zI (ag.out (by rw[ah.out,xU p3,xU p4];simp));clear p1 p2 p3 p4;exact Qh7):P:=h
theorem kE{P:Prop}(h:P:=by
 have e1:=ac.out 1;have e2:=ac.out 2;have e3:=ac.out 3;have:q=0∨q=1∨q=2∨q=3:=by omega
 rcases this with rfl|rfl|rfl|rfl <;> simp only[tC] <;> omega):P:=h
theorem aC{P:Prop}(h:P:=by
 have f2:((x:Int) / 64 != 2)=true:=by simp;omega
 have HX:Hid (R=false):=by
  show _=_;rw[HST.out,A5i (b:=B) rfl rfl rfl av.out bh hjm (fun h=>hx (by rw[←Hx.out];exact h.2))];rfl
 clear hx;exact Qh7):P:=h
theorem aB{P:Prop}(h:P:=by
 have u2:decide (1114111<(V:Int))=true:=by simp;omega
 have HX:=zI (ag.out (by rw[ah.out,xU p2];simp));clear p1 p2;exact Qh7):P:=h
theorem XT{P:Prop}(h:P:=by
 have f1:decide ((n:Int)≤(i:Int)+(q:Int))=true:=by simp;omega
 have HX:Hid (R=false):=by
  show _=_;rw[HST.out,A5i (b:=B) rfl rfl rfl av.out bh hjm (fun h=>by omega)];rfl
 exact Qh7):P:=h
theorem bZ{P:Prop}(h:P:=by
 have HX:=zI (ag.out (by rw[ah.out,xU p1];rfl));clear p1;exact Qh7):P:=h
theorem XS{P:Prop}(h:P:=by
 show _=_;obtain⟨q',rfl⟩:∃ q',q=q'+1:=⟨q-1,by omega⟩
 rw[←HV.out,←Hx.out];rfl):P:=h
theorem bY{P:Prop}(h:P:=by
 by_cases ht:t=q
 ·rw[ht,Hx.out];exact⟨by omega,hx⟩
 exact HT.out t h1 (by omega)):P:=h
theorem XQ{P:Prop}(h:P:=by
 rw[hb] at hstep;rw[HST.out,hstep,zC (by simp)];rfl):P:=h
theorem bX{P:Prop}(h:P:=by
 go_wp2_with fail
 go_roundg (n-(i+(1+0)))
 case measure=>omega
 case rel=>exact⟨i+(1+0),bc,by omega,by first|(congr 1;done)|(congr 1;omega),HX,rfl⟩):P:=h
theorem bW{P:Prop}(h:P:=by
 go_wp2_with fail
 go_roundg (n-(i+(1+1)))
 case measure=>omega
 case rel=>exact⟨i+(1+1),bc,by omega,by first|(congr 1;done)|(congr 1;omega),HX,rfl⟩):P:=h
theorem Qj0{P:Prop}(h:P:=by
 go_wp2_with fail
 go_roundg (n-(i+(1+2)))
 case measure=>omega
 case rel=>exact⟨i+(1+2),bc,by omega,by first|(congr 1;done)|(congr 1;omega),HX,rfl⟩):P:=h
theorem Qj1{P:Prop}(h:P:=by
 go_wp2_with fail
 go_roundg (n-(i+(1+3)))
 case measure=>omega
 case rel=>exact⟨i+(1+3),bc,by omega,by first|(congr 1;done)|(congr 1;omega),HX,rfl⟩):P:=h
theorem Qj2{P:Prop}(h:P:=by
 rw[hb] at hstep;rw[HST.out,hstep];rfl):P:=h
theorem B8y {w:World}{v:Value}{l:List UInt8}(h:RdL 1 YAt w v l)(hl:l.length≤140737488355328):Calls Tryz.prog 113 #[v] w fun e w'=>e = .returned (.bool (Lib.validD l))∧w=w':=by
 obtain⟨ao,n,cap,rfl,Hn,dv⟩:=h.sH;have dx:n≤140737488355328:=by rw[Hn.out];exact hl
 obtain⟨R,HR⟩:=zM (Lib.validD l);rw[←HR.out];have HH:=zI h;clear h hl;go_enter Tryz.func113,Tryz.ntmps113;go_wp2_with fail
 go_loopg [3] n (fun gm s3 wr=>∃ i:Nat,i≤n∧n-i≤gm∧s3 = .int .i64 (i:Int)∧Hid (R=Lib.validD (l.drop i))∧w=wr)
 case atStart=>exact⟨0,by omega,by omega,rfl,HR,rfl⟩
 obtain⟨i,hi,hg,rfl,HI,rfl⟩:=hrel;by_cases hlt:i<n
 ·have dw:(i:Int)<(n:Int):=by omega
  obtain⟨c0,di⟩:=yE (l:=l) (k:=i) (by rw[←Hn.out];exact hlt);obtain⟨bb,off,rfl,y0⟩:=HH.out.get YAt.plain di.out;have dp:w.cell? ⟨bb,off+i,none⟩=some (.int .u8 (c0.toNat:Int)):=by simpa [YAt] using y0
  have cg:=c0.toNat_lt;obtain⟨B,HB⟩:∃ B:Nat→Nat,Hid (∀ j,B j=((l.drop i).getD j 0).toNat):=⟨_,fun _=>rfl⟩
  have dr:Hid (B 0=c0.toNat):=by
   show _=_;rw[HB.out,pG,jX,oX,di.out];rfl
  have dh:Hid ((l.drop i).length=n-i):=by show _=_;rw[vE,←Hn.out]
  have hne:l.drop i≠[]:=fun e=>by have h1:=dh.out;rw[e] at h1;simp at h1;omega
  have HST:Hid (R=if vQ (n-i) (B 0) (B 1) (B 2) (B 3)=0 then false else Lib.validD (l.drop (i+vQ (n-i) (B 0) (B 1) (B 2) (B 3)))):=by
   show _=_;have h1:=C6u (l.drop i) hne;rw[←HB.out,←HB.out,←HB.out,←HB.out,dh.out,nW] at h1;rw[HI.out,h1]
  have hcell:∀ j:Nat,i+j<n→w.cell? ⟨bb,off+(i+j),none⟩=some (.int .u8 (B j:Int)):=fun j hj=>by
   have hg:l[i+j]?=some (l[i+j]'(by rw[←Hn.out];exact hj)):=vG _;obtain⟨b',o',he,hy⟩:=HH.out.get YAt.plain hg;cases he
   have hy':w.cell? ⟨bb,off+(i+j),none⟩=some (.int .u8 ((l[i+j]'(by rw[←Hn.out];exact hj)).toNat:Int)):=by simpa [YAt] using hy
   rw[hy',HB.out,pG,jX,hg];rfl
  have ba:∀ j,B j<256:=fun j=>by rw[HB.out];exact UInt8.toNat_lt _
  clear y0 hne;obtain⟨L3,bk⟩:=yP (oI (B 0));have ac:=zI ba;have HC:Hid _:=hcell;have dg:w.cell? ⟨bb,off+i,none⟩=some (.int .u8 (B 0:Int)):=by rw[dr.out];exact dp
  have hb0:=ba 0;clear dp cg hcell ba;obtain⟨b0,cu⟩:=yP (B 0);rw[cu.out] at dg hb0;cases L3 with
  | none=>
   have HX:Hid (R=false):=by
    show _=_;rw[HST.out,C9d bk.out];rfl
   have aj:=bk.out;rw[cu.out] at aj;have hc:128≤b0∧¬ (194≤b0∧b0<224)∧¬ (224≤b0∧b0<240)∧¬ (240≤b0∧b0<245):=by
    unfold oI at aj
    repeat' split at aj
    all_goals first|(cases aj;done)|(refine⟨by omega,?_,?_,?_⟩ <;> assumption)
   obtain⟨q0,q1,q2,q3⟩:=hc;have d0:decide ((b0:Int)<128)=false:=by simp;omega
   clear aj;by_cases r1:b0<194
   ·have d1:decide (194≤(b0:Int))=false:=by simp;omega
    have d2:decide (224≤(b0:Int))=false:=by simp;omega
    have d3:decide (240≤(b0:Int))=false:=by simp;omega
    exact Qh7
   have d1:decide (194≤(b0:Int))=true:=by simp;omega
   have cw:decide ((b0:Int)<224)=false:=by simp;omega
   have d2:decide (224≤(b0:Int))=true:=by simp;omega
   have dl:decide ((b0:Int)<240)=false:=by simp;omega
   have d3:decide (240≤(b0:Int))=true:=by simp;omega
   have dt:decide ((b0:Int)<245)=false:=by simp;omega
   exact Qh7
  | some p=>
  obtain⟨more,least,v0⟩:=p;have dn:=TJ (n:=n-i) (b1:=B 1) (b2:=B 2) (b3:=B 3) bk.out;rw[cu.out] at dn;have au:more≤3:=by omega
  have hv0:v0<256:=by omega
  have bg:least≤65536:=by omega
  rcases dn with⟨g1,g2,g3,g4⟩|⟨g1,g2,g3,g4⟩|⟨g1,g2,g3,g4⟩|⟨g1,g2,g3,g4⟩
  ·have d0:decide ((b0:Int)<128)=true:=by simp;omega
   have gA:0≤b0:=by omega
   have gB:b0<128:=by omega
   have av:Hid (oI (B 0)=some (0,0,v0)):=by
    show _=_;rw[bk.out,g1,g2]
   have HG:Hid ((v0:Int)=(b0:Int)):=by show _=_;omega
   have bn:∀ q,q≤3→tC B v0 q<100000000:=fun q hq=>by
    exact kE
   clear g1 g2 g3 g4 bg au hv0;go_wp2_with fail
   go_loopg [7,8] 1 (fun gm s7 s8 wr=>∃ q:Nat,q+gm=2∧(1≤q∧q≤1)∧s8 = .int .i64 (q:Int)∧s7 = .int .i64 ((tC B v0 (q-1):Nat):Int)∧Hid (∀ t,1≤t→t<q→t<n-i∧B t / 64=2)∧w=wr)
   case atStart=>exact⟨1,by omega,⟨by omega,by omega⟩,rfl,by show Value.int .i64 _=Value.int .i64 (v0:Int);rw[HG.out],fun t h1 h2=>by omega,rfl⟩
   obtain⟨q,hq,⟨bh,df⟩,rfl,rfl,HT,rfl⟩:=hrel;have hV:=bn (q-1) (by omega);obtain⟨V,HV⟩:=yP (tC B v0 (q-1));rw[HV.out] at hV ⊢;by_cases hjm:q≤0
   ·exfalso;omega
   have f0:decide ((q:Int)≤0)=false:=by simp;omega
   obtain rfl:q=1:=by omega
   have bl:Hid (tC B v0 0=V):=HV.out;have hstep:=YI (n:=n-i) (b:=B) rfl rfl rfl (ac.out 0) (ac.out 1) (ac.out 2) (ac.out 3) av.out (fun t h1 h2=>HT.out t h1 (by omega));rw[bl.out] at hstep;have bc:i+(1+0)≤n:=by
    omega
   have ah:Hid (qY 0 V=(decide (V<0)||(decide (1114111<V)||(decide (55296≤V)&&decide (V<57344))))):=rfl;have aw:Hid (qY 0 V=false→R=Lib.validD (l.drop (i+(1+0)))):=fun hb=>by
    exact XQ
   have ag:Hid (qY 0 V=true→R=false):=fun hb=>by
    exact Qj2
   clear hstep;by_cases p1:V<0
   ·have u1:decide ((V:Int)<0)=true:=by simp;omega
    exact bZ
   have u1:decide ((V:Int)<0)=false:=by first|(simp;done)|(simp;omega)
   by_cases p2:1114111<V
   ·exact aB
   have u2:decide (1114111<(V:Int))=false:=by simp;omega
   by_cases p3:55296≤V
   ·have u3:decide (55296≤(V:Int))=true:=by simp;omega
    by_cases p4:V<57344
    ·exact aD
    have u4:decide ((V:Int)<57344)=false:=by simp;omega
    have HX:=zI (aw.out (by rw[ah.out,yC p1,yC p2,xU p3,yC p4];rfl));clear p1 p2 p3 p4;exact bX
   have u3:decide (55296≤(V:Int))=false:=by simp;omega
   have HX:=zI (aw.out (by rw[ah.out,yC p1,yC p2,yC p3];rfl));clear p1 p2 p3;exact bX
  ·have d0:decide ((b0:Int)<128)=false:=by simp;omega
   have d1:decide (194≤(b0:Int))=true:=by simp;omega
   have cw:decide ((b0:Int)<224)=true:=by simp;omega
   have gA:194≤b0:=by omega
   have gB:b0<224:=by omega
   have av:Hid (oI (B 0)=some (1,128,v0)):=by
    show _=_;rw[bk.out,g1,g2]
   have HG:Hid ((v0:Int)=(b0:Int)-192):=by show _=_;omega
   have bn:∀ q,q≤3→tC B v0 q<100000000:=fun q hq=>by
    exact kE
   clear g1 g2 g3 g4 bg au hv0;go_wp2_with fail
   go_loopg [7,8] 2 (fun gm s7 s8 wr=>∃ q:Nat,q+gm=3∧(1≤q∧q≤2)∧s8 = .int .i64 (q:Int)∧s7 = .int .i64 ((tC B v0 (q-1):Nat):Int)∧Hid (∀ t,1≤t→t<q→t<n-i∧B t / 64=2)∧w=wr)
   case atStart=>exact⟨1,by omega,⟨by omega,by omega⟩,rfl,by show Value.int .i64 _=Value.int .i64 (v0:Int);rw[HG.out],fun t h1 h2=>by omega,rfl⟩
   obtain⟨q,hq,⟨bh,df⟩,rfl,rfl,HT,rfl⟩:=hrel;have hV:=bn (q-1) (by omega);obtain⟨V,HV⟩:=yP (tC B v0 (q-1));rw[HV.out] at hV ⊢;by_cases hjm:q≤1
   ·have f0:decide ((q:Int)≤1)=true:=by simp;omega
    by_cases hlen:i+q<n
    ·have f1:decide ((n:Int)≤(i:Int)+(q:Int))=false:=by simp;omega
     have cj:=HC.out q hlen;have ak:=ac.out q;obtain⟨x,Hx⟩:=yP (B q);rw[Hx.out] at cj ak;have dm:(i:Int)+(q:Int)<(n:Int):=by omega
     by_cases hx:x / 64=2
     ·have f2:((x:Int) / 64 != 2)=false:=by simp;omega
      have HN:Hid (tC B v0 q=64*V+x%64):=by
       exact XS
      have bu:Hid (∀ t,1≤t→t<q+1→t<n-i∧B t / 64=2):=fun t h1 h2=>by
       exact bY
      clear hx;go_wp2_with fail
      go_roundg (3-(q+1))
      case measure=>omega
      case rel=>exact⟨q+1,by omega,⟨by omega,by omega⟩,by go_num,by rw[show q+1-1=q from rfl,HN.out];first|(congr 1;done)|(congr 1;omega),bu,rfl⟩
     exact aC
    exact XT
   have f0:decide ((q:Int)≤1)=false:=by simp;omega
   obtain rfl:q=2:=by omega
   have bl:Hid (tC B v0 1=V):=HV.out;have hstep:=YI (n:=n-i) (b:=B) rfl rfl rfl (ac.out 0) (ac.out 1) (ac.out 2) (ac.out 3) av.out (fun t h1 h2=>HT.out t h1 (by omega));rw[bl.out] at hstep;have bc:i+(1+1)≤n:=by
    have:=HT.out 1 (by omega) (by omega);omega
   have ah:Hid (qY 128 V=(decide (V<128)||(decide (1114111<V)||(decide (55296≤V)&&decide (V<57344))))):=rfl;have aw:Hid (qY 128 V=false→R=Lib.validD (l.drop (i+(1+1)))):=fun hb=>by
    exact XQ
   have ag:Hid (qY 128 V=true→R=false):=fun hb=>by
    exact Qj2
   clear hstep;by_cases p1:V<128
   ·have u1:decide ((V:Int)<128)=true:=by simp;omega
    exact bZ
   have u1:decide ((V:Int)<128)=false:=by first|(simp;done)|(simp;omega)
   by_cases p2:1114111<V
   ·exact aB
   have u2:decide (1114111<(V:Int))=false:=by simp;omega
   by_cases p3:55296≤V
   ·have u3:decide (55296≤(V:Int))=true:=by simp;omega
    by_cases p4:V<57344
    ·exact aD
    have u4:decide ((V:Int)<57344)=false:=by simp;omega
    have HX:=zI (aw.out (by rw[ah.out,yC p1,yC p2,xU p3,yC p4];rfl));clear p1 p2 p3 p4;exact bW
   have u3:decide (55296≤(V:Int))=false:=by simp;omega
   have HX:=zI (aw.out (by rw[ah.out,yC p1,yC p2,yC p3];rfl));clear p1 p2 p3;exact bW
  ·have d0:decide ((b0:Int)<128)=false:=by simp;omega
   have d1:decide (194≤(b0:Int))=true:=by simp;omega
   have cw:decide ((b0:Int)<224)=false:=by simp;omega
   have d2:decide (224≤(b0:Int))=true:=by simp;omega
   have dl:decide ((b0:Int)<240)=true:=by simp;omega
   have gA:224≤b0:=by omega
   have gB:b0<240:=by omega
   have av:Hid (oI (B 0)=some (2,2048,v0)):=by
    show _=_;rw[bk.out,g1,g2]
   have HG:Hid ((v0:Int)=(b0:Int)-224):=by show _=_;omega
   have bn:∀ q,q≤3→tC B v0 q<100000000:=fun q hq=>by
    exact kE
   clear g1 g2 g3 g4 bg au hv0;go_wp2_with fail
   go_loopg [7,8] 3 (fun gm s7 s8 wr=>∃ q:Nat,q+gm=4∧(1≤q∧q≤3)∧s8 = .int .i64 (q:Int)∧s7 = .int .i64 ((tC B v0 (q-1):Nat):Int)∧Hid (∀ t,1≤t→t<q→t<n-i∧B t / 64=2)∧w=wr)
   case atStart=>exact⟨1,by omega,⟨by omega,by omega⟩,rfl,by show Value.int .i64 _=Value.int .i64 (v0:Int);rw[HG.out],fun t h1 h2=>by omega,rfl⟩
   obtain⟨q,hq,⟨bh,df⟩,rfl,rfl,HT,rfl⟩:=hrel;have hV:=bn (q-1) (by omega);obtain⟨V,HV⟩:=yP (tC B v0 (q-1));rw[HV.out] at hV ⊢;by_cases hjm:q≤2
   ·have f0:decide ((q:Int)≤2)=true:=by simp;omega
    by_cases hlen:i+q<n
    ·have f1:decide ((n:Int)≤(i:Int)+(q:Int))=false:=by simp;omega
     have cj:=HC.out q hlen;have ak:=ac.out q;obtain⟨x,Hx⟩:=yP (B q);rw[Hx.out] at cj ak;have dm:(i:Int)+(q:Int)<(n:Int):=by omega
     by_cases hx:x / 64=2
     ·have f2:((x:Int) / 64 != 2)=false:=by simp;omega
      have HN:Hid (tC B v0 q=64*V+x%64):=by
       exact XS
      have bu:Hid (∀ t,1≤t→t<q+1→t<n-i∧B t / 64=2):=fun t h1 h2=>by
       exact bY
      clear hx;go_wp2_with fail
      go_roundg (4-(q+1))
      case measure=>omega
      case rel=>exact⟨q+1,by omega,⟨by omega,by omega⟩,by go_num,by rw[show q+1-1=q from rfl,HN.out];first|(congr 1;done)|(congr 1;omega),bu,rfl⟩
     exact aC
    exact XT
   have f0:decide ((q:Int)≤2)=false:=by simp;omega
   obtain rfl:q=3:=by omega
   have bl:Hid (tC B v0 2=V):=HV.out;have hstep:=YI (n:=n-i) (b:=B) rfl rfl rfl (ac.out 0) (ac.out 1) (ac.out 2) (ac.out 3) av.out (fun t h1 h2=>HT.out t h1 (by omega));rw[bl.out] at hstep;have bc:i+(1+2)≤n:=by
    have:=HT.out 2 (by omega) (by omega);omega
   have ah:Hid (qY 2048 V=(decide (V<2048)||(decide (1114111<V)||(decide (55296≤V)&&decide (V<57344))))):=rfl;have aw:Hid (qY 2048 V=false→R=Lib.validD (l.drop (i+(1+2)))):=fun hb=>by
    exact XQ
   have ag:Hid (qY 2048 V=true→R=false):=fun hb=>by
    exact Qj2
   clear hstep;by_cases p1:V<2048
   ·have u1:decide ((V:Int)<2048)=true:=by simp;omega
    exact bZ
   have u1:decide ((V:Int)<2048)=false:=by first|(simp;done)|(simp;omega)
   by_cases p2:1114111<V
   ·exact aB
   have u2:decide (1114111<(V:Int))=false:=by simp;omega
   by_cases p3:55296≤V
   ·have u3:decide (55296≤(V:Int))=true:=by simp;omega
    by_cases p4:V<57344
    ·exact aD
    have u4:decide ((V:Int)<57344)=false:=by simp;omega
    have HX:=zI (aw.out (by rw[ah.out,yC p1,yC p2,xU p3,yC p4];rfl));clear p1 p2 p3 p4;exact Qj0
   have u3:decide (55296≤(V:Int))=false:=by simp;omega
   have HX:=zI (aw.out (by rw[ah.out,yC p1,yC p2,yC p3];rfl));clear p1 p2 p3;exact Qj0
  have d0:decide ((b0:Int)<128)=false:=by simp;omega
  have d1:decide (194≤(b0:Int))=true:=by simp;omega
  have cw:decide ((b0:Int)<224)=false:=by simp;omega
  have d2:decide (224≤(b0:Int))=true:=by simp;omega
  have dl:decide ((b0:Int)<240)=false:=by simp;omega
  have d3:decide (240≤(b0:Int))=true:=by simp;omega
  have dt:decide ((b0:Int)<245)=true:=by simp;omega
  have gA:240≤b0:=by omega
  have gB:b0<245:=by omega
  have av:Hid (oI (B 0)=some (3,65536,v0)):=by
   show _=_;rw[bk.out,g1,g2]
  have HG:Hid ((v0:Int)=(b0:Int)-240):=by show _=_;omega
  have bn:∀ q,q≤3→tC B v0 q<100000000:=fun q hq=>by
   exact kE
  clear g1 g2 g3 g4 bg au hv0;go_wp2_with fail
  go_loopg [7,8] 4 (fun gm s7 s8 wr=>∃ q:Nat,q+gm=5∧(1≤q∧q≤4)∧s8 = .int .i64 (q:Int)∧s7 = .int .i64 ((tC B v0 (q-1):Nat):Int)∧Hid (∀ t,1≤t→t<q→t<n-i∧B t / 64=2)∧w=wr)
  case atStart=>exact⟨1,by omega,⟨by omega,by omega⟩,rfl,by show Value.int .i64 _=Value.int .i64 (v0:Int);rw[HG.out],fun t h1 h2=>by omega,rfl⟩
  obtain⟨q,hq,⟨bh,df⟩,rfl,rfl,HT,rfl⟩:=hrel;have hV:=bn (q-1) (by omega);obtain⟨V,HV⟩:=yP (tC B v0 (q-1));rw[HV.out] at hV ⊢;by_cases hjm:q≤3
  ·have f0:decide ((q:Int)≤3)=true:=by simp;omega
   by_cases hlen:i+q<n
   ·have f1:decide ((n:Int)≤(i:Int)+(q:Int))=false:=by simp;omega
    have cj:=HC.out q hlen;have ak:=ac.out q;obtain⟨x,Hx⟩:=yP (B q);rw[Hx.out] at cj ak;have dm:(i:Int)+(q:Int)<(n:Int):=by omega
    by_cases hx:x / 64=2
    ·have f2:((x:Int) / 64 != 2)=false:=by simp;omega
     have HN:Hid (tC B v0 q=64*V+x%64):=by
      exact XS
     have bu:Hid (∀ t,1≤t→t<q+1→t<n-i∧B t / 64=2):=fun t h1 h2=>by
      exact bY
     clear hx;go_wp2_with fail
     go_roundg (5-(q+1))
     case measure=>omega
     case rel=>exact⟨q+1,by omega,⟨by omega,by omega⟩,by go_num,by rw[show q+1-1=q from rfl,HN.out];first|(congr 1;done)|(congr 1;omega),bu,rfl⟩
    exact aC
   exact XT
  have f0:decide ((q:Int)≤3)=false:=by simp;omega
  obtain rfl:q=4:=by omega
  have bl:Hid (tC B v0 3=V):=HV.out;have hstep:=YI (n:=n-i) (b:=B) rfl rfl rfl (ac.out 0) (ac.out 1) (ac.out 2) (ac.out 3) av.out (fun t h1 h2=>HT.out t h1 (by omega));rw[bl.out] at hstep;have bc:i+(1+3)≤n:=by
   have:=HT.out 3 (by omega) (by omega);omega
  have ah:Hid (qY 65536 V=(decide (V<65536)||(decide (1114111<V)||(decide (55296≤V)&&decide (V<57344))))):=rfl;have aw:Hid (qY 65536 V=false→R=Lib.validD (l.drop (i+(1+3)))):=fun hb=>by
   exact XQ
  have ag:Hid (qY 65536 V=true→R=false):=fun hb=>by
   exact Qj2
  clear hstep;by_cases p1:V<65536
  ·have u1:decide ((V:Int)<65536)=true:=by simp;omega
   exact bZ
  have u1:decide ((V:Int)<65536)=false:=by first|(simp;done)|(simp;omega)
  by_cases p2:1114111<V
  ·exact aB
  have u2:decide (1114111<(V:Int))=false:=by simp;omega
  by_cases p3:55296≤V
  ·have u3:decide (55296≤(V:Int))=true:=by simp;omega
   by_cases p4:V<57344
   ·exact aD
   have u4:decide ((V:Int)<57344)=false:=by simp;omega
   have HX:=zI (aw.out (by rw[ah.out,yC p1,yC p2,xU p3,yC p4];rfl));clear p1 p2 p3 p4;exact Qj1
  have u3:decide (55296≤(V:Int))=false:=by simp;omega
  have HX:=zI (aw.out (by rw[ah.out,yC p1,yC p2,yC p3];rfl));clear p1 p2 p3;exact Qj1
 have HX:Hid (R=true):=by
  show _=_;rw[HI.out,sF (by rw[←Hn.out];omega)];rfl
 have dw:¬ (i:Int)<(n:Int):=by omega
 exact Qh7
end L
end Go.Proofs.YthcomdofaaeihaaGreatDoor
