import Derived.Test.YtgaoojpakjjdnaaGreatDoorV35
import Derived.Deep.LoopGhost
import Derived.Deep.CutRange
import Derived.Deep.DeepCutAuto
import Derived.Test.YtgaoojpakjjdnaaGreatDoorV17
import Derived.Laws.StructEq
import Derived.Deep.QuietTactic
import Derived.BigQuiet
set_option maxHeartbeats 32000000
set_option maxRecDepth 100000
namespace Go.Proofs.YtgaoojpakjjdnaaGreatDoor
namespace L
open Go.RowKit
set_option linter.unusedVariables false
def A9u (c:Nat):Option (Nat×Nat×Nat):=
 if c < 128 then some (0,0,c) else if 194≤c∧c < 224 then some (1,128,c - 192) else if 224≤c∧c < 240 then some (2,2048,c - 224) else if 240≤c∧c < 245 then some (3,65536,c - 240) else none
def A6z (b:Nat→Nat) (n:Nat):Nat→Nat
 | 0=>n
 | j+1=>64*A6z b n j+b (j+1)%64
def B5j (least v:Nat):Bool:=decide (v < least)||(decide (1114111 < v)||(decide (55296≤v)&&decide (v < 57344)))
theorem C5p {n b0 b1 b2 b3:Nat}(h:A9u b0=none):A2v n b0 b1 b2 b3=0:=by
 unfold A9u at h
 unfold A2v
 repeat' split at h
 all_goals first|(cases h;done)|skip
 rename_i c0 c1 c2 c3
 rw[if_neg c0,if_neg c1,if_neg c2,if_neg c3]
theorem B1f {n b0 b1 b2 b3 m least v:Nat}(h:A9u b0=some (m,least,v)):(m=0∧least=0∧v=b0∧b0 < 128)∨(m=1∧least=128∧v=b0 - 192∧194≤b0∧b0 < 224)∨(m=2∧least=2048∧v=b0 - 224∧224≤b0∧b0 < 240)∨(m=3∧least=65536∧v=b0 - 240∧240≤b0∧b0 < 245):=by
 unfold A9u at h
 repeat' split at h
 all_goals first|(cases h;done)|(simp only[Option.some.injEq,Prod.mk.injEq] at h;omega)
theorem A3y {n b0 b1 b2 b3 m least v:Nat}{b:Nat→Nat}(e1:b 1=b1) (e2:b 2=b2) (e3:b 3=b3) (h:A9u b0=some (m,least,v)){j:Nat}(h1:1≤j) (h2:j≤m) (hb:¬ (j < n∧b j / 64=2)):A2v n b0 b1 b2 b3=0:=by
 have hl:=B1f (n:=n) (b1:=b1) (b2:=b2) (b3:=b3) h
 have hj:j=1∨j=2∨j=3:=by omega
 unfold A2v
 rcases hl with⟨rfl,_,_,c⟩|⟨rfl,_,_,c⟩|⟨rfl,_,_,c⟩|⟨rfl,_,_,c⟩
 ·omega
 ·obtain rfl:j=1:=by omega
  rw[e1] at hb
  rw[if_neg (by omega),if_pos c,if_neg hb]
 ·rw[if_neg (by omega),if_neg (by omega),if_pos c,if_neg]
  rintro⟨q1,q2,_⟩
  rcases hj with rfl|rfl|rfl
  ·rw[e1] at hb;exact hb q1
  ·rw[e2] at hb;exact hb q2
  ·omega
 ·rw[if_neg (by omega),if_neg (by omega),if_neg (by omega),if_pos c,if_neg]
  rintro⟨q1,q2,q3,_⟩
  rcases hj with rfl|rfl|rfl
  ·rw[e1] at hb;exact hb q1
  ·rw[e2] at hb;exact hb q2
  ·rw[e3] at hb;exact hb q3
theorem A8p {n b0 b1 b2 b3 m least v:Nat}{b:Nat→Nat}(e1:b 1=b1) (e2:b 2=b2) (e3:b 3=b3) (h0:b0 < 256) (h1:b1 < 256) (h2:b2 < 256) (h3:b3 < 256) (h:A9u b0=some (m,least,v)) (hb:∀ j,1≤j→j≤m→j < n∧b j / 64=2):A2v n b0 b1 b2 b3=if B5j least (A6z b v m) then 0 else 1+m:=by
 have hl:=B1f (n:=n) (b1:=b1) (b2:=b2) (b3:=b3) h
 unfold A2v
 rcases hl with⟨rfl,rfl,rfl,c⟩|⟨rfl,rfl,rfl,c⟩|⟨rfl,rfl,rfl,c⟩|⟨rfl,rfl,rfl,c⟩
 ·rw[if_pos c]
  have:B5j 0 (A6z b v 0)=false:=by
   show(decide (v < 0)||(decide (1114111 < v)||(decide (55296≤v)&&decide (v < 57344))))=false
   rw[decide_eq_false (by omega:¬ v < 0),decide_eq_false (by omega:¬ 1114111 < v),decide_eq_false (by omega:¬ 55296≤v)]
   rfl
  rw[this]
  rfl
 ·have q1:=hb 1 (by omega) (by omega)
  rw[e1] at q1
  rw[if_neg (by omega),if_pos c,if_pos q1]
  have:B5j 128 (A6z b (b0 - 192) 1)=false:=by unfold B5j A6z A6z;rw[e1];simp;omega
  rw[this]
  rfl
 ·have q1:=hb 1 (by omega) (by omega)
  have q2:=hb 2 (by omega) (by omega)
  rw[e1] at q1
  rw[e2] at q2
  rw[if_neg (by omega),if_neg (by omega),if_pos c]
  have hv:A6z b (b0 - 224) 2=64*(64*(b0 - 224)+b1%64)+b2%64:=by simp only[A6z,e1,e2]
  rw[hv]
  unfold B5j
  by_cases q:2048≤64*(64*(b0 - 224)+b1%64)+b2%64∧¬ (55296≤64*(64*(b0 - 224)+b1%64)+b2%64∧64*(64*(b0 - 224)+b1%64)+b2%64 < 57344)
  ·rw[if_pos ⟨q1,q2,q⟩,if_neg]
   simp only[Bool.or_eq_true,decide_eq_true_eq,Bool.and_eq_true]
   omega
  ·rw[if_neg (fun h=>q h.2.2),if_pos]
   simp only[Bool.or_eq_true,decide_eq_true_eq,Bool.and_eq_true]
   omega
 ·have q1:=hb 1 (by omega) (by omega)
  have q2:=hb 2 (by omega) (by omega)
  have q3:=hb 3 (by omega) (by omega)
  rw[e1] at q1
  rw[e2] at q2
  rw[e3] at q3
  rw[if_neg (by omega),if_neg (by omega),if_neg (by omega),if_pos c]
  have hv:A6z b (b0 - 240) 3=64*(64*(64*(b0 - 240)+b1%64)+b2%64)+b3%64:=by simp only[A6z,e1,e2,e3]
  rw[hv]
  unfold B5j
  by_cases q:65536≤64*(64*(64*(b0 - 240)+b1%64)+b2%64)+b3%64∧64*(64*(64*(b0 - 240)+b1%64)+b2%64)+b3%64≤1114111
  ·rw[if_pos ⟨q1,q2,q3,q⟩,if_neg]
   simp only[Bool.or_eq_true,decide_eq_true_eq,Bool.and_eq_true]
   omega
  ·rw[if_neg (fun h=>q h.2.2.2),if_pos]
   simp only[Bool.or_eq_true,decide_eq_true_eq,Bool.and_eq_true]
   omega
theorem C7b {w:World}{v:Value}{l:List UInt8}(h:RdL 1 YAt w v l) (hl:l.length≤140737488355328):Calls Tryz.prog 16 #[v] w fun e w'=>e = .returned (.bool (Lib.validD l))∧w=w':=by
 obtain⟨ao,n,cap,rfl,Hn,dl⟩:=h.shape
 have dn:n≤140737488355328:=by rw[Hn.out];exact hl
 obtain⟨R,HR⟩:∃ R,Hid (R=Lib.validD l):=⟨_,rfl⟩
 rw[←HR.out]
 have HH:Hid (RdL 1 YAt w (.slice ao n cap) l):=h
 clear h hl
 go_enter Tryz.func16,Tryz.ntmps16
 go_wp2_with fail
 go_loopg [3] n (fun gm s3 wr=>∃ i:Nat,i≤n∧n - i≤gm∧s3 = .int .i64 (i:Int)∧Hid (R=Lib.validD (l.drop i))∧w=wr)
 case atStart=>exact⟨0,by omega,by omega,rfl,HR,rfl⟩
 case round=>
  obtain⟨i,hi,hg,rfl,HI,rfl⟩:=hrel
  by_cases hlt:i < n
  ·have dm:(i:Int) < (n:Int):=by omega
   obtain⟨c0,cj⟩:∃ c0,Hid (l[i]?=some c0):=⟨l[i]'(by rw[←Hn.out];exact hlt),List.getElem?_eq_getElem _⟩
   obtain⟨bb,off,rfl,y0⟩:=HH.out.get YAt.plain cj.out
   have dg:w.cell? ⟨bb,off+i,none⟩=some (.int .u8 (c0.toNat:Int)):=by simpa [YAt] using y0
   have bq:=c0.toNat_lt
   obtain⟨B,HB⟩:∃ B:Nat→Nat,Hid (∀ j,B j=((l.drop i).getD j 0).toNat):=⟨_,fun _=>rfl⟩
   have dh:Hid (B 0=c0.toNat):=by
    show _=_
    rw[HB.out,List.getD_eq_getElem?_getD,List.getElem?_drop,Nat.add_zero,cj.out]
    rfl
   have cg:Hid ((l.drop i).length=n - i):=by show _=_;rw[List.length_drop,←Hn.out]
   have hne:l.drop i≠[]:=fun e=>by have h1:=cg.out;rw[e] at h1;simp at h1;omega
   have HST:Hid (R=if A2v (n - i) (B 0) (B 1) (B 2) (B 3)=0 then false else Lib.validD (l.drop (i+A2v (n - i) (B 0) (B 1) (B 2) (B 3)))):=by
    show _=_
    have h1:=C3o (l.drop i) hne
    rw[←HB.out,←HB.out,←HB.out,←HB.out,cg.out,List.drop_drop] at h1
    rw[HI.out,h1]
   have hcell:∀ j:Nat,i+j < n→w.cell? ⟨bb,off+(i+j),none⟩=some (.int .u8 (B j:Int)):=fun j hj=>by
    have hg:l[i+j]?=some (l[i+j]'(by rw[←Hn.out];exact hj)):=List.getElem?_eq_getElem _
    obtain⟨b',o',he,hy⟩:=HH.out.get YAt.plain hg
    cases he
    have hy':w.cell? ⟨bb,off+(i+j),none⟩=some (.int .u8 ((l[i+j]'(by rw[←Hn.out];exact hj)).toNat:Int)):=by simpa [YAt] using hy
    rw[hy',HB.out,List.getD_eq_getElem?_getD,List.getElem?_drop,hg]
    rfl
   have ba:∀ j,B j < 256:=fun j=>by rw[HB.out];exact UInt8.toNat_lt _
   clear y0 hne
   obtain⟨L3,bk⟩:∃ L3,Hid (A9u (B 0)=L3):=⟨_,rfl⟩
   have ac:Hid (∀ j,B j < 256):=ba
   have HC:Hid _:=hcell
   have bw:w.cell? ⟨bb,off+i,none⟩=some (.int .u8 (B 0:Int)):=by rw[dh.out];exact dg
   have hb0:=ba 0
   clear dg bq hcell ba
   obtain⟨b0,bt⟩:∃ b0,Hid (B 0=b0):=⟨_,rfl⟩
   rw[bt.out] at bw hb0
   cases L3 with
   | none=>
    have HX:Hid (R=false):=by
     show _=_
     rw[HST.out,C5p bk.out]
     rfl
    have aj:=bk.out
    rw[bt.out] at aj
    have hc:128≤b0∧¬ (194≤b0∧b0 < 224)∧¬ (224≤b0∧b0 < 240)∧¬ (240≤b0∧b0 < 245):=by
     unfold A9u at aj
     repeat' split at aj
     all_goals first|(cases aj;done)|(refine⟨by omega,?_,?_,?_⟩ <;> assumption)
    obtain⟨q0,q1,q2,q3⟩:=hc
    have d0:decide ((b0:Int) < 128)=false:=by simp;omega
    clear aj
    by_cases r1:b0 < 194
    ·have d1:decide (194≤(b0:Int))=false:=by simp;omega
     have d2:decide (224≤(b0:Int))=false:=by simp;omega
     have d3:decide (240≤(b0:Int))=false:=by simp;omega
     go_wp2
     go_ret
     exact⟨by rw[HX.out];rfl,rfl⟩
    ·have d1:decide (194≤(b0:Int))=true:=by simp;omega
     have bu:decide ((b0:Int) < 224)=false:=by simp;omega
     have d2:decide (224≤(b0:Int))=true:=by simp;omega
     have cu:decide ((b0:Int) < 240)=false:=by simp;omega
     have d3:decide (240≤(b0:Int))=true:=by simp;omega
     have di:decide ((b0:Int) < 245)=false:=by simp;omega
     go_wp2
     go_ret
     exact⟨by rw[HX.out];rfl,rfl⟩
   | some p=>
    obtain⟨more,least,v0⟩:=p
    have df:=B1f (n:=n - i) (b1:=B 1) (b2:=B 2) (b3:=B 3) bk.out
    rw[bt.out] at df
    have au:more≤3:=by omega
    have hv0:v0 < 256:=by omega
    have bg:least≤65536:=by omega
    rcases df with⟨g1,g2,g3,g4⟩|⟨g1,g2,g3,g4⟩|⟨g1,g2,g3,g4⟩|⟨g1,g2,g3,g4⟩
    ·have d0:decide ((b0:Int) < 128)=true:=by simp;omega
     have gA:0≤b0:=by omega
     have gB:b0 < 128:=by omega
     have aw:Hid (A9u (B 0)=some (0,0,v0)):=by
      show _=_
      rw[bk.out,g1,g2]
     have HG:Hid ((v0:Int)=(b0:Int)):=by show _=_;omega
     have bn:∀ q,q≤3→A6z B v0 q < 100000000:=fun q hq=>by
      have e1:=ac.out 1
      have e2:=ac.out 2
      have e3:=ac.out 3
      have:q=0∨q=1∨q=2∨q=3:=by omega
      rcases this with rfl|rfl|rfl|rfl <;> simp only[A6z] <;> omega
     clear g1 g2 g3 g4 bg au hv0
     go_wp2_with fail
     go_loopg [7,8] 1 (fun gm s7 s8 wr=>∃ q:Nat,q+gm=2∧(1≤q∧q≤1)∧s8 = .int .i64 (q:Int)∧s7 = .int .i64 ((A6z B v0 (q - 1):Nat):Int)∧Hid (∀ t,1≤t→t < q→t < n - i∧B t / 64=2)∧w=wr)
     case atStart=>exact⟨1,by omega,⟨by omega,by omega⟩,rfl,by show Value.int .i64 _=Value.int .i64 (v0:Int);rw[HG.out],fun t h1 h2=>by omega,rfl⟩
     case round=>
      obtain⟨q,hq,⟨bh,bv⟩,rfl,rfl,HT,rfl⟩:=hrel
      have hV:=bn (q - 1) (by omega)
      obtain⟨V,HV⟩:∃ V,Hid (A6z B v0 (q - 1)=V):=⟨_,rfl⟩
      rw[HV.out] at hV ⊢
      by_cases hjm:q≤0
      ·exfalso;omega
      ·have f0:decide ((q:Int)≤0)=false:=by simp;omega
       obtain rfl:q=1:=by omega
       have bl:Hid (A6z B v0 0=V):=HV.out
       have hstep:=A8p (n:=n - i) (b:=B) rfl rfl rfl (ac.out 0) (ac.out 1) (ac.out 2) (ac.out 3) aw.out (fun t h1 h2=>HT.out t h1 (by omega))
       rw[bl.out] at hstep
       have bc:i+(1+0)≤n:=by
        omega
       have ah:Hid (B5j 0 V=(decide (V < 0)||(decide (1114111 < V)||(decide (55296≤V)&&decide (V < 57344))))):=rfl
       have a8:Hid (B5j 0 V=false→R=Lib.validD (l.drop (i+(1+0)))):=fun hb=>by
        rw[hb] at hstep
        rw[HST.out,hstep,if_neg (by simp)]
        rfl
       have ag:Hid (B5j 0 V=true→R=false):=fun hb=>by
        rw[hb] at hstep
        rw[HST.out,hstep]
        rfl
       clear hstep
       by_cases p1:V < 0
       ·have u1:decide ((V:Int) < 0)=true:=by simp;omega
        have HX:Hid (R=false):=ag.out (by rw[ah.out,decide_eq_true p1];rfl)
        clear p1
        go_wp2
        go_ret
        exact⟨by rw[HX.out];rfl,rfl⟩
       have u1:decide ((V:Int) < 0)=false:=by first|(simp;done)|(simp;omega)
       by_cases p2:1114111 < V
       ·have u2:decide (1114111 < (V:Int))=true:=by simp;omega
        have HX:Hid (R=false):=ag.out (by rw[ah.out,decide_eq_true p2];simp)
        clear p1 p2
        go_wp2
        go_ret
        exact⟨by rw[HX.out];rfl,rfl⟩
       have u2:decide (1114111 < (V:Int))=false:=by simp;omega
       by_cases p3:55296≤V
       ·have u3:decide (55296≤(V:Int))=true:=by simp;omega
        by_cases p4:V < 57344
        ·have u4:decide ((V:Int) < 57344)=true:=by simp;omega
         have HX:Hid (R=false):=ag.out (by rw[ah.out,decide_eq_true p3,decide_eq_true p4];simp)
         clear p1 p2 p3 p4
         go_wp2
         go_ret
         exact⟨by rw[HX.out];rfl,rfl⟩
        ·have u4:decide ((V:Int) < 57344)=false:=by simp;omega
         have HX:Hid (R=Lib.validD (l.drop (i+(1+0)))):=a8.out (by rw[ah.out,decide_eq_false p1,decide_eq_false p2,decide_eq_true p3,decide_eq_false p4];rfl)
         clear p1 p2 p3 p4
         go_wp2_with fail
         go_roundg (n - (i+(1+0)))
         case measure=>omega
         case rel=>exact⟨i+(1+0),bc,by omega,by first|(congr 1;done)|(congr 1;omega),HX,rfl⟩
       ·have u3:decide (55296≤(V:Int))=false:=by simp;omega
        have HX:Hid (R=Lib.validD (l.drop (i+(1+0)))):=a8.out (by rw[ah.out,decide_eq_false p1,decide_eq_false p2,decide_eq_false p3];rfl)
        clear p1 p2 p3
        go_wp2_with fail
        go_roundg (n - (i+(1+0)))
        case measure=>omega
        case rel=>exact⟨i+(1+0),bc,by omega,by first|(congr 1;done)|(congr 1;omega),HX,rfl⟩
    ·have d0:decide ((b0:Int) < 128)=false:=by simp;omega
     have d1:decide (194≤(b0:Int))=true:=by simp;omega
     have bu:decide ((b0:Int) < 224)=true:=by simp;omega
     have gA:194≤b0:=by omega
     have gB:b0 < 224:=by omega
     have aw:Hid (A9u (B 0)=some (1,128,v0)):=by
      show _=_
      rw[bk.out,g1,g2]
     have HG:Hid ((v0:Int)=(b0:Int) - 192):=by show _=_;omega
     have bn:∀ q,q≤3→A6z B v0 q < 100000000:=fun q hq=>by
      have e1:=ac.out 1
      have e2:=ac.out 2
      have e3:=ac.out 3
      have:q=0∨q=1∨q=2∨q=3:=by omega
      rcases this with rfl|rfl|rfl|rfl <;> simp only[A6z] <;> omega
     clear g1 g2 g3 g4 bg au hv0
     go_wp2_with fail
     go_loopg [7,8] 2 (fun gm s7 s8 wr=>∃ q:Nat,q+gm=3∧(1≤q∧q≤2)∧s8 = .int .i64 (q:Int)∧s7 = .int .i64 ((A6z B v0 (q - 1):Nat):Int)∧Hid (∀ t,1≤t→t < q→t < n - i∧B t / 64=2)∧w=wr)
     case atStart=>exact⟨1,by omega,⟨by omega,by omega⟩,rfl,by show Value.int .i64 _=Value.int .i64 (v0:Int);rw[HG.out],fun t h1 h2=>by omega,rfl⟩
     case round=>
      obtain⟨q,hq,⟨bh,bv⟩,rfl,rfl,HT,rfl⟩:=hrel
      have hV:=bn (q - 1) (by omega)
      obtain⟨V,HV⟩:∃ V,Hid (A6z B v0 (q - 1)=V):=⟨_,rfl⟩
      rw[HV.out] at hV ⊢
      by_cases hjm:q≤1
      ·have f0:decide ((q:Int)≤1)=true:=by simp;omega
       by_cases hlen:i+q < n
       ·have f1:decide ((n:Int)≤(i:Int)+(q:Int))=false:=by simp;omega
        have br:=HC.out q hlen
        have ak:=ac.out q
        obtain⟨x,Hx⟩:∃ x,Hid (B q=x):=⟨_,rfl⟩
        rw[Hx.out] at br ak
        have cw:(i:Int)+(q:Int) < (n:Int):=by omega
        by_cases hx:x / 64=2
        ·have f2:((x:Int) / 64 != 2)=false:=by simp;omega
         have HN:Hid (A6z B v0 q=64*V+x%64):=by
          show _=_
          obtain⟨q',rfl⟩:∃ q',q=q'+1:=⟨q - 1,by omega⟩
          rw[←HV.out,←Hx.out]
          rfl
         have bp:Hid (∀ t,1≤t→t < q+1→t < n - i∧B t / 64=2):=fun t h1 h2=>by
          by_cases ht:t=q
          ·rw[ht,Hx.out];exact⟨by omega,hx⟩
          ·exact HT.out t h1 (by omega)
         clear hx
         go_wp2_with fail
         go_roundg (3 - (q+1))
         case measure=>omega
         case rel=>exact⟨q+1,by omega,⟨by omega,by omega⟩,by go_num,by rw[show q+1 - 1=q from rfl,HN.out];first|(congr 1;done)|(congr 1;omega),bp,rfl⟩
        ·have f2:((x:Int) / 64 != 2)=true:=by simp;omega
         have HX:Hid (R=false):=by
          show _=_
          rw[HST.out,A3y (b:=B) rfl rfl rfl aw.out bh hjm (fun h=>hx (by rw[←Hx.out];exact h.2))]
          rfl
         clear hx
         go_wp2
         go_ret
         exact⟨by rw[HX.out];rfl,rfl⟩
       ·have f1:decide ((n:Int)≤(i:Int)+(q:Int))=true:=by simp;omega
        have HX:Hid (R=false):=by
         show _=_
         rw[HST.out,A3y (b:=B) rfl rfl rfl aw.out bh hjm (fun h=>by omega)]
         rfl
        go_wp2
        go_ret
        exact⟨by rw[HX.out];rfl,rfl⟩
      ·have f0:decide ((q:Int)≤1)=false:=by simp;omega
       obtain rfl:q=2:=by omega
       have bl:Hid (A6z B v0 1=V):=HV.out
       have hstep:=A8p (n:=n - i) (b:=B) rfl rfl rfl (ac.out 0) (ac.out 1) (ac.out 2) (ac.out 3) aw.out (fun t h1 h2=>HT.out t h1 (by omega))
       rw[bl.out] at hstep
       have bc:i+(1+1)≤n:=by
        have:=HT.out 1 (by omega) (by omega)
        omega
       have ah:Hid (B5j 128 V=(decide (V < 128)||(decide (1114111 < V)||(decide (55296≤V)&&decide (V < 57344))))):=rfl
       have a8:Hid (B5j 128 V=false→R=Lib.validD (l.drop (i+(1+1)))):=fun hb=>by
        rw[hb] at hstep
        rw[HST.out,hstep,if_neg (by simp)]
        rfl
       have ag:Hid (B5j 128 V=true→R=false):=fun hb=>by
        rw[hb] at hstep
        rw[HST.out,hstep]
        rfl
       clear hstep
       by_cases p1:V < 128
       ·have u1:decide ((V:Int) < 128)=true:=by simp;omega
        have HX:Hid (R=false):=ag.out (by rw[ah.out,decide_eq_true p1];rfl)
        clear p1
        go_wp2
        go_ret
        exact⟨by rw[HX.out];rfl,rfl⟩
       have u1:decide ((V:Int) < 128)=false:=by first|(simp;done)|(simp;omega)
       by_cases p2:1114111 < V
       ·have u2:decide (1114111 < (V:Int))=true:=by simp;omega
        have HX:Hid (R=false):=ag.out (by rw[ah.out,decide_eq_true p2];simp)
        clear p1 p2
        go_wp2
        go_ret
        exact⟨by rw[HX.out];rfl,rfl⟩
       have u2:decide (1114111 < (V:Int))=false:=by simp;omega
       by_cases p3:55296≤V
       ·have u3:decide (55296≤(V:Int))=true:=by simp;omega
        by_cases p4:V < 57344
        ·have u4:decide ((V:Int) < 57344)=true:=by simp;omega
         have HX:Hid (R=false):=ag.out (by rw[ah.out,decide_eq_true p3,decide_eq_true p4];simp)
         clear p1 p2 p3 p4
         go_wp2
         go_ret
         exact⟨by rw[HX.out];rfl,rfl⟩
        ·have u4:decide ((V:Int) < 57344)=false:=by simp;omega
         have HX:Hid (R=Lib.validD (l.drop (i+(1+1)))):=a8.out (by rw[ah.out,decide_eq_false p1,decide_eq_false p2,decide_eq_true p3,decide_eq_false p4];rfl)
         clear p1 p2 p3 p4
         go_wp2_with fail
         go_roundg (n - (i+(1+1)))
         case measure=>omega
         case rel=>exact⟨i+(1+1),bc,by omega,by first|(congr 1;done)|(congr 1;omega),HX,rfl⟩
       ·have u3:decide (55296≤(V:Int))=false:=by simp;omega
        have HX:Hid (R=Lib.validD (l.drop (i+(1+1)))):=a8.out (by rw[ah.out,decide_eq_false p1,decide_eq_false p2,decide_eq_false p3];rfl)
        clear p1 p2 p3
        go_wp2_with fail
        go_roundg (n - (i+(1+1)))
        case measure=>omega
        case rel=>exact⟨i+(1+1),bc,by omega,by first|(congr 1;done)|(congr 1;omega),HX,rfl⟩
    ·have d0:decide ((b0:Int) < 128)=false:=by simp;omega
     have d1:decide (194≤(b0:Int))=true:=by simp;omega
     have bu:decide ((b0:Int) < 224)=false:=by simp;omega
     have d2:decide (224≤(b0:Int))=true:=by simp;omega
     have cu:decide ((b0:Int) < 240)=true:=by simp;omega
     have gA:224≤b0:=by omega
     have gB:b0 < 240:=by omega
     have aw:Hid (A9u (B 0)=some (2,2048,v0)):=by
      show _=_
      rw[bk.out,g1,g2]
     have HG:Hid ((v0:Int)=(b0:Int) - 224):=by show _=_;omega
     have bn:∀ q,q≤3→A6z B v0 q < 100000000:=fun q hq=>by
      have e1:=ac.out 1
      have e2:=ac.out 2
      have e3:=ac.out 3
      have:q=0∨q=1∨q=2∨q=3:=by omega
      rcases this with rfl|rfl|rfl|rfl <;> simp only[A6z] <;> omega
     clear g1 g2 g3 g4 bg au hv0
     go_wp2_with fail
     go_loopg [7,8] 3 (fun gm s7 s8 wr=>∃ q:Nat,q+gm=4∧(1≤q∧q≤3)∧s8 = .int .i64 (q:Int)∧s7 = .int .i64 ((A6z B v0 (q - 1):Nat):Int)∧Hid (∀ t,1≤t→t < q→t < n - i∧B t / 64=2)∧w=wr)
     case atStart=>exact⟨1,by omega,⟨by omega,by omega⟩,rfl,by show Value.int .i64 _=Value.int .i64 (v0:Int);rw[HG.out],fun t h1 h2=>by omega,rfl⟩
     case round=>
      obtain⟨q,hq,⟨bh,bv⟩,rfl,rfl,HT,rfl⟩:=hrel
      have hV:=bn (q - 1) (by omega)
      obtain⟨V,HV⟩:∃ V,Hid (A6z B v0 (q - 1)=V):=⟨_,rfl⟩
      rw[HV.out] at hV ⊢
      by_cases hjm:q≤2
      ·have f0:decide ((q:Int)≤2)=true:=by simp;omega
       by_cases hlen:i+q < n
       ·have f1:decide ((n:Int)≤(i:Int)+(q:Int))=false:=by simp;omega
        have br:=HC.out q hlen
        have ak:=ac.out q
        obtain⟨x,Hx⟩:∃ x,Hid (B q=x):=⟨_,rfl⟩
        rw[Hx.out] at br ak
        have cw:(i:Int)+(q:Int) < (n:Int):=by omega
        by_cases hx:x / 64=2
        ·have f2:((x:Int) / 64 != 2)=false:=by simp;omega
         have HN:Hid (A6z B v0 q=64*V+x%64):=by
          show _=_
          obtain⟨q',rfl⟩:∃ q',q=q'+1:=⟨q - 1,by omega⟩
          rw[←HV.out,←Hx.out]
          rfl
         have bp:Hid (∀ t,1≤t→t < q+1→t < n - i∧B t / 64=2):=fun t h1 h2=>by
          by_cases ht:t=q
          ·rw[ht,Hx.out];exact⟨by omega,hx⟩
          ·exact HT.out t h1 (by omega)
         clear hx
         go_wp2_with fail
         go_roundg (4 - (q+1))
         case measure=>omega
         case rel=>exact⟨q+1,by omega,⟨by omega,by omega⟩,by go_num,by rw[show q+1 - 1=q from rfl,HN.out];first|(congr 1;done)|(congr 1;omega),bp,rfl⟩
        ·have f2:((x:Int) / 64 != 2)=true:=by simp;omega
         have HX:Hid (R=false):=by
          show _=_
          rw[HST.out,A3y (b:=B) rfl rfl rfl aw.out bh hjm (fun h=>hx (by rw[←Hx.out];exact h.2))]
          rfl
         clear hx
         go_wp2
         go_ret
         exact⟨by rw[HX.out];rfl,rfl⟩
       ·have f1:decide ((n:Int)≤(i:Int)+(q:Int))=true:=by simp;omega
        have HX:Hid (R=false):=by
         show _=_
         rw[HST.out,A3y (b:=B) rfl rfl rfl aw.out bh hjm (fun h=>by omega)]
         rfl
        go_wp2
        go_ret
        exact⟨by rw[HX.out];rfl,rfl⟩
      ·have f0:decide ((q:Int)≤2)=false:=by simp;omega
       obtain rfl:q=3:=by omega
       have bl:Hid (A6z B v0 2=V):=HV.out
       have hstep:=A8p (n:=n - i) (b:=B) rfl rfl rfl (ac.out 0) (ac.out 1) (ac.out 2) (ac.out 3) aw.out (fun t h1 h2=>HT.out t h1 (by omega))
       rw[bl.out] at hstep
       have bc:i+(1+2)≤n:=by
        have:=HT.out 2 (by omega) (by omega)
        omega
       have ah:Hid (B5j 2048 V=(decide (V < 2048)||(decide (1114111 < V)||(decide (55296≤V)&&decide (V < 57344))))):=rfl
       have a8:Hid (B5j 2048 V=false→R=Lib.validD (l.drop (i+(1+2)))):=fun hb=>by
        rw[hb] at hstep
        rw[HST.out,hstep,if_neg (by simp)]
        rfl
       have ag:Hid (B5j 2048 V=true→R=false):=fun hb=>by
        rw[hb] at hstep
        rw[HST.out,hstep]
        rfl
       clear hstep
       by_cases p1:V < 2048
       ·have u1:decide ((V:Int) < 2048)=true:=by simp;omega
        have HX:Hid (R=false):=ag.out (by rw[ah.out,decide_eq_true p1];rfl)
        clear p1
        go_wp2
        go_ret
        exact⟨by rw[HX.out];rfl,rfl⟩
       have u1:decide ((V:Int) < 2048)=false:=by first|(simp;done)|(simp;omega)
       by_cases p2:1114111 < V
       ·have u2:decide (1114111 < (V:Int))=true:=by simp;omega
        have HX:Hid (R=false):=ag.out (by rw[ah.out,decide_eq_true p2];simp)
        clear p1 p2
        go_wp2
        go_ret
        exact⟨by rw[HX.out];rfl,rfl⟩
       have u2:decide (1114111 < (V:Int))=false:=by simp;omega
       by_cases p3:55296≤V
       ·have u3:decide (55296≤(V:Int))=true:=by simp;omega
        by_cases p4:V < 57344
        ·have u4:decide ((V:Int) < 57344)=true:=by simp;omega
         have HX:Hid (R=false):=ag.out (by rw[ah.out,decide_eq_true p3,decide_eq_true p4];simp)
         clear p1 p2 p3 p4
         go_wp2
         go_ret
         exact⟨by rw[HX.out];rfl,rfl⟩
        ·have u4:decide ((V:Int) < 57344)=false:=by simp;omega
         have HX:Hid (R=Lib.validD (l.drop (i+(1+2)))):=a8.out (by rw[ah.out,decide_eq_false p1,decide_eq_false p2,decide_eq_true p3,decide_eq_false p4];rfl)
         clear p1 p2 p3 p4
         go_wp2_with fail
         go_roundg (n - (i+(1+2)))
         case measure=>omega
         case rel=>exact⟨i+(1+2),bc,by omega,by first|(congr 1;done)|(congr 1;omega),HX,rfl⟩
       ·have u3:decide (55296≤(V:Int))=false:=by simp;omega
        have HX:Hid (R=Lib.validD (l.drop (i+(1+2)))):=a8.out (by rw[ah.out,decide_eq_false p1,decide_eq_false p2,decide_eq_false p3];rfl)
        clear p1 p2 p3
        go_wp2_with fail
        go_roundg (n - (i+(1+2)))
        case measure=>omega
        case rel=>exact⟨i+(1+2),bc,by omega,by first|(congr 1;done)|(congr 1;omega),HX,rfl⟩
    ·have d0:decide ((b0:Int) < 128)=false:=by simp;omega
     have d1:decide (194≤(b0:Int))=true:=by simp;omega
     have bu:decide ((b0:Int) < 224)=false:=by simp;omega
     have d2:decide (224≤(b0:Int))=true:=by simp;omega
     have cu:decide ((b0:Int) < 240)=false:=by simp;omega
     have d3:decide (240≤(b0:Int))=true:=by simp;omega
     have di:decide ((b0:Int) < 245)=true:=by simp;omega
     have gA:240≤b0:=by omega
     have gB:b0 < 245:=by omega
     have aw:Hid (A9u (B 0)=some (3,65536,v0)):=by
      show _=_
      rw[bk.out,g1,g2]
     have HG:Hid ((v0:Int)=(b0:Int) - 240):=by show _=_;omega
     have bn:∀ q,q≤3→A6z B v0 q < 100000000:=fun q hq=>by
      have e1:=ac.out 1
      have e2:=ac.out 2
      have e3:=ac.out 3
      have:q=0∨q=1∨q=2∨q=3:=by omega
      rcases this with rfl|rfl|rfl|rfl <;> simp only[A6z] <;> omega
     clear g1 g2 g3 g4 bg au hv0
     go_wp2_with fail
     go_loopg [7,8] 4 (fun gm s7 s8 wr=>∃ q:Nat,q+gm=5∧(1≤q∧q≤4)∧s8 = .int .i64 (q:Int)∧s7 = .int .i64 ((A6z B v0 (q - 1):Nat):Int)∧Hid (∀ t,1≤t→t < q→t < n - i∧B t / 64=2)∧w=wr)
     case atStart=>exact⟨1,by omega,⟨by omega,by omega⟩,rfl,by show Value.int .i64 _=Value.int .i64 (v0:Int);rw[HG.out],fun t h1 h2=>by omega,rfl⟩
     case round=>
      obtain⟨q,hq,⟨bh,bv⟩,rfl,rfl,HT,rfl⟩:=hrel
      have hV:=bn (q - 1) (by omega)
      obtain⟨V,HV⟩:∃ V,Hid (A6z B v0 (q - 1)=V):=⟨_,rfl⟩
      rw[HV.out] at hV ⊢
      by_cases hjm:q≤3
      ·have f0:decide ((q:Int)≤3)=true:=by simp;omega
       by_cases hlen:i+q < n
       ·have f1:decide ((n:Int)≤(i:Int)+(q:Int))=false:=by simp;omega
        have br:=HC.out q hlen
        have ak:=ac.out q
        obtain⟨x,Hx⟩:∃ x,Hid (B q=x):=⟨_,rfl⟩
        rw[Hx.out] at br ak
        have cw:(i:Int)+(q:Int) < (n:Int):=by omega
        by_cases hx:x / 64=2
        ·have f2:((x:Int) / 64 != 2)=false:=by simp;omega
         have HN:Hid (A6z B v0 q=64*V+x%64):=by
          show _=_
          obtain⟨q',rfl⟩:∃ q',q=q'+1:=⟨q - 1,by omega⟩
          rw[←HV.out,←Hx.out]
          rfl
         have bp:Hid (∀ t,1≤t→t < q+1→t < n - i∧B t / 64=2):=fun t h1 h2=>by
          by_cases ht:t=q
          ·rw[ht,Hx.out];exact⟨by omega,hx⟩
          ·exact HT.out t h1 (by omega)
         clear hx
         go_wp2_with fail
         go_roundg (5 - (q+1))
         case measure=>omega
         case rel=>exact⟨q+1,by omega,⟨by omega,by omega⟩,by go_num,by rw[show q+1 - 1=q from rfl,HN.out];first|(congr 1;done)|(congr 1;omega),bp,rfl⟩
        ·have f2:((x:Int) / 64 != 2)=true:=by simp;omega
         have HX:Hid (R=false):=by
          show _=_
          rw[HST.out,A3y (b:=B) rfl rfl rfl aw.out bh hjm (fun h=>hx (by rw[←Hx.out];exact h.2))]
          rfl
         clear hx
         go_wp2
         go_ret
         exact⟨by rw[HX.out];rfl,rfl⟩
       ·have f1:decide ((n:Int)≤(i:Int)+(q:Int))=true:=by simp;omega
        have HX:Hid (R=false):=by
         show _=_
         rw[HST.out,A3y (b:=B) rfl rfl rfl aw.out bh hjm (fun h=>by omega)]
         rfl
        go_wp2
        go_ret
        exact⟨by rw[HX.out];rfl,rfl⟩
      ·have f0:decide ((q:Int)≤3)=false:=by simp;omega
       obtain rfl:q=4:=by omega
       have bl:Hid (A6z B v0 3=V):=HV.out
       have hstep:=A8p (n:=n - i) (b:=B) rfl rfl rfl (ac.out 0) (ac.out 1) (ac.out 2) (ac.out 3) aw.out (fun t h1 h2=>HT.out t h1 (by omega))
       rw[bl.out] at hstep
       have bc:i+(1+3)≤n:=by
        have:=HT.out 3 (by omega) (by omega)
        omega
       have ah:Hid (B5j 65536 V=(decide (V < 65536)||(decide (1114111 < V)||(decide (55296≤V)&&decide (V < 57344))))):=rfl
       have a8:Hid (B5j 65536 V=false→R=Lib.validD (l.drop (i+(1+3)))):=fun hb=>by
        rw[hb] at hstep
        rw[HST.out,hstep,if_neg (by simp)]
        rfl
       have ag:Hid (B5j 65536 V=true→R=false):=fun hb=>by
        rw[hb] at hstep
        rw[HST.out,hstep]
        rfl
       clear hstep
       by_cases p1:V < 65536
       ·have u1:decide ((V:Int) < 65536)=true:=by simp;omega
        have HX:Hid (R=false):=ag.out (by rw[ah.out,decide_eq_true p1];rfl)
        clear p1
        go_wp2
        go_ret
        exact⟨by rw[HX.out];rfl,rfl⟩
       have u1:decide ((V:Int) < 65536)=false:=by first|(simp;done)|(simp;omega)
       by_cases p2:1114111 < V
       ·have u2:decide (1114111 < (V:Int))=true:=by simp;omega
        have HX:Hid (R=false):=ag.out (by rw[ah.out,decide_eq_true p2];simp)
        clear p1 p2
        go_wp2
        go_ret
        exact⟨by rw[HX.out];rfl,rfl⟩
       have u2:decide (1114111 < (V:Int))=false:=by simp;omega
       by_cases p3:55296≤V
       ·have u3:decide (55296≤(V:Int))=true:=by simp;omega
        by_cases p4:V < 57344
        ·have u4:decide ((V:Int) < 57344)=true:=by simp;omega
         have HX:Hid (R=false):=ag.out (by rw[ah.out,decide_eq_true p3,decide_eq_true p4];simp)
         clear p1 p2 p3 p4
         go_wp2
         go_ret
         exact⟨by rw[HX.out];rfl,rfl⟩
        ·have u4:decide ((V:Int) < 57344)=false:=by simp;omega
         have HX:Hid (R=Lib.validD (l.drop (i+(1+3)))):=a8.out (by rw[ah.out,decide_eq_false p1,decide_eq_false p2,decide_eq_true p3,decide_eq_false p4];rfl)
         clear p1 p2 p3 p4
         go_wp2_with fail
         go_roundg (n - (i+(1+3)))
         case measure=>omega
         case rel=>exact⟨i+(1+3),bc,by omega,by first|(congr 1;done)|(congr 1;omega),HX,rfl⟩
       ·have u3:decide (55296≤(V:Int))=false:=by simp;omega
        have HX:Hid (R=Lib.validD (l.drop (i+(1+3)))):=a8.out (by rw[ah.out,decide_eq_false p1,decide_eq_false p2,decide_eq_false p3];rfl)
        clear p1 p2 p3
        go_wp2_with fail
        go_roundg (n - (i+(1+3)))
        case measure=>omega
        case rel=>exact⟨i+(1+3),bc,by omega,by first|(congr 1;done)|(congr 1;omega),HX,rfl⟩
  ·have HX:Hid (R=true):=by
    show _=_
    rw[HI.out,List.drop_eq_nil_of_le (by rw[←Hn.out];omega)]
    rfl
   have dm:¬ (i:Int) < (n:Int):=by omega
   go_wp2
   go_ret
   exact⟨by rw[HX.out];rfl,rfl⟩
open Go.RowKit
theorem A7e (B:Nat) (w:World){n:Nat}:Below B w (w.drewN n):=⟨rfl,rfl,rfl,Nat.le_refl _,fun _ _=>rfl⟩
theorem A5m {w:World}{v:Value}{l:List UInt8}(h:RdL 1 YAt w v l) (n:Nat):RdL 1 YAt (w.drewN n) v l:=h
theorem C6u {va vb:Value}{rs:List RI}{w:World}(ha:RdL 4 RAt w va rs) (hb:RdL 4 RAt w vb rs) :
  Calls Tryz.prog 29 #[va,vb] w fun e w'=>e = .returned (.bool true)∧Below w.heap.size w w':=by
 obtain⟨ao,n,ca,rfl,Ha,bc⟩:=ha.shape
 obtain⟨bo,n',cb,rfl,Hb,_⟩:=hb.shape
 obtain rfl:n=n':=by rw[Ha.out,Hb.out]
 go_enter Tryz.func29,Tryz.ntmps29
 go_wp2_with fail
 go_loopg [13] n (fun m i wr=>∃ (k d:Nat),k+m=n∧i = .int .i64 (k:Int)∧wr=w.drewN d)
 case atStart=>exact⟨0,0,by omega,rfl,rfl⟩
 case round=>
  obtain⟨k,d,hk,rfl,rfl⟩:=hrel
  by_cases hlt:k < n
  ·obtain⟨r,Hr⟩:∃ r,Hid (rs[k]?=some r):=⟨rs[k]'(by rw[←Ha.out];exact hlt),List.getElem?_eq_getElem (by rw[←Ha.out];exact hlt)⟩
   obtain⟨b,off,rfl,hat⟩:=ha.get RAt.plain Hr.out
   obtain⟨b',off',rfl,hat'⟩:=hb.get RAt.plain Hr.out
   obtain⟨v1,c0,c1,c2,c3,aj⟩:=hat.at
   obtain⟨v2,d0,d1,d2,d3,ac⟩:=hat'.at
   obtain⟨aw,ak,ag,rfl,_,_⟩:=aj.shape
   obtain⟨a8,au,ah,rfl,_,_⟩:=ac.shape
   have s1:∀ n,(convert 32 9 (.slice aw ak ag)).run Tryz.prog (w.drewN n) = .ok (.string ⟨r.bytes.toArray⟩) (w.drewN n):=fun n=>A7u (A5m aj n)
   have s2:∀ n,(convert 32 9 (.slice a8 au ah)).run Tryz.prog (w.drewN n) = .ok (.string ⟨r.bytes.toArray⟩) (w.drewN n):=fun n=>A7u (A5m ac n)
   have ba:(k:Int) < (n:Int):=by omega
   clear aj ac ha hb hat hat'
   go_wp2_with fail
   go_quiet (fail)
   go_wp2_with fail
   go_roundg (n - (k+1))
   case measure=>omega
   case rel=>exact⟨k+1,_,by omega,by go_num,rfl⟩
  ·go_wp2
   go_ret
   exact⟨rfl,A7e _ _⟩
end L
end Go.Proofs.YtgaoojpakjjdnaaGreatDoor
