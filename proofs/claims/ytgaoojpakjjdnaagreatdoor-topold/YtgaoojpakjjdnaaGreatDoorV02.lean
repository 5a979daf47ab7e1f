import Derived.Test.YtgaoojpakjjdnaaGreatDoorV01
import Derived.Shelf.Unicode.DecodeSlow
import Derived.Deep.DeepMust
import Derived.Deep.CutBlock
import Derived.Deep.DeepCutAuto
set_option maxHeartbeats 32000000
set_option maxRecDepth 100000
namespace Go.Proofs.YtgaoojpakjjdnaaGreatDoor
namespace L
open Go.RowKit
theorem A0m {B:Nat}{a w:World}(h:Below B a w):∀ q,Below B a (w.drewN q)
 | 0=>h
 | q+1=>(A0m h q).drew
theorem A4v {l:List UInt8}{i:Nat}(h:i<l.length):l[i]?=some (l.getD i 0):=by
 rw[List.getD_eq_getElem?_getD,List.getElem?_eq_getElem h];rfl
theorem D8o:∀ X:Fin 256,bits .and .u8 ((X.val:Nat):Int) 7=((X.val%8:Nat):Int):=by decide
abbrev Tabs (w:World):Prop:=Lib.Utf8Tabs 0 1 w
theorem Tabs.below {w w':World}(h:Tabs w)(hb:Below w.heap.size w w'):Tabs w':=⟨fun c hc=>A0c hb (h.1 c hc),fun i hi=>⟨A0c hb (h.2 i hi).1,A0c hb (h.2 i hi).2⟩⟩
theorem C6y {w:World}{b o:Nat}{l:List UInt8}(h:l.length=0):YCells w b o l:=by
 rw[List.eq_nil_of_length_eq_zero h];intro i x hx;simp at hx
def WF (base:Nat)(l:List UInt8)(o:Nat):Nat:=Lib.leNat ((l.drop (o-base)).take 8)
theorem C3j (base:Nat)(l:List UInt8)(o:Nat):WF base l o<18446744073709551616:=C3d _
theorem B4g {base:Nat}{l:List UInt8}{o:Nat}(h:o-base+8≤l.length)(hz:WF base l o&&& 9259542123273814144=0):∀ y∈(l.drop (o-base)).take 8,y.toNat<128:=(B9j (by rw[List.length_drop];omega)).1 hz
theorem C6l {w:World}{b base:Nat}{l:List UInt8}(h:YCells w b base l)(q o n:Nat)(h1:base≤o)(h2:o-base+8≤l.length)(h3:8≤n)(h4:n≤9223372036854775807) :
  Calls Tryz.prog 180 #[.slice (some ⟨b,o,none⟩) n n] (w.drewN q) fun e w'=>e = .returned (.int .u64 ((WF base l o:Nat):Int))∧∃ q',w'=(w.drewN q).drewN q':=by
 have hd:=h.drop (o-base)
 rw[show base+(o-base)=o by omega] at hd
 exact C3c (hd.below (A0m (Below.refl _ _) q)) (by rw[List.length_drop];omega) h3 h4
def VRel (w:World)(b:Nat)(ANS:Bool)(g G:Nat)(s0:Value):Prop:=∃ (o:Nat) (l:List UInt8),s0 = .slice (some ⟨b,o,none⟩) l.length l.length∧YCells w b o l∧Lib.validD l=ANS∧l.length<g∧l.length≤G
theorem VRel.mk {w:World}{b o g G n:Nat}{ac:Bool}{l:List UInt8}(hn:l.length=n)(hc:YCells w b o l)(hv:Lib.validD l=ac)(hg:n<g)(hm:n≤G):VRel w b ac g G (.slice (some ⟨b,o,none⟩) n n):=⟨o,l,by rw[hn],hc,hv,by omega,by omega⟩
theorem VRel.nil {w:World}{b o g G:Nat}{ac:Bool}{l:List UInt8}(hn:l.length=0)(hv:Lib.validD l=ac)(hg:0<g):VRel w b ac g G (.slice (some ⟨b,o,none⟩) 0 0):=⟨o,l,by rw[hn],C6y hn,hv,by omega,by omega⟩
theorem C5z {w:World}{b o:Nat}{l0:List UInt8}{n cap:Nat}(hc:YCells w b o l0)(hn:n=l0.length)(bt:n≤cap)(g7:cap≤9223372036854775807)(hT:Tabs w) :
  Calls Tryz.prog 104 #[.slice (some ⟨b,o,none⟩) n cap] w fun e w'=>e = .returned (.bool (Lib.validD l0))∧Below w.heap.size w w':=by
 obtain⟨ak,ba⟩:∃ ak,Hid (ak=Lib.validD l0):=⟨_,rfl⟩
 rw[←ba.out]
 have ee:n≤9223372036854775807:=by omega
 have hnz:(n:Int)≤(cap:Int):=by omega
 have HN:Hid (n=l0.length):=hn
 clear hn
 go_enter Tryz.func104,Tryz.ntmps104
 go_wp2
 go_loopg [0] (n+1) (fun gk s0 wx=>Below w.heap.size w wx∧VRel w b ak gk 9223372036854775807 s0)
 case atStart=>exact⟨Below.refl _ _,VRel.mk HN.out.symm hc ba.out.symm (by omega) ee⟩
 case round=>
  obtain⟨ag,o,l,rfl,hC,hv,hg,ie⟩:=hrel
  clear ba HN hc hnz bt
  have bk:=hT.below ag
  have aw:YCells wr b o l:=hC.below ag
  by_cases h0:0<l.length
  ·obtain⟨g',rfl⟩:∃ g',gk=g'+1:=⟨gk-1,by omega⟩
   have fd:(0:Int)<(l.length:Int):=by omega
   have gy:(1:Int)≤(l.length:Int):=by omega
   obtain⟨x0,hx0⟩:∃ x0,l.getD 0 0=x0:=⟨_,rfl⟩
   have bv:x0.toNat<256:=x0.toNat_lt
   have c0:wr.cell? ⟨b,o,none⟩=some (.int .u8 (x0.toNat:Int)):=aw 0 x0 (by rw[←hx0];exact A4v h0)
   by_cases hasc:x0.toNat<128
   ·as_aux_lemma=>
    have bq:(x0.toNat:Int)<128:=by omega
    have a1:∀ y∈l.take 1,y.toNat<128:=by
     intro y hy
     have:l.take 1 = [x0]:=by
      match l,h0,hx0 with
      | z::r,_,e=>simp at e;simp[e]
     rw[this] at hy;simp at hy;rw[hy];exact hasc
    have v1:Lib.validD (l.drop 1)=ak:=by rw[←Lib.validD_ascii 1 l a1];exact hv
    obtain⟨l1,df⟩:∃ l1,l.drop 1=l1:=⟨_,rfl⟩
    have C1:YCells w b (o+1) l1:=df▸hC.drop 1
    obtain⟨m,hm⟩:∃ m,l.length=m+1:=⟨l.length-1,by omega⟩
    have M1:l1.length=m:=by rw[←df,List.length_drop];omega
    rw[df] at v1
    clear bk hT hv a1 hx0 df aw hC
    rw[hm] at fd gy hg ie ⊢
    clear hm h0
    by_cases c8:8<m
    ·as_aux_lemma=>
     obtain⟨k,rfl⟩:∃ k,m=k+8:=⟨m-8,by omega⟩
     have jf:¬ k=0:=by omega
     have gq:(8:Int)<((k+8:Nat):Int):=by omega
     obtain⟨A1,di⟩:∃ A1,Hid (A1=Lib.leNat (l1.take 8)):=⟨_,rfl⟩
     have ip:A1<18446744073709551616:=by rw[di.out];exact C3d l1
     have dx:Calls Tryz.prog 180 #[.slice (some ⟨b,o+1,none⟩) (k+8) (k+8)] wr fun e w'=>e = .returned (.int .u64 (A1:Int))∧∃ q,w'=wr.drewN q:=by rw[di.out];exact C3c (C1.below ag) (by omega) (by omega) (by omega)
     have dh:A1&&& 9259542123273814144=0→∀ y∈l1.take 8,y.toNat<128:=by rw[di.out];exact(B9j (by omega)).1
     have bp:bits .and .u64 (A1:Int) 9259542123273814144=((A1&&& 9259542123273814144:Nat):Int):=u64_and_nat A1 9259542123273814144 ip (by omega)
     obtain⟨Z1,fo⟩:∃ Z1,A1&&& 9259542123273814144=Z1:=⟨_,rfl⟩
     rw[fo] at bp dh
     clear fo
     by_cases hz1:Z1=0
     ·have ei:((Z1:Int)==0)=true:=by simp[hz1]
      have v2:Lib.validD (l1.drop 8)=ak:=by rw[←Lib.validD_ascii 8 l1 (dh hz1)];exact v1
      obtain⟨l2,hl2⟩:∃ l2,l1.drop 8=l2:=⟨_,rfl⟩
      have C2:YCells w b (o+1+8) l2:=hl2▸C1.drop 8
      have M2:l2.length=k:=by rw[←hl2,List.length_drop];omega
      rw[hl2] at v2
      clear hz1 dh v1 C1 M1 hl2
      go_wp2_with (go_at_call 180;refine dx.mono ?_;rintro e W1 ⟨rfl,q1,rfl⟩)
      clear dx
      have hb1:Below w.heap.size w (wr.drewN q1):=A0m ag q1
      generalize wr.drewN q1=wq at hb1 ⊢
      clear ag
      by_cases c16:16<k
      ·obtain⟨j,rfl⟩:∃ j,k=j+16:=⟨k-16,by omega⟩
       have je:¬ j=0:=by omega
       have bc:(16:Int)<(j:Int)+16:=by omega
       have dv:decide ((16:Int)<(j:Int)+16)=true:=decide_eq_true bc
       have jh:(8:Int)≤(j:Int)+16:=by omega
       have cA:=C6l (C2.below hb1)
       obtain⟨f,Hf⟩:∃ f,Hid (f=WF (o+1+8) l2):=⟨_,rfl⟩
       rw[←Hf.out] at cA
       obtain⟨A2,dl⟩:∃ A2,Hid (A2=f (o+1+8)):=⟨_,rfl⟩
       obtain⟨A3,dm⟩:∃ A3,Hid (A3=f (o+1+8+8)):=⟨_,rfl⟩
       have i6:f (o+1+8)=A2:=dl.out.symm
       have i7:f (o+1+8+8)=A3:=dm.out.symm
       have gc:A2<18446744073709551616:=by rw[dl.out,Hf.out];exact C3j _ _ _
       have gg:A3<18446744073709551616:=by rw[dm.out,Hf.out];exact C3j _ _ _
       have fw:A2&&& 9259542123273814144=0→∀ y∈l2.take 8,y.toNat<128:=fun hz=>by
        rw[dl.out,Hf.out] at hz
        have:=B4g (by omega) hz
        rwa [Nat.sub_self,List.drop_zero] at this
       have fx:A3&&& 9259542123273814144=0→∀ y∈(l2.drop 8).take 8,y.toNat<128:=fun hz=>by
        rw[dm.out,Hf.out] at hz
        have:=B4g (by omega) hz
        rwa [Nat.add_sub_cancel_left] at this
       have eh:bits .or .u64 (A2:Int) (A3:Int)=((A2||| A3:Nat):Int):=u64_or_nat A2 A3 gc gg
       have bw:A2||| A3<18446744073709551616:=Nat.or_lt_two_pow (n:=64) gc gg
       have au:bits .and .u64 ((A2||| A3:Nat):Int) 9259542123273814144=(((A2||| A3)&&& 9259542123273814144:Nat):Int):=u64_and_nat _ 9259542123273814144 bw (by omega)
       have k2:(A2||| A3)&&& 9259542123273814144=0→∀ y∈l2.take 16,y.toNat<128:=fun dy=>by
        obtain⟨e1,e2⟩:=(Lib.or_mask A2 A3 _).1 dy
        exact B1q (a:=8) (c:=8) (fw e1) (fx e2)
       obtain⟨O2,fj⟩:∃ O2,A2||| A3=O2:=⟨_,rfl⟩
       rw[fj] at eh au k2
       obtain⟨Z2,fq⟩:∃ Z2,O2&&& 9259542123273814144=Z2:=⟨_,rfl⟩
       rw[fq] at au k2
       clear fw fx bw fj fq
       by_cases hz2:Z2=0
       ·have ej:((Z2:Int)==0)=true:=by simp[hz2]
        have v3:Lib.validD (l2.drop 16)=ak:=by rw[←Lib.validD_ascii 16 l2 (k2 hz2)];exact v2
        obtain⟨l3,dg⟩:∃ l3,l2.drop 16=l3:=⟨_,rfl⟩
        have C3:YCells w b (o+1+8+16) l3:=dg▸C2.drop 16
        have M3:l3.length=j:=by rw[←dg,List.length_drop];omega
        rw[dg] at v3
        clear k2 hz2 v2 C2 dg
        go_big_quiet ((go_at_call 180;refine Calls.quiet_of (cA _ _ _ (by omega) (by omega) (by omega) (by omega))))
        have hb2:Below w.heap.size w (wq.drewN nq):=A0m hb1 nq
        generalize wq.drewN nq=wq2 at hb2 ⊢
        clear cA hb1
        go_wp2
        go_loopg [0] (j+1) (fun g2 s0 wx=>Below w.heap.size w wx∧VRel w b ak g2 j s0)
        case atStart=>exact⟨hb2,VRel.mk M3 C3 v3 (by omega) (by omega)⟩
        case round=>
         obtain⟨cw,o3,u,rfl,Cu,vu,g9,io⟩:=hrel
         clear hb2 C3 v3 M3
         by_cases c32:32<u.length
         ·obtain⟨g3,rfl⟩:∃ g3,gk=g3+1:=⟨gk-1,by omega⟩
          obtain⟨v,bu⟩:∃ v,u.length=v+32:=⟨u.length-32,by omega⟩
          have hv0:¬ v=0:=by omega
          rw[bu] at g9 io ⊢
          have bg:(32:Int)<(v:Int)+32:=by omega
          have dw:decide ((32:Int)<(v:Int)+32)=true:=decide_eq_true bg
          have jg:(8:Int)≤(v:Int)+32:=by omega
          have iu:(16:Int)≤(v:Int)+32:=by omega
          have iw:(24:Int)≤(v:Int)+32:=by omega
          have cB:=C6l (Cu.below cw)
          obtain⟨f,Hf⟩:∃ f,Hid (f=WF o3 u):=⟨_,rfl⟩
          rw[←Hf.out] at cB
          obtain⟨B0,dn⟩:∃ B0,Hid (B0=f (o3)):=⟨_,rfl⟩
          have ja:f (o3)=B0:=dn.out.symm
          have gh:B0<18446744073709551616:=by rw[dn.out,Hf.out];exact C3j _ _ _
          have fy:B0&&& 9259542123273814144=0→∀ y∈(u).take 8,y.toNat<128:=fun hz=>by
           rw[dn.out,Hf.out] at hz
           have:=B4g (by omega) hz
           rwa [Nat.sub_self,List.drop_zero] at this
          obtain⟨B1,dp⟩:∃ B1,Hid (B1=f (o3+8)):=⟨_,rfl⟩
          have jb:f (o3+8)=B1:=dp.out.symm
          have gi:B1<18446744073709551616:=by rw[dp.out,Hf.out];exact C3j _ _ _
          have fz:B1&&& 9259542123273814144=0→∀ y∈(u.drop 8).take 8,y.toNat<128:=fun hz=>by
           rw[dp.out,Hf.out] at hz
           have:=B4g (by omega) hz
           rwa [Nat.add_sub_cancel_left] at this
          obtain⟨B2,dr⟩:∃ B2,Hid (B2=f (o3+16)):=⟨_,rfl⟩
          have jc:f (o3+16)=B2:=dr.out.symm
          have gj:B2<18446744073709551616:=by rw[dr.out,Hf.out];exact C3j _ _ _
          have f6:B2&&& 9259542123273814144=0→∀ y∈(u.drop 16).take 8,y.toNat<128:=fun hz=>by
           rw[dr.out,Hf.out] at hz
           have:=B4g (by omega) hz
           rwa [Nat.add_sub_cancel_left] at this
          obtain⟨B3,dt⟩:∃ B3,Hid (B3=f (o3+24)):=⟨_,rfl⟩
          have jd:f (o3+24)=B3:=dt.out.symm
          have gl:B3<18446744073709551616:=by rw[dt.out,Hf.out];exact C3j _ _ _
          have f9:B3&&& 9259542123273814144=0→∀ y∈(u.drop 24).take 8,y.toNat<128:=fun hz=>by
           rw[dt.out,Hf.out] at hz
           have:=B4g (by omega) hz
           rwa [Nat.add_sub_cancel_left] at this
          have ig:bits .or .u64 (B0:Int) (B1:Int)=((B0||| B1:Nat):Int):=u64_or_nat B0 B1 gh gi
          have ii:bits .or .u64 (B2:Int) (B3:Int)=((B2||| B3:Nat):Int):=u64_or_nat B2 B3 gj gl
          have et:B0||| B1<18446744073709551616:=Nat.or_lt_two_pow (n:=64) gh gi
          have eu:B2||| B3<18446744073709551616:=Nat.or_lt_two_pow (n:=64) gj gl
          have fu:bits .or .u64 ((B0||| B1:Nat):Int) ((B2||| B3:Nat):Int)=(((B0||| B1)||| (B2||| B3):Nat):Int):=u64_or_nat _ _ et eu
          have gp:(B0||| B1)||| (B2||| B3)<18446744073709551616:=Nat.or_lt_two_pow (n:=64) et eu
          have ah:bits .and .u64 (((B0||| B1)||| (B2||| B3):Nat):Int) 9259542123273814144=((((B0||| B1)||| (B2||| B3))&&& 9259542123273814144:Nat):Int):=u64_and_nat _ 9259542123273814144 gp (by omega)
          have k3:((B0||| B1)||| (B2||| B3))&&& 9259542123273814144=0→∀ y∈u.take 32,y.toNat<128:=fun dy=>by
           obtain⟨gu,gw⟩:=(Lib.or_mask _ _ _).1 dy
           obtain⟨e0,e1⟩:=(Lib.or_mask _ _ _).1 gu
           obtain⟨e2,e3⟩:=(Lib.or_mask _ _ _).1 gw
           exact B1q (a:=24) (c:=8) (B1q (a:=16) (c:=8) (B1q (a:=8) (c:=8) (fy e0) (fz e1)) (f6 e2)) (f9 e3)
          obtain⟨P1,dz⟩:∃ P1,B0||| B1=P1:=⟨_,rfl⟩
          obtain⟨P2,d9⟩:∃ P2,B2||| B3=P2:=⟨_,rfl⟩
          rw[dz,d9] at fu ah k3
          rw[dz] at ig
          rw[d9] at ii
          obtain⟨P3,fk⟩:∃ P3,P1||| P2=P3:=⟨_,rfl⟩
          rw[fk] at fu ah k3
          obtain⟨Z3,ft⟩:∃ Z3,P3&&& 9259542123273814144=Z3:=⟨_,rfl⟩
          rw[ft] at ah k3
          clear fy fz f6 f9 et eu gp dz d9 fk ft
          by_cases hz3:Z3=0
          ·have eo:((Z3:Int)==0)=true:=by simp[hz3]
           have v4:Lib.validD (u.drop 32)=ak:=by rw[←Lib.validD_ascii 32 u (k3 hz3)];exact vu
           have M4:(u.drop 32).length=v:=by rw[List.length_drop];omega
           clear k3 hz3
           go_wp2_with fail
           go_big_quiet ((go_at_call 180;refine Calls.quiet_of (cB _ _ _ (by omega) (by omega) (by omega) (by omega))))
           go_wp2
           go_roundg g3
           case measure=>omega
           case rel=>exact⟨A0m cw nq,VRel.mk M4 (Cu.drop 32) v4 (by omega) (by omega)⟩
          ·have eo:((Z3:Int)==0)=false:=by simp;omega
           clear k3 hz3
           go_wp2_with fail
           go_big_quiet ((go_at_call 180;refine Calls.quiet_of (cB _ _ _ (by omega) (by omega) (by omega) (by omega))))
           go_wp2
           go_roundg g'
           case measure=>omega
           case rel=>exact⟨A0m cw nq,VRel.mk bu Cu vu (by omega) (by omega)⟩
         ·have bg:¬ ((32:Int)<(u.length:Int)):=by omega
          have dw:decide ((32:Int)<(u.length:Int))=false:=decide_eq_false bg
          go_wp2_with fail
          go_big_quiet (fail)
          go_wp2
          go_roundg g'
          case measure=>omega
          case rel=>exact⟨A0m cw nq,VRel.mk rfl Cu vu (by omega) (by omega)⟩
       ·have ej:((Z2:Int)==0)=false:=by simp;omega
        clear k2 hz2
        go_big_quiet ((go_at_call 180;refine Calls.quiet_of (cA _ _ _ (by omega) (by omega) (by omega) (by omega))))
        go_wp2
        go_roundg g'
        case measure=>omega
        case rel=>exact⟨A0m hb1 nq,VRel.mk M2 C2 v2 (by omega) (by omega)⟩
      ·have bc:¬ ((16:Int)<(k:Int)):=by omega
       have dv:decide ((16:Int)<(k:Int))=false:=decide_eq_false bc
       go_big_quiet (fail)
       go_wp2
       go_roundg g'
       case measure=>omega
       case rel=>exact⟨A0m hb1 nq,VRel.mk M2 C2 v2 (by omega) (by omega)⟩
     ·have ei:((Z1:Int)==0)=false:=by simp;omega
      clear hz1 dh
      go_wp2_with (go_at_call 180;refine dx.mono ?_;rintro e W1 ⟨rfl,q1,rfl⟩)
      go_roundg g'
      case measure=>omega
      case rel=>exact⟨A0m ag q1,VRel.mk M1 C1 v1 (by omega) (by omega)⟩
    ·have gq:¬ ((8:Int)<(m:Int)):=by omega
     go_wp2
     all_goals
      go_roundg g'
      case measure=>omega
      case rel=>first|exact⟨ag,VRel.mk M1 C1 v1 (by omega) (by omega)⟩|exact⟨ag,VRel.nil (l:=l1) (by omega) v1 (by omega)⟩
   ·have g8:128≤x0.toNat:=by omega
    have bq:¬ ((x0.toNat:Int)<128):=by omega
    obtain⟨x1,hx1⟩:∃ x1,l.getD 1 0=x1:=⟨_,rfl⟩
    obtain⟨x2,hx2⟩:∃ x2,l.getD 2 0=x2:=⟨_,rfl⟩
    obtain⟨x3,hx3⟩:∃ x3,l.getD 3 0=x3:=⟨_,rfl⟩
    have l1:=x1.toNat_lt;have l2:=x2.toNat_lt;have l3:=x3.toNat_lt
    have hne:l≠[]:=fun h=>by rw[h] at h0;simp at h0
    have ac:=Lib.validD_lead l hne (by rw[hx0];exact g8)
    rw[hx0,hx1,hx2,hx3,hv] at ac
    have hc0:=bk.1 x0.toNat bv
    have bn:Lib.firstT x0.toNat<256:=by rcases Lib.firstT_cases x0.toNat with h|h|h|h|h|h|h|h|h <;> omega
    obtain⟨X,hX⟩:∃ X,Lib.firstT x0.toNat=X:=⟨_,rfl⟩
    rw[hX] at hc0 bn ac
    have h7:=D8o ⟨X,bn⟩
    simp only at h7
    have ha0:wr.cell? ⟨1,X / 16*2,none⟩=some (.int .u8 (Lib.accLo (X / 16))):=by rw[Nat.mul_comm];exact(bk.2 (X / 16) (by omega)).1
    have ha1:wr.cell? ⟨1,X / 16*2+1,none⟩=some (.int .u8 (Lib.accHi (X / 16))):=by rw[Nat.mul_comm];exact(bk.2 (X / 16) (by omega)).2
    obtain⟨LO,fh⟩:∃ LO,Lib.accLo (X / 16)=LO:=⟨_,rfl⟩
    obtain⟨HI,fe⟩:∃ HI,Lib.accHi (X / 16)=HI:=⟨_,rfl⟩
    rw[fh] at ha0 ac
    rw[fe] at ha1 ac
    obtain⟨SZ,gz⟩:∃ SZ,X%8=SZ:=⟨_,rfl⟩
    rw[gz] at ac
    clear bk hT hX hv fh fe hne
    by_cases s2:SZ=2
    ·as_aux_lemma=>
     subst s2
     have bh:(X:Int)%8=2:=by omega
     simp only[Lib.checkN,Nat.reduceEqDiff,if_true,if_false] at ac
     go_upto_region 18 with fail
     go_cut [103] from 85 to 103 (fun c wx=>c = .bool (decide (l.length<2∨x1.toNat<LO∨HI<x1.toNat))∧Below w.heap.size w wx)
     case first=>
      by_cases q0:l.length<2
      ·have cg:(l.length:Int)<2:=by omega
       go_big_quiet (fail)
       go_wp2
       go_meet
       exact⟨congrArg Value.bool (decide_eq_true (p:=l.length<2∨x1.toNat<LO∨HI<x1.toNat) (by omega)).symm,A0m (ag.alloc ag.size _) _⟩
      ·have cg:¬ ((l.length:Int)<2):=by omega
       have hz1:(1:Int)<(l.length:Int):=by omega
       have c1:(wr.alloc (.cells #[.int .u8 (LO:Int),.int .u8 (HI:Int)] 238)).cell? ⟨b,o+1,none⟩=some (.int .u8 (x1.toNat:Int)):=A0c ((Below.refl _ _).alloc (Nat.le_refl _) _) (aw 1 x1 (by rw[←hx1];exact A4v (by omega)))
       by_cases q1:x1.toNat<LO
       ·have cj:(x1.toNat:Int)<(LO:Int):=by omega
        go_big_quiet (fail)
        go_wp2
        go_meet
        exact⟨congrArg Value.bool (decide_eq_true (p:=l.length<2∨x1.toNat<LO∨HI<x1.toNat) (by omega)).symm,A0m (ag.alloc ag.size _) _⟩
       ·have cj:¬ ((x1.toNat:Int)<(LO:Int)):=by omega
        by_cases q2:HI<x1.toNat
        ·have cu:(HI:Int)<(x1.toNat:Int):=by omega
         go_big_quiet (fail)
         go_wp2
         go_meet
         exact⟨congrArg Value.bool (decide_eq_true (p:=l.length<2∨x1.toNat<LO∨HI<x1.toNat) (by omega)).symm,A0m (ag.alloc ag.size _) _⟩
        ·have cu:¬ ((HI:Int)<(x1.toNat:Int)):=by omega
         go_big_quiet (fail)
         go_wp2
         go_meet
         exact⟨congrArg Value.bool (decide_eq_false (p:=l.length<2∨x1.toNat<LO∨HI<x1.toNat) (by omega)).symm,A0m (ag.alloc ag.size _) _⟩
     case rest=>
      obtain⟨rfl,aj⟩:=hcut
      by_cases hb:l.length<2∨x1.toNat<LO∨HI<x1.toNat
      ·have br:decide (l.length<2∨x1.toNat<LO∨HI<x1.toNat)=true:=decide_eq_true hb
       rw[if_pos hb] at ac
       go_wp2
       all_goals (go_ret;exact⟨by first|rfl|rw[ac],aj⟩)
      ·have br:decide (l.length<2∨x1.toNat<LO∨HI<x1.toNat)=false:=decide_eq_false hb
       rw[if_neg hb] at ac
       have ij:(2:Int)≤(l.length:Int):=by omega
       go_wp2
       all_goals
        go_roundg g'
        case measure=>omega
        case rel=>first|exact⟨aj,VRel.mk (List.length_drop ..) (hC.drop 2) ac.symm (by omega) (by omega)⟩|exact⟨aj,VRel.nil (l:=l.drop 2) (by rw[List.length_drop];omega) ac.symm (by omega)⟩
    by_cases s3:SZ=3
    ·as_aux_lemma=>
     subst s3
     have bh:(X:Int)%8=3:=by omega
     simp only[Lib.checkN,Nat.reduceEqDiff,if_true,if_false] at ac
     go_upto_region 22 with fail
     go_cut [138] from 108 to 138 (fun c wx=>c = .bool (decide (l.length<3∨x1.toNat<LO∨HI<x1.toNat∨x2.toNat<128∨191<x2.toNat))∧Below w.heap.size w wx)
     case first=>
      by_cases q0:l.length<3
      ·have cg:(l.length:Int)<3:=by omega
       go_big_quiet (fail)
       go_wp2
       go_meet
       exact⟨congrArg Value.bool (decide_eq_true (p:=l.length<3∨x1.toNat<LO∨HI<x1.toNat∨x2.toNat<128∨191<x2.toNat) (by omega)).symm,A0m (ag.alloc ag.size _) _⟩
      ·have cg:¬ ((l.length:Int)<3):=by omega
       have hz1:(1:Int)<(l.length:Int):=by omega
       have c1:(wr.alloc (.cells #[.int .u8 (LO:Int),.int .u8 (HI:Int)] 238)).cell? ⟨b,o+1,none⟩=some (.int .u8 (x1.toNat:Int)):=A0c ((Below.refl _ _).alloc (Nat.le_refl _) _) (aw 1 x1 (by rw[←hx1];exact A4v (by omega)))
       have hz2:(2:Int)<(l.length:Int):=by omega
       have c2:(wr.alloc (.cells #[.int .u8 (LO:Int),.int .u8 (HI:Int)] 238)).cell? ⟨b,o+2,none⟩=some (.int .u8 (x2.toNat:Int)):=A0c ((Below.refl _ _).alloc (Nat.le_refl _) _) (aw 2 x2 (by rw[←hx2];exact A4v (by omega)))
       by_cases q1:x1.toNat<LO
       ·have cj:(x1.toNat:Int)<(LO:Int):=by omega
        go_big_quiet (fail)
        go_wp2
        go_meet
        exact⟨congrArg Value.bool (decide_eq_true (p:=l.length<3∨x1.toNat<LO∨HI<x1.toNat∨x2.toNat<128∨191<x2.toNat) (by omega)).symm,A0m (ag.alloc ag.size _) _⟩
       ·have cj:¬ ((x1.toNat:Int)<(LO:Int)):=by omega
        by_cases q2:HI<x1.toNat
        ·have cu:(HI:Int)<(x1.toNat:Int):=by omega
         go_big_quiet (fail)
         go_wp2
         go_meet
         exact⟨congrArg Value.bool (decide_eq_true (p:=l.length<3∨x1.toNat<LO∨HI<x1.toNat∨x2.toNat<128∨191<x2.toNat) (by omega)).symm,A0m (ag.alloc ag.size _) _⟩
        ·have cu:¬ ((HI:Int)<(x1.toNat:Int)):=by omega
         by_cases q3:x2.toNat<128
         ·have ew:(x2.toNat:Int)<128:=by omega
          go_big_quiet (fail)
          go_wp2
          go_meet
          exact⟨congrArg Value.bool (decide_eq_true (p:=l.length<3∨x1.toNat<LO∨HI<x1.toNat∨x2.toNat<128∨191<x2.toNat) (by omega)).symm,A0m (ag.alloc ag.size _) _⟩
         ·have ew:¬ ((x2.toNat:Int)<128):=by omega
          by_cases q4:191<x2.toNat
          ·have fc:(191:Int)<(x2.toNat:Int):=by omega
           go_big_quiet (fail)
           go_wp2
           go_meet
           exact⟨congrArg Value.bool (decide_eq_true (p:=l.length<3∨x1.toNat<LO∨HI<x1.toNat∨x2.toNat<128∨191<x2.toNat) (by omega)).symm,A0m (ag.alloc ag.size _) _⟩
          ·have fc:¬ ((191:Int)<(x2.toNat:Int)):=by omega
           go_big_quiet (fail)
           go_wp2
           go_meet
           exact⟨congrArg Value.bool (decide_eq_false (p:=l.length<3∨x1.toNat<LO∨HI<x1.toNat∨x2.toNat<128∨191<x2.toNat) (by omega)).symm,A0m (ag.alloc ag.size _) _⟩
     case rest=>
      obtain⟨rfl,aj⟩:=hcut
      by_cases hb:l.length<3∨x1.toNat<LO∨HI<x1.toNat∨x2.toNat<128∨191<x2.toNat
      ·have br:decide (l.length<3∨x1.toNat<LO∨HI<x1.toNat∨x2.toNat<128∨191<x2.toNat)=true:=decide_eq_true hb
       rw[if_pos hb] at ac
       go_wp2
       all_goals (go_ret;exact⟨by first|rfl|rw[ac],aj⟩)
      ·have br:decide (l.length<3∨x1.toNat<LO∨HI<x1.toNat∨x2.toNat<128∨191<x2.toNat)=false:=decide_eq_false hb
       rw[if_neg hb] at ac
       have ik:(3:Int)≤(l.length:Int):=by omega
       go_wp2
       all_goals
        go_roundg g'
        case measure=>omega
        case rel=>first|exact⟨aj,VRel.mk (List.length_drop ..) (hC.drop 3) ac.symm (by omega) (by omega)⟩|exact⟨aj,VRel.nil (l:=l.drop 3) (by rw[List.length_drop];omega) ac.symm (by omega)⟩
    by_cases s4:SZ=4
    ·as_aux_lemma=>
     subst s4
     have bh:(X:Int)%8=4:=by omega
     simp only[Lib.checkN,Nat.reduceEqDiff,if_true,if_false] at ac
     go_upto_region 26 with fail
     go_cut [185] from 143 to 185 (fun c wx=>c = .bool (decide (l.length<4∨x1.toNat<LO∨HI<x1.toNat∨x2.toNat<128∨191<x2.toNat∨x3.toNat<128∨191<x3.toNat))∧Below w.heap.size w wx)
     case first=>
      by_cases q0:l.length<4
      ·have cg:(l.length:Int)<4:=by omega
       go_big_quiet (fail)
       go_wp2
       go_meet
       exact⟨congrArg Value.bool (decide_eq_true (p:=l.length<4∨x1.toNat<LO∨HI<x1.toNat∨x2.toNat<128∨191<x2.toNat∨x3.toNat<128∨191<x3.toNat) (by omega)).symm,A0m (ag.alloc ag.size _) _⟩
      ·have cg:¬ ((l.length:Int)<4):=by omega
       have hz1:(1:Int)<(l.length:Int):=by omega
       have c1:(wr.alloc (.cells #[.int .u8 (LO:Int),.int .u8 (HI:Int)] 238)).cell? ⟨b,o+1,none⟩=some (.int .u8 (x1.toNat:Int)):=A0c ((Below.refl _ _).alloc (Nat.le_refl _) _) (aw 1 x1 (by rw[←hx1];exact A4v (by omega)))
       have hz2:(2:Int)<(l.length:Int):=by omega
       have c2:(wr.alloc (.cells #[.int .u8 (LO:Int),.int .u8 (HI:Int)] 238)).cell? ⟨b,o+2,none⟩=some (.int .u8 (x2.toNat:Int)):=A0c ((Below.refl _ _).alloc (Nat.le_refl _) _) (aw 2 x2 (by rw[←hx2];exact A4v (by omega)))
       have hz3:(3:Int)<(l.length:Int):=by omega
       have c3:(wr.alloc (.cells #[.int .u8 (LO:Int),.int .u8 (HI:Int)] 238)).cell? ⟨b,o+3,none⟩=some (.int .u8 (x3.toNat:Int)):=A0c ((Below.refl _ _).alloc (Nat.le_refl _) _) (aw 3 x3 (by rw[←hx3];exact A4v (by omega)))
       by_cases q1:x1.toNat<LO
       ·have cj:(x1.toNat:Int)<(LO:Int):=by omega
        go_big_quiet (fail)
        go_wp2
        go_meet
        exact⟨congrArg Value.bool (decide_eq_true (p:=l.length<4∨x1.toNat<LO∨HI<x1.toNat∨x2.toNat<128∨191<x2.toNat∨x3.toNat<128∨191<x3.toNat) (by omega)).symm,A0m (ag.alloc ag.size _) _⟩
       ·have cj:¬ ((x1.toNat:Int)<(LO:Int)):=by omega
        by_cases q2:HI<x1.toNat
        ·have cu:(HI:Int)<(x1.toNat:Int):=by omega
         go_big_quiet (fail)
         go_wp2
         go_meet
         exact⟨congrArg Value.bool (decide_eq_true (p:=l.length<4∨x1.toNat<LO∨HI<x1.toNat∨x2.toNat<128∨191<x2.toNat∨x3.toNat<128∨191<x3.toNat) (by omega)).symm,A0m (ag.alloc ag.size _) _⟩
        ·have cu:¬ ((HI:Int)<(x1.toNat:Int)):=by omega
         by_cases q3:x2.toNat<128
         ·have ew:(x2.toNat:Int)<128:=by omega
          go_big_quiet (fail)
          go_wp2
          go_meet
          exact⟨congrArg Value.bool (decide_eq_true (p:=l.length<4∨x1.toNat<LO∨HI<x1.toNat∨x2.toNat<128∨191<x2.toNat∨x3.toNat<128∨191<x3.toNat) (by omega)).symm,A0m (ag.alloc ag.size _) _⟩
         ·have ew:¬ ((x2.toNat:Int)<128):=by omega
          by_cases q4:191<x2.toNat
          ·have fc:(191:Int)<(x2.toNat:Int):=by omega
           go_big_quiet (fail)
           go_wp2
           go_meet
           exact⟨congrArg Value.bool (decide_eq_true (p:=l.length<4∨x1.toNat<LO∨HI<x1.toNat∨x2.toNat<128∨191<x2.toNat∨x3.toNat<128∨191<x3.toNat) (by omega)).symm,A0m (ag.alloc ag.size _) _⟩
          ·have fc:¬ ((191:Int)<(x2.toNat:Int)):=by omega
           by_cases q5:x3.toNat<128
           ·have iq:(x3.toNat:Int)<128:=by omega
            go_big_quiet (fail)
            go_wp2
            go_meet
            exact⟨congrArg Value.bool (decide_eq_true (p:=l.length<4∨x1.toNat<LO∨HI<x1.toNat∨x2.toNat<128∨191<x2.toNat∨x3.toNat<128∨191<x3.toNat) (by omega)).symm,A0m (ag.alloc ag.size _) _⟩
           ·have iq:¬ ((x3.toNat:Int)<128):=by omega
            by_cases q6:191<x3.toNat
            ·have ir:(191:Int)<(x3.toNat:Int):=by omega
             go_big_quiet (fail)
             go_wp2
             go_meet
             exact⟨congrArg Value.bool (decide_eq_true (p:=l.length<4∨x1.toNat<LO∨HI<x1.toNat∨x2.toNat<128∨191<x2.toNat∨x3.toNat<128∨191<x3.toNat) (by omega)).symm,A0m (ag.alloc ag.size _) _⟩
            ·have ir:¬ ((191:Int)<(x3.toNat:Int)):=by omega
             go_big_quiet (fail)
             go_wp2
             go_meet
             exact⟨congrArg Value.bool (decide_eq_false (p:=l.length<4∨x1.toNat<LO∨HI<x1.toNat∨x2.toNat<128∨191<x2.toNat∨x3.toNat<128∨191<x3.toNat) (by omega)).symm,A0m (ag.alloc ag.size _) _⟩
     case rest=>
      obtain⟨rfl,aj⟩:=hcut
      by_cases hb:l.length<4∨x1.toNat<LO∨HI<x1.toNat∨x2.toNat<128∨191<x2.toNat∨x3.toNat<128∨191<x3.toNat
      ·have br:decide (l.length<4∨x1.toNat<LO∨HI<x1.toNat∨x2.toNat<128∨191<x2.toNat∨x3.toNat<128∨191<x3.toNat)=true:=decide_eq_true hb
       rw[if_pos hb] at ac
       go_wp2
       all_goals (go_ret;exact⟨by first|rfl|rw[ac],aj⟩)
      ·have br:decide (l.length<4∨x1.toNat<LO∨HI<x1.toNat∨x2.toNat<128∨191<x2.toNat∨x3.toNat<128∨191<x3.toNat)=false:=decide_eq_false hb
       rw[if_neg hb] at ac
       have il:(4:Int)≤(l.length:Int):=by omega
       go_wp2
       all_goals
        go_roundg g'
        case measure=>omega
        case rel=>first|exact⟨aj,VRel.mk (List.length_drop ..) (hC.drop 4) ac.symm (by omega) (by omega)⟩|exact⟨aj,VRel.nil (l:=l.drop 4) (by rw[List.length_drop];omega) ac.symm (by omega)⟩
    ·as_aux_lemma=>
     have e2:¬ ((X:Int)%8=2):=by omega
     have e3:¬ ((X:Int)%8=3):=by omega
     have e4:¬ ((X:Int)%8=4):=by omega
     have ix:(((X:Int)%8)==2)=false:=by simp;omega
     have iy:(((X:Int)%8)==3)=false:=by simp;omega
     have iz:(((X:Int)%8)==4)=false:=by simp;omega
     simp only[Lib.checkN,s2,s3,s4,if_false] at ac
     go_wp2
     all_goals (go_ret;exact⟨by first|rfl|rw[ac],ag.alloc ag.size _⟩)
  ·have fd:¬ ((0:Int)<(l.length:Int)):=by omega
   have im:l = []:=List.eq_nil_of_length_eq_zero (by omega)
   rw[im,Lib.validD_nil] at hv
   subst hv
   go_wp2
   go_ret
   exact⟨rfl,ag⟩
def B7j (r:RI):Prop:=I64 r.number∧I64 r.how∧r.bits<18446744073709551616∧r.bytes.length*1≤reachBytes
def VOk {β:Type}(Q : β→Prop)(v:VI β):Prop:=I64 v.number∧(∀ n∈v.bits,n<18446744073709551616)∧v.bits.length*8≤reachBytes∧(∀ l∈v.bytes,l.length*1≤reachBytes)∧v.bytes.length*24≤reachBytes∧(∀ s∈v.subs,Q s)∧v.subs.length*48≤reachBytes
def BOk:(d:Nat)→BI d→Prop
 | 0=>fun _=>False
 | d+1=>fun b=>(∀ v∈BO.vals b,VOk (BOk d) v)∧(BO.vals b).length*80≤reachBytes∧(∀ r∈BO.unk b,B7j r)∧(BO.unk b).length*48≤reachBytes
end L
end Go.Proofs.YtgaoojpakjjdnaaGreatDoor
