import Derived.Test.YtgaoojpakjjdnaaGreatDoorX01
import Derived.Shelf.Unicode.DecodeSlow
import Derived.Deep.DeepMust
import Derived.Deep.CutBlock
import Derived.Deep.DeepCutAuto
import Derived.Deep.RegionLaw
set_option maxHeartbeats 32000000
set_option maxRecDepth 100000
namespace Go.Proofs.YtgaoojpakjjdnaaGreatDoor
namespace L
open Go.RowKit
theorem A0k {B:Nat}{a w:World}(h:Below B a w):∀ q,Below B a (w.drewN q)
 | 0=>h
 | q+1=>(A0k h q).drew
theorem A5e {l:List UInt8}{i:Nat}(h:i<l.length):l[i]?=some (l.getD i 0):=by
 rw[List.getD_eq_getElem?_getD,List.getElem?_eq_getElem h];rfl
theorem E1o:∀ X:Fin 256,bits .and .u8 ((X.val:Nat):Int) 7=((X.val%8:Nat):Int):=by decide
abbrev Tabs (w:World):Prop:=Lib.Utf8Tabs 0 1 w
theorem Tabs.below {w w':World}(h:Tabs w)(hb:Below w.heap.size w w'):Tabs w':=⟨fun c hc=>A0c hb (h.1 c hc),fun i hi=>⟨A0c hb (h.2 i hi).1,A0c hb (h.2 i hi).2⟩⟩
theorem C8f {w:World}{b o:Nat}{l:List UInt8}(h:l.length=0):YCells w b o l:=by
 rw[List.eq_nil_of_length_eq_zero h];intro i x hx;simp at hx
def WF (base:Nat)(l:List UInt8)(o:Nat):Nat:=Lib.leNat ((l.drop (o-base)).take 8)
theorem C4l (base:Nat)(l:List UInt8)(o:Nat):WF base l o<18446744073709551616:=C4f _
theorem B4i {base:Nat}{l:List UInt8}{o:Nat}(h:o-base+8≤l.length)(hz:WF base l o&&& 9259542123273814144=0):∀ y∈(l.drop (o-base)).take 8,y.toNat<128:=(C0b (by rw[List.length_drop];omega)).1 hz
theorem C7p {w:World}{b base:Nat}{l:List UInt8}(h:YCells w b base l)(q o n:Nat)(h1:base≤o)(h2:o-base+8≤l.length)(h3:8≤n)(h4:n≤9223372036854775807) :
  Calls Tryz.prog 180 #[.slice (some ⟨b,o,none⟩) n n] (w.drewN q) fun e w'=>e = .returned (.int .u64 ((WF base l o:Nat):Int))∧∃ q',w'=(w.drewN q).drewN q':=by
 have hd:=h.drop (o-base)
 rw[show base+(o-base)=o by omega] at hd
 exact C4e (hd.below (A0k (Below.refl _ _) q)) (by rw[List.length_drop];omega) h3 h4
def VRel (w:World)(b:Nat)(ANS:Bool)(g G:Nat)(s0:Value):Prop:=∃ (o:Nat) (l:List UInt8),s0 = .slice (some ⟨b,o,none⟩) l.length l.length∧YCells w b o l∧Lib.validD l=ANS∧l.length<g∧l.length≤G
theorem VRel.mk {w:World}{b o g G n:Nat}{ac:Bool}{l:List UInt8}(hn:l.length=n)(hc:YCells w b o l)(hv:Lib.validD l=ac)(hg:n<g)(hm:n≤G):VRel w b ac g G (.slice (some ⟨b,o,none⟩) n n):=⟨o,l,by rw[hn],hc,hv,by omega,by omega⟩
theorem VRel.nil {w:World}{b o g G:Nat}{ac:Bool}{l:List UInt8}(hn:l.length=0)(hv:Lib.validD l=ac)(hg:0<g):VRel w b ac g G (.slice (some ⟨b,o,none⟩) 0 0):=⟨o,l,by rw[hn],C8f hn,hv,by omega,by omega⟩
theorem C7h {w:World}{b o:Nat}{l0:List UInt8}{n cap:Nat}(hc:YCells w b o l0)(hn:n=l0.length)(bv:n≤cap)(ie:cap≤9223372036854775807)(hT:Tabs w) :
  Calls Tryz.prog 104 #[.slice (some ⟨b,o,none⟩) n cap] w fun e w'=>e = .returned (.bool (Lib.validD l0))∧Below w.heap.size w w':=by
 obtain⟨ak,a8⟩:∃ ak,Hid (ak=Lib.validD l0):=⟨_,rfl⟩
 rw[←a8.out]
 have ei:n≤9223372036854775807:=by omega
 have hnz:(n:Int)≤(cap:Int):=by omega
 have HN:Hid (n=l0.length):=hn
 clear hn
 go_enter Tryz.func104,Tryz.ntmps104
 go_wp2
 go_loopg [0] (n+1) (fun gk s0 wx=>Below w.heap.size w wx∧VRel w b ak gk 9223372036854775807 s0)
 case atStart=>exact⟨Below.refl _ _,VRel.mk HN.out.symm hc a8.out.symm (by omega) ei⟩
 case round=>
  obtain⟨ag,o,l,rfl,hC,hv,hg,ij⟩:=hrel
  clear a8 HN hc hnz bv
  have bp:=hT.below ag
  have aw:YCells wr b o l:=hC.below ag
  by_cases h0:0<l.length
  ·obtain⟨g',rfl⟩:∃ g',gk=g'+1:=⟨gk-1,by omega⟩
   have fh:(0:Int)<(l.length:Int):=by omega
   have g8:(1:Int)≤(l.length:Int):=by omega
   obtain⟨x0,hx0⟩:∃ x0,l.getD 0 0=x0:=⟨_,rfl⟩
   have cg:x0.toNat<256:=x0.toNat_lt
   have c0:wr.cell? ⟨b,o,none⟩=some (.int .u8 (x0.toNat:Int)):=aw 0 x0 (by rw[←hx0];exact A5e h0)
   by_cases hasc:x0.toNat<128
   ·as_aux_lemma=>
    have bt:(x0.toNat:Int)<128:=by omega
    have a1:∀ y∈l.take 1,y.toNat<128:=by
     intro y hy
     have:l.take 1 = [x0]:=by
      match l,h0,hx0 with
      | z::r,_,e=>simp at e;simp[e]
     rw[this] at hy;simp at hy;rw[hy];exact hasc
    have v1:Lib.validD (l.drop 1)=ak:=by rw[←Lib.validD_ascii 1 l a1];exact hv
    obtain⟨l1,dh⟩:∃ l1,l.drop 1=l1:=⟨_,rfl⟩
    have C1:YCells w b (o+1) l1:=dh▸hC.drop 1
    obtain⟨m,hm⟩:∃ m,l.length=m+1:=⟨l.length-1,by omega⟩
    have M1:l1.length=m:=by rw[←dh,List.length_drop];omega
    rw[dh] at v1
    clear bp hT hv a1 hx0 dh aw hC
    rw[hm] at fh g8 hg ij ⊢
    clear hm h0
    by_cases c8:8<m
    ·as_aux_lemma=>
     obtain⟨k,rfl⟩:∃ k,m=k+8:=⟨m-8,by omega⟩
     have ji:¬ k=0:=by omega
     have gw:(8:Int)<((k+8:Nat):Int):=by omega
     obtain⟨A1,dm⟩:∃ A1,Hid (A1=Lib.leNat (l1.take 8)):=⟨_,rfl⟩
     have iu:A1<18446744073709551616:=by rw[dm.out];exact C4f l1
     have dz:Calls Tryz.prog 180 #[.slice (some ⟨b,o+1,none⟩) (k+8) (k+8)] wr fun e w'=>e = .returned (.int .u64 (A1:Int))∧∃ q,w'=wr.drewN q:=by rw[dm.out];exact C4e (C1.below ag) (by omega) (by omega) (by omega)
     have dl:A1&&& 9259542123273814144=0→∀ y∈l1.take 8,y.toNat<128:=by rw[dm.out];exact(C0b (by omega)).1
     have br:bits .and .u64 (A1:Int) 9259542123273814144=((A1&&& 9259542123273814144:Nat):Int):=u64_and_nat A1 9259542123273814144 iu (by omega)
     obtain⟨Z1,ft⟩:∃ Z1,A1&&& 9259542123273814144=Z1:=⟨_,rfl⟩
     rw[ft] at br dl
     clear ft
     by_cases hz1:Z1=0
     ·have eo:((Z1:Int)==0)=true:=by simp[hz1]
      have v2:Lib.validD (l1.drop 8)=ak:=by rw[←Lib.validD_ascii 8 l1 (dl hz1)];exact v1
      obtain⟨l2,hl2⟩:∃ l2,l1.drop 8=l2:=⟨_,rfl⟩
      have C2:YCells w b (o+1+8) l2:=hl2▸C1.drop 8
      have M2:l2.length=k:=by rw[←hl2,List.length_drop];omega
      rw[hl2] at v2
      clear hz1 dl v1 C1 M1 hl2
      go_wp2_with (go_at_call 180;refine dz.mono ?_;rintro e W1 ⟨rfl,q1,rfl⟩)
      clear dz
      have hb1:Below w.heap.size w (wr.drewN q1):=A0k ag q1
      generalize wr.drewN q1=wq at hb1 ⊢
      clear ag
      by_cases c16:16<k
      ·obtain⟨j,rfl⟩:∃ j,k=j+16:=⟨k-16,by omega⟩
       have jh:¬ j=0:=by omega
       have bg:(16:Int)<(j:Int)+16:=by omega
       have dx:decide ((16:Int)<(j:Int)+16)=true:=decide_eq_true bg
       have jl:(8:Int)≤(j:Int)+16:=by omega
       have cA:=C7p (C2.below hb1)
       obtain⟨f,Hf⟩:∃ f,Hid (f=WF (o+1+8) l2):=⟨_,rfl⟩
       rw[←Hf.out] at cA
       obtain⟨A2,dn⟩:∃ A2,Hid (A2=f (o+1+8)):=⟨_,rfl⟩
       obtain⟨A3,dp⟩:∃ A3,Hid (A3=f (o+1+8+8)):=⟨_,rfl⟩
       have jb:f (o+1+8)=A2:=dn.out.symm
       have jc:f (o+1+8+8)=A3:=dp.out.symm
       have gh:A2<18446744073709551616:=by rw[dn.out,Hf.out];exact C4l _ _ _
       have gi:A3<18446744073709551616:=by rw[dp.out,Hf.out];exact C4l _ _ _
       have fy:A2&&& 9259542123273814144=0→∀ y∈l2.take 8,y.toNat<128:=fun hz=>by
        rw[dn.out,Hf.out] at hz
        have:=B4i (by omega) hz
        rwa [Nat.sub_self,List.drop_zero] at this
       have fz:A3&&& 9259542123273814144=0→∀ y∈(l2.drop 8).take 8,y.toNat<128:=fun hz=>by
        rw[dp.out,Hf.out] at hz
        have:=B4i (by omega) hz
        rwa [Nat.add_sub_cancel_left] at this
       have ej:bits .or .u64 (A2:Int) (A3:Int)=((A2||| A3:Nat):Int):=u64_or_nat A2 A3 gh gi
       have cj:A2||| A3<18446744073709551616:=Nat.or_lt_two_pow (n:=64) gh gi
       have au:bits .and .u64 ((A2||| A3:Nat):Int) 9259542123273814144=(((A2||| A3)&&& 9259542123273814144:Nat):Int):=u64_and_nat _ 9259542123273814144 cj (by omega)
       have k2:(A2||| A3)&&& 9259542123273814144=0→∀ y∈l2.take 16,y.toNat<128:=fun d9=>by
        obtain⟨e1,e2⟩:=(Lib.or_mask A2 A3 _).1 d9
        exact B1p (a:=8) (c:=8) (fy e1) (fz e2)
       obtain⟨O2,fo⟩:∃ O2,A2||| A3=O2:=⟨_,rfl⟩
       rw[fo] at ej au k2
       obtain⟨Z2,fu⟩:∃ Z2,O2&&& 9259542123273814144=Z2:=⟨_,rfl⟩
       rw[fu] at au k2
       clear fy fz cj fo fu
       by_cases hz2:Z2=0
       ·have et:((Z2:Int)==0)=true:=by simp[hz2]
        have v3:Lib.validD (l2.drop 16)=ak:=by rw[←Lib.validD_ascii 16 l2 (k2 hz2)];exact v2
        obtain⟨l3,di⟩:∃ l3,l2.drop 16=l3:=⟨_,rfl⟩
        have C3:YCells w b (o+1+8+16) l3:=di▸C2.drop 16
        have M3:l3.length=j:=by rw[←di,List.length_drop];omega
        rw[di] at v3
        clear k2 hz2 v2 C2 di
        go_big_quiet ((go_at_call 180;refine Calls.quiet_of (cA _ _ _ (by omega) (by omega) (by omega) (by omega))))
        have hb2:Below w.heap.size w (wq.drewN nq):=A0k hb1 nq
        generalize wq.drewN nq=wq2 at hb2 ⊢
        clear cA hb1
        go_wp2
        go_loopg [0] (j+1) (fun g2 s0 wx=>Below w.heap.size w wx∧VRel w b ak g2 j s0)
        case atStart=>exact⟨hb2,VRel.mk M3 C3 v3 (by omega) (by omega)⟩
        case round=>
         obtain⟨dg,o3,u,rfl,Cu,vu,ii,ir⟩:=hrel
         clear hb2 C3 v3 M3
         by_cases c32:32<u.length
         ·obtain⟨g3,rfl⟩:∃ g3,gk=g3+1:=⟨gk-1,by omega⟩
          obtain⟨v,bw⟩:∃ v,u.length=v+32:=⟨u.length-32,by omega⟩
          have hv0:¬ v=0:=by omega
          rw[bw] at ii ir ⊢
          have bh:(32:Int)<(v:Int)+32:=by omega
          have dy:decide ((32:Int)<(v:Int)+32)=true:=decide_eq_true bh
          have jk:(8:Int)≤(v:Int)+32:=by omega
          have iy:(16:Int)≤(v:Int)+32:=by omega
          have iz:(24:Int)≤(v:Int)+32:=by omega
          have cB:=C7p (Cu.below dg)
          obtain⟨f,Hf⟩:∃ f,Hid (f=WF o3 u):=⟨_,rfl⟩
          rw[←Hf.out] at cB
          obtain⟨B0,dr⟩:∃ B0,Hid (B0=f (o3)):=⟨_,rfl⟩
          have jd:f (o3)=B0:=dr.out.symm
          have gj:B0<18446744073709551616:=by rw[dr.out,Hf.out];exact C4l _ _ _
          have f6:B0&&& 9259542123273814144=0→∀ y∈(u).take 8,y.toNat<128:=fun hz=>by
           rw[dr.out,Hf.out] at hz
           have:=B4i (by omega) hz
           rwa [Nat.sub_self,List.drop_zero] at this
          obtain⟨B1,dt⟩:∃ B1,Hid (B1=f (o3+8)):=⟨_,rfl⟩
          have je:f (o3+8)=B1:=dt.out.symm
          have gl:B1<18446744073709551616:=by rw[dt.out,Hf.out];exact C4l _ _ _
          have f9:B1&&& 9259542123273814144=0→∀ y∈(u.drop 8).take 8,y.toNat<128:=fun hz=>by
           rw[dt.out,Hf.out] at hz
           have:=B4i (by omega) hz
           rwa [Nat.add_sub_cancel_left] at this
          obtain⟨B2,dv⟩:∃ B2,Hid (B2=f (o3+16)):=⟨_,rfl⟩
          have jf:f (o3+16)=B2:=dv.out.symm
          have gp:B2<18446744073709551616:=by rw[dv.out,Hf.out];exact C4l _ _ _
          have gc:B2&&& 9259542123273814144=0→∀ y∈(u.drop 16).take 8,y.toNat<128:=fun hz=>by
           rw[dv.out,Hf.out] at hz
           have:=B4i (by omega) hz
           rwa [Nat.add_sub_cancel_left] at this
          obtain⟨B3,dw⟩:∃ B3,Hid (B3=f (o3+24)):=⟨_,rfl⟩
          have jg:f (o3+24)=B3:=dw.out.symm
          have gq:B3<18446744073709551616:=by rw[dw.out,Hf.out];exact C4l _ _ _
          have gg:B3&&& 9259542123273814144=0→∀ y∈(u.drop 24).take 8,y.toNat<128:=fun hz=>by
           rw[dw.out,Hf.out] at hz
           have:=B4i (by omega) hz
           rwa [Nat.add_sub_cancel_left] at this
          have ik:bits .or .u64 (B0:Int) (B1:Int)=((B0||| B1:Nat):Int):=u64_or_nat B0 B1 gj gl
          have il:bits .or .u64 (B2:Int) (B3:Int)=((B2||| B3:Nat):Int):=u64_or_nat B2 B3 gp gq
          have ew:B0||| B1<18446744073709551616:=Nat.or_lt_two_pow (n:=64) gj gl
          have fc:B2||| B3<18446744073709551616:=Nat.or_lt_two_pow (n:=64) gp gq
          have fx:bits .or .u64 ((B0||| B1:Nat):Int) ((B2||| B3:Nat):Int)=(((B0||| B1)||| (B2||| B3):Nat):Int):=u64_or_nat _ _ ew fc
          have gu:(B0||| B1)||| (B2||| B3)<18446744073709551616:=Nat.or_lt_two_pow (n:=64) ew fc
          have ah:bits .and .u64 (((B0||| B1)||| (B2||| B3):Nat):Int) 9259542123273814144=((((B0||| B1)||| (B2||| B3))&&& 9259542123273814144:Nat):Int):=u64_and_nat _ 9259542123273814144 gu (by omega)
          have k3:((B0||| B1)||| (B2||| B3))&&& 9259542123273814144=0→∀ y∈u.take 32,y.toNat<128:=fun d9=>by
           obtain⟨gy,gz⟩:=(Lib.or_mask _ _ _).1 d9
           obtain⟨e0,e1⟩:=(Lib.or_mask _ _ _).1 gy
           obtain⟨e2,e3⟩:=(Lib.or_mask _ _ _).1 gz
           exact B1p (a:=24) (c:=8) (B1p (a:=16) (c:=8) (B1p (a:=8) (c:=8) (f6 e0) (f9 e1)) (gc e2)) (gg e3)
          obtain⟨P1,ee⟩:∃ P1,B0||| B1=P1:=⟨_,rfl⟩
          obtain⟨P2,eh⟩:∃ P2,B2||| B3=P2:=⟨_,rfl⟩
          rw[ee,eh] at fx ah k3
          rw[ee] at ik
          rw[eh] at il
          obtain⟨P3,fq⟩:∃ P3,P1||| P2=P3:=⟨_,rfl⟩
          rw[fq] at fx ah k3
          obtain⟨Z3,fw⟩:∃ Z3,P3&&& 9259542123273814144=Z3:=⟨_,rfl⟩
          rw[fw] at ah k3
          clear f6 f9 gc gg ew fc gu ee eh fq fw
          by_cases hz3:Z3=0
          ·have eu:((Z3:Int)==0)=true:=by simp[hz3]
           have v4:Lib.validD (u.drop 32)=ak:=by rw[←Lib.validD_ascii 32 u (k3 hz3)];exact vu
           have M4:(u.drop 32).length=v:=by rw[List.length_drop];omega
           clear k3 hz3
           go_wp2_with fail
           go_big_quiet ((go_at_call 180;refine Calls.quiet_of (cB _ _ _ (by omega) (by omega) (by omega) (by omega))))
           go_wp2
           go_roundg g3
           case measure=>omega
           case rel=>exact⟨A0k dg nq,VRel.mk M4 (Cu.drop 32) v4 (by omega) (by omega)⟩
          ·have eu:((Z3:Int)==0)=false:=by simp;omega
           clear k3 hz3
           go_wp2_with fail
           go_big_quiet ((go_at_call 180;refine Calls.quiet_of (cB _ _ _ (by omega) (by omega) (by omega) (by omega))))
           go_wp2
           go_roundg g'
           case measure=>omega
           case rel=>exact⟨A0k dg nq,VRel.mk bw Cu vu (by omega) (by omega)⟩
         ·have bh:¬ ((32:Int)<(u.length:Int)):=by omega
          have dy:decide ((32:Int)<(u.length:Int))=false:=decide_eq_false bh
          go_wp2_with fail
          go_big_quiet (fail)
          go_wp2
          go_roundg g'
          case measure=>omega
          case rel=>exact⟨A0k dg nq,VRel.mk rfl Cu vu (by omega) (by omega)⟩
       ·have et:((Z2:Int)==0)=false:=by simp;omega
        clear k2 hz2
        go_big_quiet ((go_at_call 180;refine Calls.quiet_of (cA _ _ _ (by omega) (by omega) (by omega) (by omega))))
        go_wp2
        go_roundg g'
        case measure=>omega
        case rel=>exact⟨A0k hb1 nq,VRel.mk M2 C2 v2 (by omega) (by omega)⟩
      ·have bg:¬ ((16:Int)<(k:Int)):=by omega
       have dx:decide ((16:Int)<(k:Int))=false:=decide_eq_false bg
       go_big_quiet (fail)
       go_wp2
       go_roundg g'
       case measure=>omega
       case rel=>exact⟨A0k hb1 nq,VRel.mk M2 C2 v2 (by omega) (by omega)⟩
     ·have eo:((Z1:Int)==0)=false:=by simp;omega
      clear hz1 dl
      go_wp2_with (go_at_call 180;refine dz.mono ?_;rintro e W1 ⟨rfl,q1,rfl⟩)
      go_roundg g'
      case measure=>omega
      case rel=>exact⟨A0k ag q1,VRel.mk M1 C1 v1 (by omega) (by omega)⟩
    ·have gw:¬ ((8:Int)<(m:Int)):=by omega
     go_wp2
     all_goals
      go_roundg g'
      case measure=>omega
      case rel=>first|exact⟨ag,VRel.mk M1 C1 v1 (by omega) (by omega)⟩|exact⟨ag,VRel.nil (l:=l1) (by omega) v1 (by omega)⟩
   ·have ig:128≤x0.toNat:=by omega
    have bt:¬ ((x0.toNat:Int)<128):=by omega
    obtain⟨x1,hx1⟩:∃ x1,l.getD 1 0=x1:=⟨_,rfl⟩
    obtain⟨x2,hx2⟩:∃ x2,l.getD 2 0=x2:=⟨_,rfl⟩
    obtain⟨x3,hx3⟩:∃ x3,l.getD 3 0=x3:=⟨_,rfl⟩
    have l1:=x1.toNat_lt;have l2:=x2.toNat_lt;have l3:=x3.toNat_lt
    have hne:l≠[]:=fun h=>by rw[h] at h0;simp at h0
    have ac:=Lib.validD_lead l hne (by rw[hx0];exact ig)
    rw[hx0,hx1,hx2,hx3,hv] at ac
    have hc0:=bp.1 x0.toNat cg
    have bq:Lib.firstT x0.toNat<256:=by rcases Lib.firstT_cases x0.toNat with h|h|h|h|h|h|h|h|h <;> omega
    obtain⟨X,hX⟩:∃ X,Lib.firstT x0.toNat=X:=⟨_,rfl⟩
    rw[hX] at hc0 bq ac
    have h7:=E1o ⟨X,bq⟩
    simp only at h7
    have ha0:wr.cell? ⟨1,X / 16*2,none⟩=some (.int .u8 (Lib.accLo (X / 16))):=by rw[Nat.mul_comm];exact(bp.2 (X / 16) (by omega)).1
    have ha1:wr.cell? ⟨1,X / 16*2+1,none⟩=some (.int .u8 (Lib.accHi (X / 16))):=by rw[Nat.mul_comm];exact(bp.2 (X / 16) (by omega)).2
    obtain⟨LO,fk⟩:∃ LO,Lib.accLo (X / 16)=LO:=⟨_,rfl⟩
    obtain⟨HI,fj⟩:∃ HI,Lib.accHi (X / 16)=HI:=⟨_,rfl⟩
    rw[fk] at ha0 ac
    rw[fj] at ha1 ac
    obtain⟨SZ,g9⟩:∃ SZ,X%8=SZ:=⟨_,rfl⟩
    rw[g9] at ac
    clear bp hT hX hv fk fj hne
    by_cases s2:SZ=2
    ·as_aux_lemma=>
     subst s2
     have bk:(X:Int)%8=2:=by omega
     simp only[Lib.checkN,Nat.reduceEqDiff,if_true,if_false] at ac
     go_upto_region 18 with fail
     go_cut [103] from 85 to 103 (fun c wx=>c = .bool (decide (l.length<2∨x1.toNat<LO∨HI<x1.toNat))∧Below w.heap.size w wx)
     case first=>
      by_cases q0:l.length<2
      ·have cu:(l.length:Int)<2:=by omega
       go_big_quiet (fail)
       go_wp2
       go_meet
       exact⟨congrArg Value.bool (decide_eq_true (p:=l.length<2∨x1.toNat<LO∨HI<x1.toNat) (by omega)).symm,A0k (ag.alloc ag.size _) _⟩
      ·have cu:¬ ((l.length:Int)<2):=by omega
       have hz1:(1:Int)<(l.length:Int):=by omega
       have c1:(wr.alloc (.cells #[.int .u8 (LO:Int),.int .u8 (HI:Int)] 238)).cell? ⟨b,o+1,none⟩=some (.int .u8 (x1.toNat:Int)):=A0c ((Below.refl _ _).alloc (Nat.le_refl _) _) (aw 1 x1 (by rw[←hx1];exact A5e (by omega)))
       by_cases q1:x1.toNat<LO
       ·have cw:(x1.toNat:Int)<(LO:Int):=by omega
        go_big_quiet (fail)
        go_wp2
        go_meet
        exact⟨congrArg Value.bool (decide_eq_true (p:=l.length<2∨x1.toNat<LO∨HI<x1.toNat) (by omega)).symm,A0k (ag.alloc ag.size _) _⟩
       ·have cw:¬ ((x1.toNat:Int)<(LO:Int)):=by omega
        by_cases q2:HI<x1.toNat
        ·have df:(HI:Int)<(x1.toNat:Int):=by omega
         go_big_quiet (fail)
         go_wp2
         go_meet
         exact⟨congrArg Value.bool (decide_eq_true (p:=l.length<2∨x1.toNat<LO∨HI<x1.toNat) (by omega)).symm,A0k (ag.alloc ag.size _) _⟩
        ·have df:¬ ((HI:Int)<(x1.toNat:Int)):=by omega
         go_big_quiet (fail)
         go_wp2
         go_meet
         exact⟨congrArg Value.bool (decide_eq_false (p:=l.length<2∨x1.toNat<LO∨HI<x1.toNat) (by omega)).symm,A0k (ag.alloc ag.size _) _⟩
     case rest=>
      obtain⟨rfl,aj⟩:=hcut
      by_cases hb:l.length<2∨x1.toNat<LO∨HI<x1.toNat
      ·have bu:decide (l.length<2∨x1.toNat<LO∨HI<x1.toNat)=true:=decide_eq_true hb
       rw[if_pos hb] at ac
       go_wp2
       all_goals (go_ret;exact⟨by first|rfl|rw[ac],aj⟩)
      ·have bu:decide (l.length<2∨x1.toNat<LO∨HI<x1.toNat)=false:=decide_eq_false hb
       rw[if_neg hb] at ac
       have im:(2:Int)≤(l.length:Int):=by omega
       go_wp2
       all_goals
        go_roundg g'
        case measure=>omega
        case rel=>first|exact⟨aj,VRel.mk (List.length_drop ..) (hC.drop 2) ac.symm (by omega) (by omega)⟩|exact⟨aj,VRel.nil (l:=l.drop 2) (by rw[List.length_drop];omega) ac.symm (by omega)⟩
    by_cases s3:SZ=3
    ·as_aux_lemma=>
     subst s3
     have bk:(X:Int)%8=3:=by omega
     simp only[Lib.checkN,Nat.reduceEqDiff,if_true,if_false] at ac
     go_upto_region 22 with fail
     go_cut [138] from 108 to 138 (fun c wx=>c = .bool (decide (l.length<3∨x1.toNat<LO∨HI<x1.toNat∨x2.toNat<128∨191<x2.toNat))∧Below w.heap.size w wx)
     case first=>
      by_cases q0:l.length<3
      ·have cu:(l.length:Int)<3:=by omega
       go_big_quiet (fail)
       go_wp2
       go_meet
       exact⟨congrArg Value.bool (decide_eq_true (p:=l.length<3∨x1.toNat<LO∨HI<x1.toNat∨x2.toNat<128∨191<x2.toNat) (by omega)).symm,A0k (ag.alloc ag.size _) _⟩
      ·have cu:¬ ((l.length:Int)<3):=by omega
       have hz1:(1:Int)<(l.length:Int):=by omega
       have c1:(wr.alloc (.cells #[.int .u8 (LO:Int),.int .u8 (HI:Int)] 238)).cell? ⟨b,o+1,none⟩=some (.int .u8 (x1.toNat:Int)):=A0c ((Below.refl _ _).alloc (Nat.le_refl _) _) (aw 1 x1 (by rw[←hx1];exact A5e (by omega)))
       have hz2:(2:Int)<(l.length:Int):=by omega
       have c2:(wr.alloc (.cells #[.int .u8 (LO:Int),.int .u8 (HI:Int)] 238)).cell? ⟨b,o+2,none⟩=some (.int .u8 (x2.toNat:Int)):=A0c ((Below.refl _ _).alloc (Nat.le_refl _) _) (aw 2 x2 (by rw[←hx2];exact A5e (by omega)))
       by_cases q1:x1.toNat<LO
       ·have cw:(x1.toNat:Int)<(LO:Int):=by omega
        go_big_quiet (fail)
        go_wp2
        go_meet
        exact⟨congrArg Value.bool (decide_eq_true (p:=l.length<3∨x1.toNat<LO∨HI<x1.toNat∨x2.toNat<128∨191<x2.toNat) (by omega)).symm,A0k (ag.alloc ag.size _) _⟩
       ·have cw:¬ ((x1.toNat:Int)<(LO:Int)):=by omega
        by_cases q2:HI<x1.toNat
        ·have df:(HI:Int)<(x1.toNat:Int):=by omega
         go_big_quiet (fail)
         go_wp2
         go_meet
         exact⟨congrArg Value.bool (decide_eq_true (p:=l.length<3∨x1.toNat<LO∨HI<x1.toNat∨x2.toNat<128∨191<x2.toNat) (by omega)).symm,A0k (ag.alloc ag.size _) _⟩
        ·have df:¬ ((HI:Int)<(x1.toNat:Int)):=by omega
         by_cases q3:x2.toNat<128
         ·have fd:(x2.toNat:Int)<128:=by omega
          go_big_quiet (fail)
          go_wp2
          go_meet
          exact⟨congrArg Value.bool (decide_eq_true (p:=l.length<3∨x1.toNat<LO∨HI<x1.toNat∨x2.toNat<128∨191<x2.toNat) (by omega)).symm,A0k (ag.alloc ag.size _) _⟩
         ·have fd:¬ ((x2.toNat:Int)<128):=by omega
          by_cases q4:191<x2.toNat
          ·have fe:(191:Int)<(x2.toNat:Int):=by omega
           go_big_quiet (fail)
           go_wp2
           go_meet
           exact⟨congrArg Value.bool (decide_eq_true (p:=l.length<3∨x1.toNat<LO∨HI<x1.toNat∨x2.toNat<128∨191<x2.toNat) (by omega)).symm,A0k (ag.alloc ag.size _) _⟩
          ·have fe:¬ ((191:Int)<(x2.toNat:Int)):=by omega
           go_big_quiet (fail)
           go_wp2
           go_meet
           exact⟨congrArg Value.bool (decide_eq_false (p:=l.length<3∨x1.toNat<LO∨HI<x1.toNat∨x2.toNat<128∨191<x2.toNat) (by omega)).symm,A0k (ag.alloc ag.size _) _⟩
     case rest=>
      obtain⟨rfl,aj⟩:=hcut
      by_cases hb:l.length<3∨x1.toNat<LO∨HI<x1.toNat∨x2.toNat<128∨191<x2.toNat
      ·have bu:decide (l.length<3∨x1.toNat<LO∨HI<x1.toNat∨x2.toNat<128∨191<x2.toNat)=true:=decide_eq_true hb
       rw[if_pos hb] at ac
       go_wp2
       all_goals (go_ret;exact⟨by first|rfl|rw[ac],aj⟩)
      ·have bu:decide (l.length<3∨x1.toNat<LO∨HI<x1.toNat∨x2.toNat<128∨191<x2.toNat)=false:=decide_eq_false hb
       rw[if_neg hb] at ac
       have io:(3:Int)≤(l.length:Int):=by omega
       go_wp2
       all_goals
        go_roundg g'
        case measure=>omega
        case rel=>first|exact⟨aj,VRel.mk (List.length_drop ..) (hC.drop 3) ac.symm (by omega) (by omega)⟩|exact⟨aj,VRel.nil (l:=l.drop 3) (by rw[List.length_drop];omega) ac.symm (by omega)⟩
    by_cases s4:SZ=4
    ·as_aux_lemma=>
     subst s4
     have bk:(X:Int)%8=4:=by omega
     simp only[Lib.checkN,Nat.reduceEqDiff,if_true,if_false] at ac
     go_upto_region 26 with fail
     go_cut [185] from 143 to 185 (fun c wx=>c = .bool (decide (l.length<4∨x1.toNat<LO∨HI<x1.toNat∨x2.toNat<128∨191<x2.toNat∨x3.toNat<128∨191<x3.toNat))∧Below w.heap.size w wx)
     case first=>
      by_cases q0:l.length<4
      ·have cu:(l.length:Int)<4:=by omega
       go_big_quiet (fail)
       go_wp2
       go_meet
       exact⟨congrArg Value.bool (decide_eq_true (p:=l.length<4∨x1.toNat<LO∨HI<x1.toNat∨x2.toNat<128∨191<x2.toNat∨x3.toNat<128∨191<x3.toNat) (by omega)).symm,A0k (ag.alloc ag.size _) _⟩
      ·have cu:¬ ((l.length:Int)<4):=by omega
       have hz1:(1:Int)<(l.length:Int):=by omega
       have c1:(wr.alloc (.cells #[.int .u8 (LO:Int),.int .u8 (HI:Int)] 238)).cell? ⟨b,o+1,none⟩=some (.int .u8 (x1.toNat:Int)):=A0c ((Below.refl _ _).alloc (Nat.le_refl _) _) (aw 1 x1 (by rw[←hx1];exact A5e (by omega)))
       have hz2:(2:Int)<(l.length:Int):=by omega
       have c2:(wr.alloc (.cells #[.int .u8 (LO:Int),.int .u8 (HI:Int)] 238)).cell? ⟨b,o+2,none⟩=some (.int .u8 (x2.toNat:Int)):=A0c ((Below.refl _ _).alloc (Nat.le_refl _) _) (aw 2 x2 (by rw[←hx2];exact A5e (by omega)))
       have hz3:(3:Int)<(l.length:Int):=by omega
       have c3:(wr.alloc (.cells #[.int .u8 (LO:Int),.int .u8 (HI:Int)] 238)).cell? ⟨b,o+3,none⟩=some (.int .u8 (x3.toNat:Int)):=A0c ((Below.refl _ _).alloc (Nat.le_refl _) _) (aw 3 x3 (by rw[←hx3];exact A5e (by omega)))
       by_cases q1:x1.toNat<LO
       ·have cw:(x1.toNat:Int)<(LO:Int):=by omega
        go_big_quiet (fail)
        go_wp2
        go_meet
        exact⟨congrArg Value.bool (decide_eq_true (p:=l.length<4∨x1.toNat<LO∨HI<x1.toNat∨x2.toNat<128∨191<x2.toNat∨x3.toNat<128∨191<x3.toNat) (by omega)).symm,A0k (ag.alloc ag.size _) _⟩
       ·have cw:¬ ((x1.toNat:Int)<(LO:Int)):=by omega
        by_cases q2:HI<x1.toNat
        ·have df:(HI:Int)<(x1.toNat:Int):=by omega
         go_big_quiet (fail)
         go_wp2
         go_meet
         exact⟨congrArg Value.bool (decide_eq_true (p:=l.length<4∨x1.toNat<LO∨HI<x1.toNat∨x2.toNat<128∨191<x2.toNat∨x3.toNat<128∨191<x3.toNat) (by omega)).symm,A0k (ag.alloc ag.size _) _⟩
        ·have df:¬ ((HI:Int)<(x1.toNat:Int)):=by omega
         by_cases q3:x2.toNat<128
         ·have fd:(x2.toNat:Int)<128:=by omega
          go_big_quiet (fail)
          go_wp2
          go_meet
          exact⟨congrArg Value.bool (decide_eq_true (p:=l.length<4∨x1.toNat<LO∨HI<x1.toNat∨x2.toNat<128∨191<x2.toNat∨x3.toNat<128∨191<x3.toNat) (by omega)).symm,A0k (ag.alloc ag.size _) _⟩
         ·have fd:¬ ((x2.toNat:Int)<128):=by omega
          by_cases q4:191<x2.toNat
          ·have fe:(191:Int)<(x2.toNat:Int):=by omega
           go_big_quiet (fail)
           go_wp2
           go_meet
           exact⟨congrArg Value.bool (decide_eq_true (p:=l.length<4∨x1.toNat<LO∨HI<x1.toNat∨x2.toNat<128∨191<x2.toNat∨x3.toNat<128∨191<x3.toNat) (by omega)).symm,A0k (ag.alloc ag.size _) _⟩
          ·have fe:¬ ((191:Int)<(x2.toNat:Int)):=by omega
           by_cases q5:x3.toNat<128
           ·have iw:(x3.toNat:Int)<128:=by omega
            go_big_quiet (fail)
            go_wp2
            go_meet
            exact⟨congrArg Value.bool (decide_eq_true (p:=l.length<4∨x1.toNat<LO∨HI<x1.toNat∨x2.toNat<128∨191<x2.toNat∨x3.toNat<128∨191<x3.toNat) (by omega)).symm,A0k (ag.alloc ag.size _) _⟩
           ·have iw:¬ ((x3.toNat:Int)<128):=by omega
            by_cases q6:191<x3.toNat
            ·have ix:(191:Int)<(x3.toNat:Int):=by omega
             go_big_quiet (fail)
             go_wp2
             go_meet
             exact⟨congrArg Value.bool (decide_eq_true (p:=l.length<4∨x1.toNat<LO∨HI<x1.toNat∨x2.toNat<128∨191<x2.toNat∨x3.toNat<128∨191<x3.toNat) (by omega)).symm,A0k (ag.alloc ag.size _) _⟩
            ·have ix:¬ ((191:Int)<(x3.toNat:Int)):=by omega
             go_big_quiet (fail)
             go_wp2
             go_meet
             exact⟨congrArg Value.bool (decide_eq_false (p:=l.length<4∨x1.toNat<LO∨HI<x1.toNat∨x2.toNat<128∨191<x2.toNat∨x3.toNat<128∨191<x3.toNat) (by omega)).symm,A0k (ag.alloc ag.size _) _⟩
     case rest=>
      obtain⟨rfl,aj⟩:=hcut
      by_cases hb:l.length<4∨x1.toNat<LO∨HI<x1.toNat∨x2.toNat<128∨191<x2.toNat∨x3.toNat<128∨191<x3.toNat
      ·have bu:decide (l.length<4∨x1.toNat<LO∨HI<x1.toNat∨x2.toNat<128∨191<x2.toNat∨x3.toNat<128∨191<x3.toNat)=true:=decide_eq_true hb
       rw[if_pos hb] at ac
       go_wp2
       all_goals (go_ret;exact⟨by first|rfl|rw[ac],aj⟩)
      ·have bu:decide (l.length<4∨x1.toNat<LO∨HI<x1.toNat∨x2.toNat<128∨191<x2.toNat∨x3.toNat<128∨191<x3.toNat)=false:=decide_eq_false hb
       rw[if_neg hb] at ac
       have ip:(4:Int)≤(l.length:Int):=by omega
       go_wp2
       all_goals
        go_roundg g'
        case measure=>omega
        case rel=>first|exact⟨aj,VRel.mk (List.length_drop ..) (hC.drop 4) ac.symm (by omega) (by omega)⟩|exact⟨aj,VRel.nil (l:=l.drop 4) (by rw[List.length_drop];omega) ac.symm (by omega)⟩
    ·as_aux_lemma=>
     have e2:¬ ((X:Int)%8=2):=by omega
     have e3:¬ ((X:Int)%8=3):=by omega
     have e4:¬ ((X:Int)%8=4):=by omega
     have i6:(((X:Int)%8)==2)=false:=by simp;omega
     have i7:(((X:Int)%8)==3)=false:=by simp;omega
     have ja:(((X:Int)%8)==4)=false:=by simp;omega
     simp only[Lib.checkN,s2,s3,s4,if_false] at ac
     go_wp2
     all_goals (go_ret;exact⟨by first|rfl|rw[ac],ag.alloc ag.size _⟩)
  ·have fh:¬ ((0:Int)<(l.length:Int)):=by omega
   have iq:l = []:=List.eq_nil_of_length_eq_zero (by omega)
   rw[iq,Lib.validD_nil] at hv
   subst hv
   go_wp2
   go_ret
   exact⟨rfl,ag⟩
section
variable {α:Type}{w:World}
theorem EK.flat_get (E:EK α){m:List α}{i:Nat}{u:Value}(h:(E.flat m)[i]?=some u):∃ y,m[i / E.size]?=some y∧(E.enc y)[i%E.size]?=some u:=by
 have hi:i<(E.flat m).length:=(List.getElem?_eq_some_iff.1 h).1
 rw[E.flat_len] at hi
 have hk:i / E.size<m.length:=by rw[Nat.div_lt_iff_lt_mul E.pos];exact hi
 refine⟨m[i / E.size],List.getElem?_eq_getElem hk,?_⟩
 have:=E.flat_at m (i / E.size) (i%E.size) _ (List.getElem?_eq_getElem hk) (Nat.mod_lt _ E.pos)
 rw[←this,Nat.mul_comm,Nat.div_add_mod]
 exact h
theorem D2p {o:Oper}{a:Act}{K:Act→World→Prop}{Q:Exit→Act→World→Prop}(E:EK α)(s x:Operand)
  (ho:o.op = .call { callee:=.builtin .append,args:=#[s,x],argTypes:=#[E.slice,E.slice] })
  (base:Nat) (v:Value) (l m:List α) (hs:a.eval s=v) (hown:Row E w base v l) (ao:Option Addr) (n cap:Nat) (hx:a.eval x = .slice ao n cap) (hm:m.length=n) (hnil:ao=none→n=0∧cap=0)
  (hcell:∀ ad,ao=some ad→∀ k y,m[k]?=some y→∀ j u,(E.enc y)[j]?=some u→w.cell? (ad.add (k*E.size+j))=some u)
  (hby:1≤E.bytes) (hlen:(l.length+m.length)*E.bytes≤140737488355328) (hb:base≤w.heap.size)
  (h:∀ v' w',Row E w' base v' (l++m)→w.grownBy w' v.ownBlock→K (a.put o.dst v') w'):o.wp Tryz.prog a w K Q:=by
 obtain⟨i0,hi,hz0,hz1,hz2⟩:=info_parts E.info
 have h63:l.length+m.length≤maxLen:=by
  have:l.length+m.length≤(l.length+m.length)*E.bytes:=Nat.le_mul_of_pos_right _ hby
  unfold maxLen;omega
 cases ao with
 | none=>
  obtain⟨rfl,rfl⟩:=hnil rfl
  have ac:m = []:=List.eq_nil_of_length_eq_zero hm
  subst ac
  have hrun:=run_append_owned_none (P:=Tryz.prog) (w:=w) base E.slice o.type E.elem i0 E.size E.under hi v l.length (E.flat l) hown
  unfold Oper.wp
  simp[execOp,ho,resolve,invoke,builtin,hs,hx,hrun,Result.andThen]
  exact h v w (by rw[List.append_nil];exact hown) ⟨rfl,rfl,rfl,Nat.le_refl _,fun _ _ _=>rfl⟩
 | some ad=>
  refine wp_append_own w s x E.slice ho base E.elem i0 _ E.size E.bytes E.under hi hz0 hz1 hz2 E.zs E.pos v l.length _ hs hown ad n cap
   (E.flat m) hx (by rw[E.flat_len,hm]) ?_ ?_ (by rw[←hm];exact h63) (by rw[←hm];exact hlen) hb ?_
  ·intro j u hu
   obtain⟨y,h1,h2⟩:=E.flat_get hu
   have:=hcell ad rfl _ y h1 _ u h2
   rwa [Nat.mul_comm,Nat.div_add_mod] at this
  ·intro y hy
   simp only[EK.flat,List.mem_flatMap] at hy
   obtain⟨p,hp,hy⟩:=hy
   exact E.one p y hy
  ·intro v' w' h1 h2 _
   refine h v' w' ?_ h2
   show w'.ownsRow base E.elem E.size v' (l++m).length (E.flat (l++m))
   rw[List.length_append,E.flat_append,hm]
   exact h1
theorem A6k {ops:Array Oper}{o:Oper}{a:Act}{K:Act→World→Prop}{Q:Exit→Act→World→Prop}{X:Prop}(hgd:o.guard=none)(E:EK α)(s x:Operand)
  (ho:o.op = .call { callee:=.builtin .append,args:=#[s,x],argTypes:=#[E.slice,E.slice] })
  (base:Nat) (v:Value) (l m:List α) (hs:a.eval s=v) (hown:Row E w base v l) (ao:Option Addr) (n cap:Nat) (hx:a.eval x = .slice ao n cap) (hm:m.length=n) (hnil:ao=none→n=0∧cap=0)
  (hcell:∀ ad,ao=some ad→∀ k y,m[k]?=some y→∀ j u,(E.enc y)[j]?=some u→w.cell? (ad.add (k*E.size+j))=some u)
  (hby:1≤E.bytes) (hlen:(l.length+m.length)*E.bytes≤140737488355328) (hb:base≤w.heap.size)
  (h:∀ v' w',Row E w' base v' (l++m)→w.grownBy w' v.ownBlock→K (a.put o.dst v') w') :
  if Region.wanted o (yielded ops a.tmps)=true then Oper.wp Tryz.prog o a w K Q else X:=by
 have hw:Region.wanted o (yielded ops a.tmps)=true:=by simp[Region.wanted,hgd]
 rw[if_pos hw]
 exact D2p E s x ho base v l m hs hown ao n cap hx hm hnil hcell hby hlen hb h
theorem A1o {ops:Array Oper}{rest:List Oper}{o:Oper}{a:Act}{Q:Exit→Act→World→Prop}(hgd:o.guard=none)(E:EK α)(s x:Operand)
  (ho:o.op = .call { callee:=.builtin .append,args:=#[s,x],argTypes:=#[E.slice,E.slice] })
  (base:Nat) (v:Value) (l m:List α) (hs:a.eval s=v) (hown:Row E w base v l) (ao:Option Addr) (n cap:Nat) (hx:a.eval x = .slice ao n cap) (hm:m.length=n) (hnil:ao=none→n=0∧cap=0)
  (hcell:∀ ad,ao=some ad→∀ k y,m[k]?=some y→∀ j u,(E.enc y)[j]?=some u→w.cell? (ad.add (k*E.size+j))=some u)
  (hby:1≤E.bytes) (hlen:(l.length+m.length)*E.bytes≤140737488355328) (hb:base≤w.heap.size)
  (h:∀ v' w',Row E w' base v' (l++m)→w.grownBy w' v.ownBlock→wpList Tryz.prog ops Q rest (a.put o.dst v') w'):wpList Tryz.prog ops Q (o::rest) a w:=
 wpList_plain hgd fun _ hK=>D2p E s x ho base v l m hs hown ao n cap hx hm hnil hcell hby hlen hb fun v' w' h2 h3=>hK _ _ (h v' w' h2 h3)
end
theorem RdL.srcN {w:World}{ao:Option Addr}{n cap:Nat}{l:List Int}(h:RdL 1 NAt w (.slice ao n cap) l):l.length=n∧(ao=none→n=0∧cap=0)∧∀ ad,ao=some ad→∀ k y,l[k]?=some y→∀ j u,(ekN.enc y)[j]?=some u→w.cell? (ad.add (k*ekN.size+j))=some u:=by
 obtain⟨ac,n',cap',e,h1,_,_,h4,h5⟩:=h
 cases e
 refine⟨h1,h4,fun ad had k y hy j u hu=>?_⟩
 have hj:j=0:=by
  cases j with
  | zero=>rfl
  | succ j=>simp[ekN,D9u] at hu
 subst hj
 have hu:u = .int .i64 y:=by simpa [ekN,D9u] using hu.symm
 subst hu
 have:=h5 ad had k y hy
 simpa [NAt,ekN] using this
end L
end Go.Proofs.YtgaoojpakjjdnaaGreatDoor
