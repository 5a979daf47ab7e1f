import Derived.Test.YtelmjekjohbmjaaGreatDoorY02
import Derived.Shelf.Unicode.DecodeSlow
import Derived.Laws.BitsAllLaws
import Derived.Deep.LoopGhost
import Derived.Deep.DeepMust
import Derived.Deep.CutBlock
import Derived.Deep.DeepCutAuto
namespace Go.Proofs.YtelmjekjohbmjaaGreatDoor
namespace L
open Go.RowKit
theorem A0k {B:Nat}{a w:World}(h:Below B a w):∀ q,Below B a (w.drewN q)
 | 0=>h
 | q+1=>(A0k h q).drew
theorem A3f {l:List UInt8}{i:Nat}(h:i < l.length):l[i]?=some (l.getD i 0):=by
 rw[List.getD_eq_getElem?_getD,List.getElem?_eq_getElem h];rfl
set_option maxRecDepth 100000 in
theorem C2a:∀ X:Fin 256,bits .and .u8 ((X.val:Nat):Int) 7=((X.val%8:Nat):Int):=by decide
abbrev Tabs (w:World):Prop:=Lib.Utf8Tabs 0 1 w
theorem Tabs.below {w w':World}(h:Tabs w) (hb:Below w.heap.size w w'):Tabs w':=⟨fun c hc=>A0c hb (h.1 c hc),fun i hi=>⟨A0c hb (h.2 i hi).1,A0c hb (h.2 i hi).2⟩⟩
theorem B5j {w:World}{b o:Nat}{l:List UInt8}(h:l.length=0):YCells w b o l:=by
 rw[List.eq_nil_of_length_eq_zero h];intro i x hx;simp at hx
def WF (base:Nat) (l:List UInt8) (o:Nat):Nat:=Lib.leNat ((l.drop (o - base)).take 8)
theorem B2x (base:Nat) (l:List UInt8) (o:Nat):WF base l o < 18446744073709551616:=B2u _
theorem A8b {base:Nat}{l:List UInt8}{o:Nat}(h:o - base+8≤l.length) (hz:WF base l o&&& 9259542123273814144=0):∀ y∈(l.drop (o - base)).take 8,y.toNat < 128:=(B0u (by rw[List.length_drop];omega)).1 hz
theorem B5c {w:World}{b base:Nat}{l:List UInt8}(h:YCells w b base l) (q o n:Nat) (h1:base≤o) (h2:o - base+8≤l.length) (h3:8≤n) (h4:n≤9223372036854775807) :
  Calls Tryz.prog 150 #[.slice (some ⟨b,o,none⟩) n n] (w.drewN q) fun e w'=>e = .returned (.int .u64 ((WF base l o:Nat):Int))∧∃ q',w'=(w.drewN q).drewN q':=by
 have hd:=h.drop (o - base)
 rw[show base+(o - base)=o by omega] at hd
 exact B2t (hd.below (A0k (Below.refl _ _) q)) (by rw[List.length_drop];omega) h3 h4
def VRel (w:World) (b:Nat) (ANS:Bool) (g G:Nat) (s0:Value):Prop:=∃ (o:Nat) (l:List UInt8),s0 = .slice (some ⟨b,o,none⟩) l.length l.length∧YCells w b o l∧Lib.validD l=ANS∧l.length < g∧l.length≤G
theorem VRel.mk {w:World}{b o g G n:Nat}{ANS:Bool}{l:List UInt8}(hn:l.length=n) (hc:YCells w b o l) (hv:Lib.validD l=ANS) (hg:n < g) (hm:n≤G):VRel w b ANS g G (.slice (some ⟨b,o,none⟩) n n):=⟨o,l,by rw[hn],hc,hv,by omega,by omega⟩
theorem VRel.nil {w:World}{b o g G:Nat}{ANS:Bool}{l:List UInt8}(hn:l.length=0) (hv:Lib.validD l=ANS) (hg:0 < g):VRel w b ANS g G (.slice (some ⟨b,o,none⟩) 0 0):=⟨o,l,by rw[hn],B5j hn,hv,by omega,by omega⟩
set_option maxHeartbeats 16000000 in
set_option maxRecDepth 1000000 in
theorem B4v {w:World}{b o:Nat}{l0:List UInt8}{n cap:Nat}(hc:YCells w b o l0) (hn:n=l0.length) (hncap:n≤cap) (hcap:cap≤9223372036854775807) (hT:Tabs w) :
  Calls Tryz.prog 139 #[.slice (some ⟨b,o,none⟩) n cap] w fun e w'=>e = .returned (.bool (Lib.validD l0))∧Below w.heap.size w w':=by
 obtain⟨ANS,HANS⟩:∃ ANS,Hid (ANS=Lib.validD l0):=⟨_,rfl⟩
 rw[←HANS.out]
 have hn63:n≤9223372036854775807:=by omega
 have hnz:(n:Int)≤(cap:Int):=by omega
 have HN:Hid (n=l0.length):=hn
 clear hn
 go_enter Tryz.func139,Tryz.ntmps139
 go_wp2
 go_loopg [0] (n+1) (fun gk s0 wx=>Below w.heap.size w wx∧VRel w b ANS gk 9223372036854775807 s0)
 case atStart=>exact⟨Below.refl _ _,VRel.mk HN.out.symm hc HANS.out.symm (by omega) hn63⟩
 case round=>
  obtain⟨hbw,o,l,rfl,hC,hv,hg,hls⟩:=hrel
  clear HANS HN hc hnz hncap
  have hTr:=hT.below hbw
  have hcl:YCells wr b o l:=hC.below hbw
  by_cases h0:0 < l.length
  ·obtain⟨g',rfl⟩:∃ g',gk=g'+1:=⟨gk - 1,by omega⟩
   have h0z:(0:Int) < (l.length:Int):=by omega
   have h1z:(1:Int)≤(l.length:Int):=by omega
   obtain⟨x0,hx0⟩:∃ x0,l.getD 0 0=x0:=⟨_,rfl⟩
   have hx0lt:x0.toNat < 256:=x0.toNat_lt
   have c0:wr.cell? ⟨b,o,none⟩=some (.int .u8 (x0.toNat:Int)):=hcl 0 x0 (by rw[←hx0];exact A3f h0)
   by_cases hasc:x0.toNat < 128
   ·as_aux_lemma=>
    have hascz:(x0.toNat:Int) < 128:=by omega
    have a1:∀ y∈l.take 1,y.toNat < 128:=by
     intro y hy
     have:l.take 1 = [x0]:=by
      match l,h0,hx0 with
      | z::r,_,e=>simp at e;simp[e]
     rw[this] at hy;simp at hy;rw[hy];exact hasc
    have v1:Lib.validD (l.drop 1)=ANS:=by rw[←Lib.validD_ascii 1 l a1];exact hv
    obtain⟨l1,hl1⟩:∃ l1,l.drop 1=l1:=⟨_,rfl⟩
    have C1:YCells w b (o+1) l1:=hl1▸hC.drop 1
    obtain⟨m,hm⟩:∃ m,l.length=m+1:=⟨l.length - 1,by omega⟩
    have M1:l1.length=m:=by rw[←hl1,List.length_drop];omega
    rw[hl1] at v1
    clear hTr hT hv a1 hx0 hl1 hcl hC
    rw[hm] at h0z h1z hg hls ⊢
    clear hm h0
    by_cases c8:8 < m
    ·as_aux_lemma=>
     obtain⟨k,rfl⟩:∃ k,m=k+8:=⟨m - 8,by omega⟩
     have hk0:¬ k=0:=by omega
     have c8z:(8:Int) < ((k+8:Nat):Int):=by omega
     obtain⟨A1,HA1⟩:∃ A1,Hid (A1=Lib.leNat (l1.take 8)):=⟨_,rfl⟩
     have lA1:A1 < 18446744073709551616:=by rw[HA1.out];exact B2u l1
     have cW1:Calls Tryz.prog 150 #[.slice (some ⟨b,o+1,none⟩) (k+8) (k+8)] wr fun e w'=>e = .returned (.int .u64 (A1:Int))∧∃ q,w'=wr.drewN q:=by rw[HA1.out];exact B2t (C1.below hbw) (by omega) (by omega) (by omega)
     have kA1:A1&&& 9259542123273814144=0→∀ y∈l1.take 8,y.toNat < 128:=by rw[HA1.out];exact(B0u (by omega)).1
     have hand1:bits .and .u64 (A1:Int) 9259542123273814144=((A1&&& 9259542123273814144:Nat):Int):=u64_and_nat A1 9259542123273814144 lA1 (by omega)
     obtain⟨Z1,hZ1⟩:∃ Z1,A1&&& 9259542123273814144=Z1:=⟨_,rfl⟩
     rw[hZ1] at hand1 kA1
     clear hZ1
     by_cases hz1:Z1=0
     ·have hz1b:((Z1:Int) == 0)=true:=by simp[hz1]
      have v2:Lib.validD (l1.drop 8)=ANS:=by rw[←Lib.validD_ascii 8 l1 (kA1 hz1)];exact v1
      obtain⟨l2,hl2⟩:∃ l2,l1.drop 8=l2:=⟨_,rfl⟩
      have C2:YCells w b (o+1+8) l2:=hl2▸C1.drop 8
      have M2:l2.length=k:=by rw[←hl2,List.length_drop];omega
      rw[hl2] at v2
      clear hz1 kA1 v1 C1 M1 hl2
      go_wp2_with (go_at_call 150;refine cW1.mono ?_;rintro e W1 ⟨rfl,q1,rfl⟩)
      clear cW1
      have hb1:Below w.heap.size w (wr.drewN q1):=A0k hbw q1
      generalize wr.drewN q1=wq at hb1 ⊢
      clear hbw
      by_cases c16:16 < k
      ·obtain⟨j,rfl⟩:∃ j,k=j+16:=⟨k - 16,by omega⟩
       have hj0:¬ j=0:=by omega
       have c16z:(16:Int) < (j:Int)+16:=by omega
       have c16b:decide ((16:Int) < (j:Int)+16)=true:=decide_eq_true c16z
       have s8z:(8:Int)≤(j:Int)+16:=by omega
       have cA:=B5c (C2.below hb1)
       obtain⟨f,Hf⟩:∃ f,Hid (f=WF (o+1+8) l2):=⟨_,rfl⟩
       rw[←Hf.out] at cA
       obtain⟨A2,HA2⟩:∃ A2,Hid (A2=f (o+1+8)):=⟨_,rfl⟩
       obtain⟨A3,HA3⟩:∃ A3,Hid (A3=f (o+1+8+8)):=⟨_,rfl⟩
       have eA2:f (o+1+8)=A2:=HA2.out.symm
       have eA3:f (o+1+8+8)=A3:=HA3.out.symm
       have lA2:A2 < 18446744073709551616:=by rw[HA2.out,Hf.out];exact B2x _ _ _
       have lA3:A3 < 18446744073709551616:=by rw[HA3.out,Hf.out];exact B2x _ _ _
       have kA2:A2&&& 9259542123273814144=0→∀ y∈l2.take 8,y.toNat < 128:=fun hz=>by
        rw[HA2.out,Hf.out] at hz
        have:=A8b (by omega) hz
        rwa [Nat.sub_self,List.drop_zero] at this
       have kA3:A3&&& 9259542123273814144=0→∀ y∈(l2.drop 8).take 8,y.toNat < 128:=fun hz=>by
        rw[HA3.out,Hf.out] at hz
        have:=A8b (by omega) hz
        rwa [Nat.add_sub_cancel_left] at this
       have hor2:bits .or .u64 (A2:Int) (A3:Int)=((A2||| A3:Nat):Int):=u64_or_nat A2 A3 lA2 lA3
       have lor2:A2||| A3 < 18446744073709551616:=Nat.or_lt_two_pow (n:=64) lA2 lA3
       have hand2:bits .and .u64 ((A2||| A3:Nat):Int) 9259542123273814144=(((A2||| A3)&&& 9259542123273814144:Nat):Int):=u64_and_nat _ 9259542123273814144 lor2 (by omega)
       have k2:(A2||| A3)&&& 9259542123273814144=0→∀ y∈l2.take 16,y.toNat < 128:=fun h0'=>by
        obtain⟨e1,e2⟩:=(Lib.or_mask A2 A3 _).1 h0'
        exact A6n (a:=8) (c:=8) (kA2 e1) (kA3 e2)
       obtain⟨O2,hO2⟩:∃ O2,A2||| A3=O2:=⟨_,rfl⟩
       rw[hO2] at hor2 hand2 k2
       obtain⟨Z2,hZ2⟩:∃ Z2,O2&&& 9259542123273814144=Z2:=⟨_,rfl⟩
       rw[hZ2] at hand2 k2
       clear kA2 kA3 lor2 hO2 hZ2
       by_cases hz2:Z2=0
       ·have hz2b:((Z2:Int) == 0)=true:=by simp[hz2]
        have v3:Lib.validD (l2.drop 16)=ANS:=by rw[←Lib.validD_ascii 16 l2 (k2 hz2)];exact v2
        obtain⟨l3,hl3⟩:∃ l3,l2.drop 16=l3:=⟨_,rfl⟩
        have C3:YCells w b (o+1+8+16) l3:=hl3▸C2.drop 16
        have M3:l3.length=j:=by rw[←hl3,List.length_drop];omega
        rw[hl3] at v3
        clear k2 hz2 v2 C2 hl3
        go_big_quiet ((go_at_call 150;refine Calls.quiet_of (cA _ _ _ (by omega) (by omega) (by omega) (by omega))))
        have hb2:Below w.heap.size w (wq.drewN nq):=A0k hb1 nq
        generalize wq.drewN nq=wq2 at hb2 ⊢
        clear cA hb1
        go_wp2
        go_loopg [0] (j+1) (fun g2 s0 wx=>Below w.heap.size w wx∧VRel w b ANS g2 j s0)
        case atStart=>exact⟨hb2,VRel.mk M3 C3 v3 (by omega) (by omega)⟩
        case round=>
         obtain⟨hbu,o3,u,rfl,Cu,vu,hgu,huj⟩:=hrel
         clear hb2 C3 v3 M3
         by_cases c32:32 < u.length
         ·obtain⟨g3,rfl⟩:∃ g3,gk=g3+1:=⟨gk - 1,by omega⟩
          obtain⟨v,hv32⟩:∃ v,u.length=v+32:=⟨u.length - 32,by omega⟩
          have hv0:¬ v=0:=by omega
          rw[hv32] at hgu huj ⊢
          have c32z:(32:Int) < (v:Int)+32:=by omega
          have c32b:decide ((32:Int) < (v:Int)+32)=true:=decide_eq_true c32z
          have s8u:(8:Int)≤(v:Int)+32:=by omega
          have s16u:(16:Int)≤(v:Int)+32:=by omega
          have s24u:(24:Int)≤(v:Int)+32:=by omega
          have cB:=B5c (Cu.below hbu)
          obtain⟨f,Hf⟩:∃ f,Hid (f=WF o3 u):=⟨_,rfl⟩
          rw[←Hf.out] at cB
          obtain⟨B0,HB0⟩:∃ B0,Hid (B0=f (o3)):=⟨_,rfl⟩
          have eB0:f (o3)=B0:=HB0.out.symm
          have lB0:B0 < 18446744073709551616:=by rw[HB0.out,Hf.out];exact B2x _ _ _
          have kB0:B0&&& 9259542123273814144=0→∀ y∈(u).take 8,y.toNat < 128:=fun hz=>by
           rw[HB0.out,Hf.out] at hz
           have:=A8b (by omega) hz
           rwa [Nat.sub_self,List.drop_zero] at this
          obtain⟨B1,HB1⟩:∃ B1,Hid (B1=f (o3+8)):=⟨_,rfl⟩
          have eB1:f (o3+8)=B1:=HB1.out.symm
          have lB1:B1 < 18446744073709551616:=by rw[HB1.out,Hf.out];exact B2x _ _ _
          have kB1:B1&&& 9259542123273814144=0→∀ y∈(u.drop 8).take 8,y.toNat < 128:=fun hz=>by
           rw[HB1.out,Hf.out] at hz
           have:=A8b (by omega) hz
           rwa [Nat.add_sub_cancel_left] at this
          obtain⟨B2,HB2⟩:∃ B2,Hid (B2=f (o3+16)):=⟨_,rfl⟩
          have eB2:f (o3+16)=B2:=HB2.out.symm
          have lB2:B2 < 18446744073709551616:=by rw[HB2.out,Hf.out];exact B2x _ _ _
          have kB2:B2&&& 9259542123273814144=0→∀ y∈(u.drop 16).take 8,y.toNat < 128:=fun hz=>by
           rw[HB2.out,Hf.out] at hz
           have:=A8b (by omega) hz
           rwa [Nat.add_sub_cancel_left] at this
          obtain⟨B3,HB3⟩:∃ B3,Hid (B3=f (o3+24)):=⟨_,rfl⟩
          have eB3:f (o3+24)=B3:=HB3.out.symm
          have lB3:B3 < 18446744073709551616:=by rw[HB3.out,Hf.out];exact B2x _ _ _
          have kB3:B3&&& 9259542123273814144=0→∀ y∈(u.drop 24).take 8,y.toNat < 128:=fun hz=>by
           rw[HB3.out,Hf.out] at hz
           have:=A8b (by omega) hz
           rwa [Nat.add_sub_cancel_left] at this
          have ho1:bits .or .u64 (B0:Int) (B1:Int)=((B0||| B1:Nat):Int):=u64_or_nat B0 B1 lB0 lB1
          have ho2:bits .or .u64 (B2:Int) (B3:Int)=((B2||| B3:Nat):Int):=u64_or_nat B2 B3 lB2 lB3
          have lo1:B0||| B1 < 18446744073709551616:=Nat.or_lt_two_pow (n:=64) lB0 lB1
          have lo2:B2||| B3 < 18446744073709551616:=Nat.or_lt_two_pow (n:=64) lB2 lB3
          have ho3:bits .or .u64 ((B0||| B1:Nat):Int) ((B2||| B3:Nat):Int)=(((B0||| B1)||| (B2||| B3):Nat):Int):=u64_or_nat _ _ lo1 lo2
          have lo3:(B0||| B1)||| (B2||| B3) < 18446744073709551616:=Nat.or_lt_two_pow (n:=64) lo1 lo2
          have hand3:bits .and .u64 (((B0||| B1)||| (B2||| B3):Nat):Int) 9259542123273814144=((((B0||| B1)||| (B2||| B3))&&& 9259542123273814144:Nat):Int):=u64_and_nat _ 9259542123273814144 lo3 (by omega)
          have k3:((B0||| B1)||| (B2||| B3))&&& 9259542123273814144=0→∀ y∈u.take 32,y.toNat < 128:=fun h0'=>by
           obtain⟨e01,e23⟩:=(Lib.or_mask _ _ _).1 h0'
           obtain⟨e0,e1⟩:=(Lib.or_mask _ _ _).1 e01
           obtain⟨e2,e3⟩:=(Lib.or_mask _ _ _).1 e23
           exact A6n (a:=24) (c:=8) (A6n (a:=16) (c:=8) (A6n (a:=8) (c:=8) (kB0 e0) (kB1 e1)) (kB2 e2)) (kB3 e3)
          obtain⟨P1,hP1⟩:∃ P1,B0||| B1=P1:=⟨_,rfl⟩
          obtain⟨P2,hP2⟩:∃ P2,B2||| B3=P2:=⟨_,rfl⟩
          rw[hP1,hP2] at ho3 hand3 k3
          rw[hP1] at ho1
          rw[hP2] at ho2
          obtain⟨P3,hP3⟩:∃ P3,P1||| P2=P3:=⟨_,rfl⟩
          rw[hP3] at ho3 hand3 k3
          obtain⟨Z3,hZ3⟩:∃ Z3,P3&&& 9259542123273814144=Z3:=⟨_,rfl⟩
          rw[hZ3] at hand3 k3
          clear kB0 kB1 kB2 kB3 lo1 lo2 lo3 hP1 hP2 hP3 hZ3
          by_cases hz3:Z3=0
          ·have hz3b:((Z3:Int) == 0)=true:=by simp[hz3]
           have v4:Lib.validD (u.drop 32)=ANS:=by rw[←Lib.validD_ascii 32 u (k3 hz3)];exact vu
           have M4:(u.drop 32).length=v:=by rw[List.length_drop];omega
           clear k3 hz3
           go_wp2_with fail
           go_big_quiet ((go_at_call 150;refine Calls.quiet_of (cB _ _ _ (by omega) (by omega) (by omega) (by omega))))
           go_wp2
           go_roundg g3
           case measure=>omega
           case rel=>exact⟨A0k hbu nq,VRel.mk M4 (Cu.drop 32) v4 (by omega) (by omega)⟩
          ·have hz3b:((Z3:Int) == 0)=false:=by simp;omega
           clear k3 hz3
           go_wp2_with fail
           go_big_quiet ((go_at_call 150;refine Calls.quiet_of (cB _ _ _ (by omega) (by omega) (by omega) (by omega))))
           go_wp2
           go_roundg g'
           case measure=>omega
           case rel=>exact⟨A0k hbu nq,VRel.mk hv32 Cu vu (by omega) (by omega)⟩
         ·have c32z:¬ ((32:Int) < (u.length:Int)):=by omega
          have c32b:decide ((32:Int) < (u.length:Int))=false:=decide_eq_false c32z
          go_wp2_with fail
          go_big_quiet (fail)
          go_wp2
          go_roundg g'
          case measure=>omega
          case rel=>exact⟨A0k hbu nq,VRel.mk rfl Cu vu (by omega) (by omega)⟩
       ·have hz2b:((Z2:Int) == 0)=false:=by simp;omega
        clear k2 hz2
        go_big_quiet ((go_at_call 150;refine Calls.quiet_of (cA _ _ _ (by omega) (by omega) (by omega) (by omega))))
        go_wp2
        go_roundg g'
        case measure=>omega
        case rel=>exact⟨A0k hb1 nq,VRel.mk M2 C2 v2 (by omega) (by omega)⟩
      ·have c16z:¬ ((16:Int) < (k:Int)):=by omega
       have c16b:decide ((16:Int) < (k:Int))=false:=decide_eq_false c16z
       go_big_quiet (fail)
       go_wp2
       go_roundg g'
       case measure=>omega
       case rel=>exact⟨A0k hb1 nq,VRel.mk M2 C2 v2 (by omega) (by omega)⟩
     ·have hz1b:((Z1:Int) == 0)=false:=by simp;omega
      clear hz1 kA1
      go_wp2_with (go_at_call 150;refine cW1.mono ?_;rintro e W1 ⟨rfl,q1,rfl⟩)
      go_roundg g'
      case measure=>omega
      case rel=>exact⟨A0k hbw q1,VRel.mk M1 C1 v1 (by omega) (by omega)⟩
    ·have c8z:¬ ((8:Int) < (m:Int)):=by omega
     go_wp2
     all_goals
      go_roundg g'
      case measure=>omega
      case rel=>first|exact⟨hbw,VRel.mk M1 C1 v1 (by omega) (by omega)⟩|exact⟨hbw,VRel.nil (l:=l1) (by omega) v1 (by omega)⟩
   ·have hge:128≤x0.toNat:=by omega
    have hascz:¬ ((x0.toNat:Int) < 128):=by omega
    obtain⟨x1,hx1⟩:∃ x1,l.getD 1 0=x1:=⟨_,rfl⟩
    obtain⟨x2,hx2⟩:∃ x2,l.getD 2 0=x2:=⟨_,rfl⟩
    obtain⟨x3,hx3⟩:∃ x3,l.getD 3 0=x3:=⟨_,rfl⟩
    have l1:=x1.toNat_lt;have l2:=x2.toNat_lt;have l3:=x3.toNat_lt
    have hne:l≠[]:=fun h=>by rw[h] at h0;simp at h0
    have hlead:=Lib.validD_lead l hne (by rw[hx0];exact hge)
    rw[hx0,hx1,hx2,hx3,hv] at hlead
    have hc0:=hTr.1 x0.toNat hx0lt
    have hXlt:Lib.firstT x0.toNat < 256:=by rcases Lib.firstT_cases x0.toNat with h|h|h|h|h|h|h|h|h <;> omega
    obtain⟨X,hX⟩:∃ X,Lib.firstT x0.toNat=X:=⟨_,rfl⟩
    rw[hX] at hc0 hXlt hlead
    have h7:=C2a ⟨X,hXlt⟩
    simp only at h7
    have ha0:wr.cell? ⟨1,X / 16*2,none⟩=some (.int .u8 (Lib.accLo (X / 16))):=by rw[Nat.mul_comm];exact(hTr.2 (X / 16) (by omega)).1
    have ha1:wr.cell? ⟨1,X / 16*2+1,none⟩=some (.int .u8 (Lib.accHi (X / 16))):=by rw[Nat.mul_comm];exact(hTr.2 (X / 16) (by omega)).2
    obtain⟨LO,hLO⟩:∃ LO,Lib.accLo (X / 16)=LO:=⟨_,rfl⟩
    obtain⟨HI,hHI⟩:∃ HI,Lib.accHi (X / 16)=HI:=⟨_,rfl⟩
    rw[hLO] at ha0 hlead
    rw[hHI] at ha1 hlead
    obtain⟨SZ,hSZ⟩:∃ SZ,X%8=SZ:=⟨_,rfl⟩
    rw[hSZ] at hlead
    clear hTr hT hX hv hLO hHI hne
    by_cases s2:SZ=2
    ·as_aux_lemma=>
     subst s2
     have hSZz:(X:Int)%8=2:=by omega
     simp only[Lib.checkN,Nat.reduceEqDiff,if_true,if_false] at hlead
     go_upto_region 18 with fail
     go_cut [103] from 85 to 103 (fun c wx=>c = .bool (decide (l.length < 2∨x1.toNat < LO∨HI < x1.toNat))∧Below w.heap.size w wx)
     case first=>
      by_cases q0:l.length < 2
      ·have q0z:(l.length:Int) < 2:=by omega
       go_big_quiet (fail)
       go_wp2
       go_meet
       exact⟨congrArg Value.bool (decide_eq_true (p:=l.length < 2∨x1.toNat < LO∨HI < x1.toNat) (by omega)).symm,A0k (hbw.alloc hbw.size _) _⟩
      ·have q0z:¬ ((l.length:Int) < 2):=by omega
       have hz1:(1:Int) < (l.length:Int):=by omega
       have c1:(wr.alloc (.cells #[.int .u8 (LO:Int),.int .u8 (HI:Int)] 172)).cell? ⟨b,o+1,none⟩=some (.int .u8 (x1.toNat:Int)):=A0c ((Below.refl _ _).alloc (Nat.le_refl _) _) (hcl 1 x1 (by rw[←hx1];exact A3f (by omega)))
       by_cases q1:x1.toNat < LO
       ·have q1z:(x1.toNat:Int) < (LO:Int):=by omega
        go_big_quiet (fail)
        go_wp2
        go_meet
        exact⟨congrArg Value.bool (decide_eq_true (p:=l.length < 2∨x1.toNat < LO∨HI < x1.toNat) (by omega)).symm,A0k (hbw.alloc hbw.size _) _⟩
       ·have q1z:¬ ((x1.toNat:Int) < (LO:Int)):=by omega
        by_cases q2:HI < x1.toNat
        ·have q2z:(HI:Int) < (x1.toNat:Int):=by omega
         go_big_quiet (fail)
         go_wp2
         go_meet
         exact⟨congrArg Value.bool (decide_eq_true (p:=l.length < 2∨x1.toNat < LO∨HI < x1.toNat) (by omega)).symm,A0k (hbw.alloc hbw.size _) _⟩
        ·have q2z:¬ ((HI:Int) < (x1.toNat:Int)):=by omega
         go_big_quiet (fail)
         go_wp2
         go_meet
         exact⟨congrArg Value.bool (decide_eq_false (p:=l.length < 2∨x1.toNat < LO∨HI < x1.toNat) (by omega)).symm,A0k (hbw.alloc hbw.size _) _⟩
     case rest=>
      obtain⟨rfl,hbc⟩:=hcut
      by_cases hb:l.length < 2∨x1.toNat < LO∨HI < x1.toNat
      ·have hbd:decide (l.length < 2∨x1.toNat < LO∨HI < x1.toNat)=true:=decide_eq_true hb
       rw[if_pos hb] at hlead
       go_wp2
       all_goals (go_ret;exact⟨by first|rfl|rw[hlead],hbc⟩)
      ·have hbd:decide (l.length < 2∨x1.toNat < LO∨HI < x1.toNat)=false:=decide_eq_false hb
       rw[if_neg hb] at hlead
       have hs2z:(2:Int)≤(l.length:Int):=by omega
       go_wp2
       all_goals
        go_roundg g'
        case measure=>omega
        case rel=>first|exact⟨hbc,VRel.mk (List.length_drop ..) (hC.drop 2) hlead.symm (by omega) (by omega)⟩|exact⟨hbc,VRel.nil (l:=l.drop 2) (by rw[List.length_drop];omega) hlead.symm (by omega)⟩
    by_cases s3:SZ=3
    ·as_aux_lemma=>
     subst s3
     have hSZz:(X:Int)%8=3:=by omega
     simp only[Lib.checkN,Nat.reduceEqDiff,if_true,if_false] at hlead
     go_upto_region 22 with fail
     go_cut [138] from 108 to 138 (fun c wx=>c = .bool (decide (l.length < 3∨x1.toNat < LO∨HI < x1.toNat∨x2.toNat < 128∨191 < x2.toNat))∧Below w.heap.size w wx)
     case first=>
      by_cases q0:l.length < 3
      ·have q0z:(l.length:Int) < 3:=by omega
       go_big_quiet (fail)
       go_wp2
       go_meet
       exact⟨congrArg Value.bool (decide_eq_true (p:=l.length < 3∨x1.toNat < LO∨HI < x1.toNat∨x2.toNat < 128∨191 < x2.toNat) (by omega)).symm,A0k (hbw.alloc hbw.size _) _⟩
      ·have q0z:¬ ((l.length:Int) < 3):=by omega
       have hz1:(1:Int) < (l.length:Int):=by omega
       have c1:(wr.alloc (.cells #[.int .u8 (LO:Int),.int .u8 (HI:Int)] 172)).cell? ⟨b,o+1,none⟩=some (.int .u8 (x1.toNat:Int)):=A0c ((Below.refl _ _).alloc (Nat.le_refl _) _) (hcl 1 x1 (by rw[←hx1];exact A3f (by omega)))
       have hz2:(2:Int) < (l.length:Int):=by omega
       have c2:(wr.alloc (.cells #[.int .u8 (LO:Int),.int .u8 (HI:Int)] 172)).cell? ⟨b,o+2,none⟩=some (.int .u8 (x2.toNat:Int)):=A0c ((Below.refl _ _).alloc (Nat.le_refl _) _) (hcl 2 x2 (by rw[←hx2];exact A3f (by omega)))
       by_cases q1:x1.toNat < LO
       ·have q1z:(x1.toNat:Int) < (LO:Int):=by omega
        go_big_quiet (fail)
        go_wp2
        go_meet
        exact⟨congrArg Value.bool (decide_eq_true (p:=l.length < 3∨x1.toNat < LO∨HI < x1.toNat∨x2.toNat < 128∨191 < x2.toNat) (by omega)).symm,A0k (hbw.alloc hbw.size _) _⟩
       ·have q1z:¬ ((x1.toNat:Int) < (LO:Int)):=by omega
        by_cases q2:HI < x1.toNat
        ·have q2z:(HI:Int) < (x1.toNat:Int):=by omega
         go_big_quiet (fail)
         go_wp2
         go_meet
         exact⟨congrArg Value.bool (decide_eq_true (p:=l.length < 3∨x1.toNat < LO∨HI < x1.toNat∨x2.toNat < 128∨191 < x2.toNat) (by omega)).symm,A0k (hbw.alloc hbw.size _) _⟩
        ·have q2z:¬ ((HI:Int) < (x1.toNat:Int)):=by omega
         by_cases q3:x2.toNat < 128
         ·have q3z:(x2.toNat:Int) < 128:=by omega
          go_big_quiet (fail)
          go_wp2
          go_meet
          exact⟨congrArg Value.bool (decide_eq_true (p:=l.length < 3∨x1.toNat < LO∨HI < x1.toNat∨x2.toNat < 128∨191 < x2.toNat) (by omega)).symm,A0k (hbw.alloc hbw.size _) _⟩
         ·have q3z:¬ ((x2.toNat:Int) < 128):=by omega
          by_cases q4:191 < x2.toNat
          ·have q4z:(191:Int) < (x2.toNat:Int):=by omega
           go_big_quiet (fail)
           go_wp2
           go_meet
           exact⟨congrArg Value.bool (decide_eq_true (p:=l.length < 3∨x1.toNat < LO∨HI < x1.toNat∨x2.toNat < 128∨191 < x2.toNat) (by omega)).symm,A0k (hbw.alloc hbw.size _) _⟩
          ·have q4z:¬ ((191:Int) < (x2.toNat:Int)):=by omega
           go_big_quiet (fail)
           go_wp2
           go_meet
           exact⟨congrArg Value.bool (decide_eq_false (p:=l.length < 3∨x1.toNat < LO∨HI < x1.toNat∨x2.toNat < 128∨191 < x2.toNat) (by omega)).symm,A0k (hbw.alloc hbw.size _) _⟩
     case rest=>
      obtain⟨rfl,hbc⟩:=hcut
      by_cases hb:l.length < 3∨x1.toNat < LO∨HI < x1.toNat∨x2.toNat < 128∨191 < x2.toNat
      ·have hbd:decide (l.length < 3∨x1.toNat < LO∨HI < x1.toNat∨x2.toNat < 128∨191 < x2.toNat)=true:=decide_eq_true hb
       rw[if_pos hb] at hlead
       go_wp2
       all_goals (go_ret;exact⟨by first|rfl|rw[hlead],hbc⟩)
      ·have hbd:decide (l.length < 3∨x1.toNat < LO∨HI < x1.toNat∨x2.toNat < 128∨191 < x2.toNat)=false:=decide_eq_false hb
       rw[if_neg hb] at hlead
       have hs3z:(3:Int)≤(l.length:Int):=by omega
       go_wp2
       all_goals
        go_roundg g'
        case measure=>omega
        case rel=>first|exact⟨hbc,VRel.mk (List.length_drop ..) (hC.drop 3) hlead.symm (by omega) (by omega)⟩|exact⟨hbc,VRel.nil (l:=l.drop 3) (by rw[List.length_drop];omega) hlead.symm (by omega)⟩
    by_cases s4:SZ=4
    ·as_aux_lemma=>
     subst s4
     have hSZz:(X:Int)%8=4:=by omega
     simp only[Lib.checkN,Nat.reduceEqDiff,if_true,if_false] at hlead
     go_upto_region 26 with fail
     go_cut [185] from 143 to 185 (fun c wx=>c = .bool (decide (l.length < 4∨x1.toNat < LO∨HI < x1.toNat∨x2.toNat < 128∨191 < x2.toNat∨x3.toNat < 128∨191 < x3.toNat))∧Below w.heap.size w wx)
     case first=>
      by_cases q0:l.length < 4
      ·have q0z:(l.length:Int) < 4:=by omega
       go_big_quiet (fail)
       go_wp2
       go_meet
       exact⟨congrArg Value.bool (decide_eq_true (p:=l.length < 4∨x1.toNat < LO∨HI < x1.toNat∨x2.toNat < 128∨191 < x2.toNat∨x3.toNat < 128∨191 < x3.toNat) (by omega)).symm,A0k (hbw.alloc hbw.size _) _⟩
      ·have q0z:¬ ((l.length:Int) < 4):=by omega
       have hz1:(1:Int) < (l.length:Int):=by omega
       have c1:(wr.alloc (.cells #[.int .u8 (LO:Int),.int .u8 (HI:Int)] 172)).cell? ⟨b,o+1,none⟩=some (.int .u8 (x1.toNat:Int)):=A0c ((Below.refl _ _).alloc (Nat.le_refl _) _) (hcl 1 x1 (by rw[←hx1];exact A3f (by omega)))
       have hz2:(2:Int) < (l.length:Int):=by omega
       have c2:(wr.alloc (.cells #[.int .u8 (LO:Int),.int .u8 (HI:Int)] 172)).cell? ⟨b,o+2,none⟩=some (.int .u8 (x2.toNat:Int)):=A0c ((Below.refl _ _).alloc (Nat.le_refl _) _) (hcl 2 x2 (by rw[←hx2];exact A3f (by omega)))
       have hz3:(3:Int) < (l.length:Int):=by omega
       have c3:(wr.alloc (.cells #[.int .u8 (LO:Int),.int .u8 (HI:Int)] 172)).cell? ⟨b,o+3,none⟩=some (.int .u8 (x3.toNat:Int)):=A0c ((Below.refl _ _).alloc (Nat.le_refl _) _) (hcl 3 x3 (by rw[←hx3];exact A3f (by omega)))
       by_cases q1:x1.toNat < LO
       ·have q1z:(x1.toNat:Int) < (LO:Int):=by omega
        go_big_quiet (fail)
        go_wp2
        go_meet
        exact⟨congrArg Value.bool (decide_eq_true (p:=l.length < 4∨x1.toNat < LO∨HI < x1.toNat∨x2.toNat < 128∨191 < x2.toNat∨x3.toNat < 128∨191 < x3.toNat) (by omega)).symm,A0k (hbw.alloc hbw.size _) _⟩
       ·have q1z:¬ ((x1.toNat:Int) < (LO:Int)):=by omega
        by_cases q2:HI < x1.toNat
        ·have q2z:(HI:Int) < (x1.toNat:Int):=by omega
         go_big_quiet (fail)
         go_wp2
         go_meet
         exact⟨congrArg Value.bool (decide_eq_true (p:=l.length < 4∨x1.toNat < LO∨HI < x1.toNat∨x2.toNat < 128∨191 < x2.toNat∨x3.toNat < 128∨191 < x3.toNat) (by omega)).symm,A0k (hbw.alloc hbw.size _) _⟩
        ·have q2z:¬ ((HI:Int) < (x1.toNat:Int)):=by omega
         by_cases q3:x2.toNat < 128
         ·have q3z:(x2.toNat:Int) < 128:=by omega
          go_big_quiet (fail)
          go_wp2
          go_meet
          exact⟨congrArg Value.bool (decide_eq_true (p:=l.length < 4∨x1.toNat < LO∨HI < x1.toNat∨x2.toNat < 128∨191 < x2.toNat∨x3.toNat < 128∨191 < x3.toNat) (by omega)).symm,A0k (hbw.alloc hbw.size _) _⟩
         ·have q3z:¬ ((x2.toNat:Int) < 128):=by omega
          by_cases q4:191 < x2.toNat
          ·have q4z:(191:Int) < (x2.toNat:Int):=by omega
           go_big_quiet (fail)
           go_wp2
           go_meet
           exact⟨congrArg Value.bool (decide_eq_true (p:=l.length < 4∨x1.toNat < LO∨HI < x1.toNat∨x2.toNat < 128∨191 < x2.toNat∨x3.toNat < 128∨191 < x3.toNat) (by omega)).symm,A0k (hbw.alloc hbw.size _) _⟩
          ·have q4z:¬ ((191:Int) < (x2.toNat:Int)):=by omega
           by_cases q5:x3.toNat < 128
           ·have q5z:(x3.toNat:Int) < 128:=by omega
            go_big_quiet (fail)
            go_wp2
            go_meet
            exact⟨congrArg Value.bool (decide_eq_true (p:=l.length < 4∨x1.toNat < LO∨HI < x1.toNat∨x2.toNat < 128∨191 < x2.toNat∨x3.toNat < 128∨191 < x3.toNat) (by omega)).symm,A0k (hbw.alloc hbw.size _) _⟩
           ·have q5z:¬ ((x3.toNat:Int) < 128):=by omega
            by_cases q6:191 < x3.toNat
            ·have q6z:(191:Int) < (x3.toNat:Int):=by omega
             go_big_quiet (fail)
             go_wp2
             go_meet
             exact⟨congrArg Value.bool (decide_eq_true (p:=l.length < 4∨x1.toNat < LO∨HI < x1.toNat∨x2.toNat < 128∨191 < x2.toNat∨x3.toNat < 128∨191 < x3.toNat) (by omega)).symm,A0k (hbw.alloc hbw.size _) _⟩
            ·have q6z:¬ ((191:Int) < (x3.toNat:Int)):=by omega
             go_big_quiet (fail)
             go_wp2
             go_meet
             exact⟨congrArg Value.bool (decide_eq_false (p:=l.length < 4∨x1.toNat < LO∨HI < x1.toNat∨x2.toNat < 128∨191 < x2.toNat∨x3.toNat < 128∨191 < x3.toNat) (by omega)).symm,A0k (hbw.alloc hbw.size _) _⟩
     case rest=>
      obtain⟨rfl,hbc⟩:=hcut
      by_cases hb:l.length < 4∨x1.toNat < LO∨HI < x1.toNat∨x2.toNat < 128∨191 < x2.toNat∨x3.toNat < 128∨191 < x3.toNat
      ·have hbd:decide (l.length < 4∨x1.toNat < LO∨HI < x1.toNat∨x2.toNat < 128∨191 < x2.toNat∨x3.toNat < 128∨191 < x3.toNat)=true:=decide_eq_true hb
       rw[if_pos hb] at hlead
       go_wp2
       all_goals (go_ret;exact⟨by first|rfl|rw[hlead],hbc⟩)
      ·have hbd:decide (l.length < 4∨x1.toNat < LO∨HI < x1.toNat∨x2.toNat < 128∨191 < x2.toNat∨x3.toNat < 128∨191 < x3.toNat)=false:=decide_eq_false hb
       rw[if_neg hb] at hlead
       have hs4z:(4:Int)≤(l.length:Int):=by omega
       go_wp2
       all_goals
        go_roundg g'
        case measure=>omega
        case rel=>first|exact⟨hbc,VRel.mk (List.length_drop ..) (hC.drop 4) hlead.symm (by omega) (by omega)⟩|exact⟨hbc,VRel.nil (l:=l.drop 4) (by rw[List.length_drop];omega) hlead.symm (by omega)⟩
    ·as_aux_lemma=>
     have e2:¬ ((X:Int)%8=2):=by omega
     have e3:¬ ((X:Int)%8=3):=by omega
     have e4:¬ ((X:Int)%8=4):=by omega
     have e2b:(((X:Int)%8) == 2)=false:=by simp;omega
     have e3b:(((X:Int)%8) == 3)=false:=by simp;omega
     have e4b:(((X:Int)%8) == 4)=false:=by simp;omega
     simp only[Lib.checkN,s2,s3,s4,if_false] at hlead
     go_wp2
     all_goals (go_ret;exact⟨by first|rfl|rw[hlead],hbw.alloc hbw.size _⟩)
  ·have h0z:¬ ((0:Int) < (l.length:Int)):=by omega
   have ht0:l = []:=List.eq_nil_of_length_eq_zero (by omega)
   rw[ht0,Lib.validD_nil] at hv
   subst hv
   go_wp2
   go_ret
   exact⟨rfl,hbw⟩
end L
end Go.Proofs.YtelmjekjohbmjaaGreatDoor
