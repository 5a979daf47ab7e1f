import Derived.Test.YthcomdofaaeihaaGreatDoorV05
import Derived.Shelf.Unicode.DecodeSlow
import Derived.Deep.DeepMust
import Derived.Deep.CutBlock
set_option maxHeartbeats 32000000
set_option maxRecDepth 100000
namespace Go.Proofs.YthcomdofaaeihaaGreatDoor
namespace L
open Go.RowKit
variable{g base b G n o:Nat}{ac:Bool}{w:World}{l:List UInt8}
theorem qJ {B:Nat}{a w:World}(h:Below B a w):∀ q,Below B a (w.drewN q)
 | 0=>h
 | q+1=>(qJ h q).drew
theorem getD_some {i:Nat}(h:i<l.length):l[i]?=some (l.getD i 0):=by
 rw[pG,vG h];rfl
theorem E0y:∀ X:Fin 256,bits .and .u8 ((X.val:Nat):Int) 7=((X.val%8:Nat):Int):=by decide
abbrev Tabs (w:World):Prop:=Lib.Utf8Tabs 0 1 w
theorem Tabs.bL {w':World}(h:Tabs w)(hb:zB w w'):Tabs w':=⟨fun c hc=>zQ hb (h.1 c hc),fun i hi=>⟨zQ hb (h.2 i hi).1,zQ hb (h.2 i hi).2⟩⟩
theorem C7s (h:l.length=0):YCells w b o l:=by
 rw[uE h];intro i x hx;simp at hx
def WF (base:Nat)(l:List UInt8)(o:Nat):Nat:=Lib.leNat ((l.drop (o-base)).take 8)
theorem fI (base:Nat)(l:List UInt8)(o:Nat):WF base l o<18446744073709551616:=C3p _
theorem UV (h:o-base+8≤l.length)(hz:WF base l o&&& 9259542123273814144=0):∀ y∈(l.drop (o-base)).take 8,y.toNat<128:=(B9i (by rw[vE];omega)).1 hz
theorem C7g (h:YCells w b base l)(q o n:Nat)(h1:base≤o)(h2:o-base+8≤l.length)(h3:8≤n)(h4:n≤9223372036854775807) :
  Calls Tryz.prog 178 #[.slice (some ⟨b,o,none⟩) n n] (w.drewN q) fun e w'=>e = .returned (.int .u64 ((WF base l o:Nat):Int))∧∃ q',w'=(w.drewN q).drewN q':=by
 have hd:=h.drop (o-base);rw[show base+(o-base)=o by omega] at hd;exact C3o (hd.bL (qJ (zH _ _) q)) (by rw[vE];omega) h3 h4
def VRel (w:World)(b:Nat)(ANS:Bool)(g G:Nat)(s0:Value):Prop:=∃ (o:Nat) (l:List UInt8),s0 = .slice (some ⟨b,o,none⟩) l.length l.length∧YCells w b o l∧Lib.validD l=ANS∧l.length<g∧l.length≤G
theorem VRel.mk (hn:l.length=n)(hc:YCells w b o l)(hv:Lib.validD l=ac)(hg:n<g)(hm:n≤G):VRel w b ac g G (.slice (some ⟨b,o,none⟩) n n):=⟨o,l,by rw[hn],hc,hv,by omega,by omega⟩
theorem VRel.nil (hn:l.length=0)(hv:Lib.validD l=ac)(hg:0<g):VRel w b ac g G (.slice (some ⟨b,o,none⟩) 0 0):=⟨o,l,by rw[hn],C7s hn,hv,by omega,by omega⟩
theorem XZ{P:Prop}(h:P:=by
 go_big_quiet (fail);go_wp2;go_meet;exact⟨congrArg Value.bool (xU (p:=l.length<4∨x1.toNat<LO∨HI<x1.toNat∨x2.toNat<128∨191<x2.toNat∨x3.toNat<128∨191<x3.toNat) (by omega)).symm,qJ (ag.alloc ag.size _) _⟩):P:=h
theorem Qe3{P:Prop}(h:P:=by
 go_big_quiet (fail);go_wp2;go_meet;exact⟨congrArg Value.bool (xU (p:=l.length<3∨x1.toNat<LO∨HI<x1.toNat∨x2.toNat<128∨191<x2.toNat) (by omega)).symm,qJ (ag.alloc ag.size _) _⟩):P:=h
theorem Qe4{P:Prop}(h:P:=by
 go_big_quiet (fail);go_wp2;go_meet;exact⟨congrArg Value.bool (xU (p:=l.length<2∨x1.toNat<LO∨HI<x1.toNat) (by omega)).symm,qJ (ag.alloc ag.size _) _⟩):P:=h
theorem iE{P:Prop}(h:P:=by
 have:=UV (by omega) hz
 rwa [kD] at this):P:=h
theorem eV{P:Prop}(h:P:=by
 rw[zF hb] at ac;go_wp2
 all_goals (go_ret;exact⟨by first|rfl|rw[ac],aj⟩)):P:=h
theorem XY{P:Prop}(h:P:=by
 go_wp2;go_roundg g'
 case measure=>omega
 case rel=>exact⟨qJ hb1 nq,VRel.mk M2 C2 v2 (by omega) (by omega)⟩):P:=h
theorem C6t {l0:List UInt8}{cap:Nat}(hc:YCells w b o l0)(hn:n=l0.length)(cg:n≤cap)(ip:cap≤9223372036854775807)(hT:Tabs w) :
  Calls Tryz.prog 101 #[.slice (some ⟨b,o,none⟩) n cap] w fun e w'=>e = .returned (.bool (Lib.validD l0))∧zB w w':=by
 obtain⟨ak,aw⟩:=zM (Lib.validD l0);rw[←aw.out];have eu:n≤9223372036854775807:=by omega
 have hnz:(n:Int)≤(cap:Int):=by omega
 have HN:Hid (n=l0.length):=hn;clear hn;go_enter Tryz.func101,Tryz.ntmps101;go_wp2;go_loopg [0] (n+1) (fun gk s0 wx=>zB w wx∧VRel w b ak gk 9223372036854775807 s0)
 case atStart=>exact⟨zH _ _,VRel.mk HN.out.symm hc aw.out.symm (by omega) eu⟩
 obtain⟨ag,o,l,rfl,hC,hv,hg,iu⟩:=hrel;clear aw HN hc hnz cg;have bh:=hT.bL ag;have av:YCells wr b o l:=hC.bL ag;by_cases h0:0<l.length
 ·obtain⟨g',rfl⟩:∃ g',gk=g'+1:=⟨gk-1,by omega⟩
  have fw:(0:Int)<(l.length:Int):=by omega
  have im:(1:Int)≤(l.length:Int):=by omega
  obtain⟨x0,hx0⟩:∃ x0,l.getD 0 0=x0:=⟨_,rfl⟩
  have cu:x0.toNat<256:=x0.toNat_lt;have c0:wr.cell? ⟨b,o,none⟩=some (.int .u8 (x0.toNat:Int)):=av 0 x0 (by rw[←hx0];exact getD_some h0);by_cases hasc:x0.toNat<128
  ·as_aux_lemma=>
   have bn:(x0.toNat:Int)<128:=by omega
   have a1:∀ y∈l.take 1,y.toNat<128:=by
    intro y hy;have:l.take 1 = [x0]:=by
     match l,h0,hx0 with
     | z::r,_,e=>simp at e;simp[e]
    rw[this] at hy;simp at hy;rw[hy];exact hasc
   have v1:Lib.validD (l.drop 1)=ak:=by rw[←Lib.validD_ascii 1 l a1];exact hv
   obtain⟨l1,dl⟩:∃ l1,l.drop 1=l1:=⟨_,rfl⟩
   have C1:YCells w b (o+1) l1:=dl▸hC.drop 1;obtain⟨m,hm⟩:∃ m,l.length=m+1:=⟨l.length-1,by omega⟩
   have M1:l1.length=m:=by rw[←dl,vE];omega
   rw[dl] at v1;clear bh hT hv a1 hx0 dl av hC;rw[hm] at fw im hg iu ⊢;clear hm h0;by_cases c8:8<m
   ·as_aux_lemma=>
    obtain⟨k,rfl⟩:∃ k,m=k+8:=⟨m-8,by omega⟩
    have jr:¬ k=0:=by omega
    have ij:(8:Int)<((k+8:Nat):Int):=by omega
    obtain⟨A1,dp⟩:=zM (Lib.leNat (l1.take 8));have i9:A1<18446744073709551616:=by rw[dp.out];exact C3p l1
    have ee:Calls Tryz.prog 178 #[.slice (some ⟨b,o+1,none⟩) (k+8) (k+8)] wr fun e w'=>e = .returned (.int .u64 (A1:Int))∧∃ q,w'=wr.drewN q:=by rw[dp.out];exact C3o (C1.bL ag) (by omega) (by omega) (by omega)
    have dn:A1&&& 9259542123273814144=0→∀ y∈l1.take 8,y.toNat<128:=by rw[dp.out];exact(B9i (by omega)).1
    have bl:bits .and .u64 (A1:Int) 9259542123273814144=((A1&&& 9259542123273814144:Nat):Int):=u64_and_nat A1 9259542123273814144 i9 (by omega);obtain⟨Z1,gc⟩:∃ Z1,A1&&& 9259542123273814144=Z1:=⟨_,rfl⟩
    rw[gc] at bl dn;clear gc;by_cases hz1:Z1=0
    ·have fd:((Z1:Int)==0)=true:=by simp[hz1]
     have v2:Lib.validD (l1.drop 8)=ak:=by rw[←Lib.validD_ascii 8 l1 (dn hz1)];exact v1
     obtain⟨l2,hl2⟩:∃ l2,l1.drop 8=l2:=⟨_,rfl⟩
     have C2:YCells w b (o+1+8) l2:=hl2▸C1.drop 8;have M2:l2.length=k:=by rw[←hl2,vE];omega
     rw[hl2] at v2;clear hz1 dn v1 C1 M1 hl2;go_wp2_with (go_at_call 178;refine ee.mono ?_;rintro e W1 ⟨rfl,q1,rfl⟩)
     clear ee;have hb1:zB w (wr.drewN q1):=qJ ag q1;generalize wr.drewN q1=wq at hb1 ⊢;clear ag;by_cases c16:16<k
     ·obtain⟨j,rfl⟩:∃ j,k=j+16:=⟨k-16,by omega⟩
      have jq:¬ j=0:=by omega
      have ba:(16:Int)<(j:Int)+16:=by omega
      have dz:decide ((16:Int)<(j:Int)+16)=true:=xU ba;have jt:(8:Int)≤(j:Int)+16:=by omega
      have cA:=C7g (C2.bL hb1);obtain⟨f,Hf⟩:=zM (WF (o+1+8) l2);rw[←Hf.out] at cA;obtain⟨A2,dr⟩:=zM (f (o+1+8));obtain⟨A3,dt⟩:=zM (f (o+1+8+8));have ji:f (o+1+8)=A2:=dr.out.symm;have jk:f (o+1+8+8)=A3:=dt.out.symm;have gz:A2<18446744073709551616:=by rw[dr.out,Hf.out];exact fI _ _ _
      have g7:A3<18446744073709551616:=by rw[dt.out,Hf.out];exact fI _ _ _
      have gj:A2&&& 9259542123273814144=0→∀ y∈l2.take 8,y.toNat<128:=fun hz=>by
       rw[dr.out,Hf.out] at hz;have:=UV (by omega) hz
       rwa [Nat.sub_self,oC] at this
      have gl:A3&&& 9259542123273814144=0→∀ y∈(l2.drop 8).take 8,y.toNat<128:=fun hz=>by
       rw[dt.out,Hf.out] at hz;exact iE
      have ew:bits .or .u64 (A2:Int) (A3:Int)=((A2||| A3:Nat):Int):=u64_or_nat A2 A3 gz g7;have cw:A2||| A3<18446744073709551616:=Nat.or_lt_two_pow (n:=64) gz g7
      have au:bits .and .u64 ((A2||| A3:Nat):Int) 9259542123273814144=(((A2||| A3)&&& 9259542123273814144:Nat):Int):=u64_and_nat _ 9259542123273814144 cw (by omega);have k2:(A2||| A3)&&& 9259542123273814144=0→∀ y∈l2.take 16,y.toNat<128:=fun eh=>by
       obtain⟨e1,e2⟩:=(Lib.or_mask A2 A3 _).1 eh;exact YE (a:=8) (c:=8) (gj e1) (gl e2)
      obtain⟨O2,f6⟩:∃ O2,A2||| A3=O2:=⟨_,rfl⟩
      rw[f6] at ew au k2;obtain⟨Z2,gg⟩:∃ Z2,O2&&& 9259542123273814144=Z2:=⟨_,rfl⟩
      rw[gg] at au k2;clear gj gl cw f6 gg;by_cases hz2:Z2=0
      ·have fe:((Z2:Int)==0)=true:=by simp[hz2]
       have v3:Lib.validD (l2.drop 16)=ak:=by rw[←Lib.validD_ascii 16 l2 (k2 hz2)];exact v2
       obtain⟨l3,dm⟩:∃ l3,l2.drop 16=l3:=⟨_,rfl⟩
       have C3:YCells w b (o+1+8+16) l3:=dm▸C2.drop 16;have M3:l3.length=j:=by rw[←dm,vE];omega
       rw[dm] at v3;clear k2 hz2 v2 C2 dm;go_big_quiet ((go_at_call 178;refine Calls.quiet_of (cA _ _ _ (by omega) (by omega) (by omega) (by omega))));have hb2:zB w (wq.drewN nq):=qJ hb1 nq;generalize wq.drewN nq=wq2 at hb2 ⊢;clear cA hb1;go_wp2;go_loopg [0] (j+1) (fun g2 s0 wx=>zB w wx∧VRel w b ak g2 j s0)
       case atStart=>exact⟨hb2,VRel.mk M3 C3 v3 (by omega) (by omega)⟩
       obtain⟨di,o3,u,rfl,Cu,vu,ir,i7⟩:=hrel;clear hb2 C3 v3 M3;by_cases c32:32<u.length
       ·obtain⟨g3,rfl⟩:∃ g3,gk=g3+1:=⟨gk-1,by omega⟩
        obtain⟨v,cj⟩:∃ v,u.length=v+32:=⟨u.length-32,by omega⟩
        have hv0:¬ v=0:=by omega
        rw[cj] at ir i7 ⊢;have bc:(32:Int)<(v:Int)+32:=by omega
        have d9:decide ((32:Int)<(v:Int)+32)=true:=xU bc;have js:(8:Int)≤(v:Int)+32:=by omega
        have jc:(16:Int)≤(v:Int)+32:=by omega
        have jd:(24:Int)≤(v:Int)+32:=by omega
        have cB:=C7g (Cu.bL di);obtain⟨f,Hf⟩:=zM (WF o3 u);rw[←Hf.out] at cB;obtain⟨B0,dv⟩:=zM (f (o3));have jl:f (o3)=B0:=dv.out.symm;have g8:B0<18446744073709551616:=by rw[dv.out,Hf.out];exact fI _ _ _
        have gp:B0&&& 9259542123273814144=0→∀ y∈(u).take 8,y.toNat<128:=fun hz=>by
         rw[dv.out,Hf.out] at hz;have:=UV (by omega) hz
         rwa [Nat.sub_self,oC] at this
        obtain⟨B1,dw⟩:=zM (f (o3+8));have jn:f (o3+8)=B1:=dw.out.symm;have g9:B1<18446744073709551616:=by rw[dw.out,Hf.out];exact fI _ _ _
        have gq:B1&&& 9259542123273814144=0→∀ y∈(u.drop 8).take 8,y.toNat<128:=fun hz=>by
         rw[dw.out,Hf.out] at hz;exact iE
        obtain⟨B2,dx⟩:=zM (f (o3+16));have jo:f (o3+16)=B2:=dx.out.symm;have ie:B2<18446744073709551616:=by rw[dx.out,Hf.out];exact fI _ _ _
        have gu:B2&&& 9259542123273814144=0→∀ y∈(u.drop 16).take 8,y.toNat<128:=fun hz=>by
         rw[dx.out,Hf.out] at hz;exact iE
        obtain⟨B3,dy⟩:=zM (f (o3+24));have jp:f (o3+24)=B3:=dy.out.symm;have ig:B3<18446744073709551616:=by rw[dy.out,Hf.out];exact fI _ _ _
        have gw:B3&&& 9259542123273814144=0→∀ y∈(u.drop 24).take 8,y.toNat<128:=fun hz=>by
         rw[dy.out,Hf.out] at hz;exact iE
        have iw:bits .or .u64 (B0:Int) (B1:Int)=((B0||| B1:Nat):Int):=u64_or_nat B0 B1 g8 g9;have ix:bits .or .u64 (B2:Int) (B3:Int)=((B2||| B3:Nat):Int):=u64_or_nat B2 B3 ie ig;have fj:B0||| B1<18446744073709551616:=Nat.or_lt_two_pow (n:=64) g8 g9
        have fk:B2||| B3<18446744073709551616:=Nat.or_lt_two_pow (n:=64) ie ig
        have gi:bits .or .u64 ((B0||| B1:Nat):Int) ((B2||| B3:Nat):Int)=(((B0||| B1)||| (B2||| B3):Nat):Int):=u64_or_nat _ _ fj fk;have ii:(B0||| B1)||| (B2||| B3)<18446744073709551616:=Nat.or_lt_two_pow (n:=64) fj fk
        have ah:bits .and .u64 (((B0||| B1)||| (B2||| B3):Nat):Int) 9259542123273814144=((((B0||| B1)||| (B2||| B3))&&& 9259542123273814144:Nat):Int):=u64_and_nat _ 9259542123273814144 ii (by omega);have k3:((B0||| B1)||| (B2||| B3))&&& 9259542123273814144=0→∀ y∈u.take 32,y.toNat<128:=fun eh=>by
         obtain⟨ik,il⟩:=(Lib.or_mask _ _ _).1 eh;obtain⟨e0,e1⟩:=(Lib.or_mask _ _ _).1 ik;obtain⟨e2,e3⟩:=(Lib.or_mask _ _ _).1 il;exact YE (a:=24) (c:=8) (YE (a:=16) (c:=8) (YE (a:=8) (c:=8) (gp e0) (gq e1)) (gu e2)) (gw e3)
        obtain⟨P1,ei⟩:∃ P1,B0||| B1=P1:=⟨_,rfl⟩
        obtain⟨P2,eo⟩:∃ P2,B2||| B3=P2:=⟨_,rfl⟩
        rw[ei,eo] at gi ah k3;rw[ei] at iw;rw[eo] at ix;obtain⟨P3,f9⟩:∃ P3,P1||| P2=P3:=⟨_,rfl⟩
        rw[f9] at gi ah k3;obtain⟨Z3,gh⟩:∃ Z3,P3&&& 9259542123273814144=Z3:=⟨_,rfl⟩
        rw[gh] at ah k3;clear gp gq gu gw fj fk ii ei eo f9 gh;by_cases hz3:Z3=0
        ·have fh:((Z3:Int)==0)=true:=by simp[hz3]
         have v4:Lib.validD (u.drop 32)=ak:=by rw[←Lib.validD_ascii 32 u (k3 hz3)];exact vu
         have M4:(u.drop 32).length=v:=by rw[vE];omega
         clear k3 hz3;go_wp2_with fail
         go_big_quiet ((go_at_call 178;refine Calls.quiet_of (cB _ _ _ (by omega) (by omega) (by omega) (by omega))));go_wp2;go_roundg g3
         case measure=>omega
         case rel=>exact⟨qJ di nq,VRel.mk M4 (Cu.drop 32) v4 (by omega) (by omega)⟩
        have fh:((Z3:Int)==0)=false:=by simp;omega
        clear k3 hz3;go_wp2_with fail
        go_big_quiet ((go_at_call 178;refine Calls.quiet_of (cB _ _ _ (by omega) (by omega) (by omega) (by omega))));go_wp2;go_roundg g'
        case measure=>omega
        case rel=>exact⟨qJ di nq,VRel.mk cj Cu vu (by omega) (by omega)⟩
       have bc:¬ ((32:Int)<(u.length:Int)):=by omega
       have d9:decide ((32:Int)<(u.length:Int))=false:=yC bc;go_wp2_with fail
       go_big_quiet (fail);go_wp2;go_roundg g'
       case measure=>omega
       case rel=>exact⟨qJ di nq,VRel.mk rfl Cu vu (by omega) (by omega)⟩
      have fe:((Z2:Int)==0)=false:=by simp;omega
      clear k2 hz2;go_big_quiet ((go_at_call 178;refine Calls.quiet_of (cA _ _ _ (by omega) (by omega) (by omega) (by omega))));exact XY
     have ba:¬ ((16:Int)<(k:Int)):=by omega
     have dz:decide ((16:Int)<(k:Int))=false:=yC ba;go_big_quiet (fail);exact XY
    have fd:((Z1:Int)==0)=false:=by simp;omega
    clear hz1 dn;go_wp2_with (go_at_call 178;refine ee.mono ?_;rintro e W1 ⟨rfl,q1,rfl⟩)
    go_roundg g'
    case measure=>omega
    case rel=>exact⟨qJ ag q1,VRel.mk M1 C1 v1 (by omega) (by omega)⟩
   have ij:¬ ((8:Int)<(m:Int)):=by omega
   go_wp2
   all_goals
    go_roundg g'
    case measure=>omega
    case rel=>first|exact⟨ag,VRel.mk M1 C1 v1 (by omega) (by omega)⟩|exact⟨ag,VRel.nil (l:=l1) (by omega) v1 (by omega)⟩
  have iq:128≤x0.toNat:=by omega
  have bn:¬ ((x0.toNat:Int)<128):=by omega
  obtain⟨x1,hx1⟩:∃ x1,l.getD 1 0=x1:=⟨_,rfl⟩
  obtain⟨x2,hx2⟩:∃ x2,l.getD 2 0=x2:=⟨_,rfl⟩
  obtain⟨x3,hx3⟩:∃ x3,l.getD 3 0=x3:=⟨_,rfl⟩
  have l1:=x1.toNat_lt;have l2:=x2.toNat_lt;have l3:=x3.toNat_lt;have hne:l≠[]:=fun h=>by rw[h] at h0;simp at h0
  have ac:=Lib.validD_lead l hne (by rw[hx0];exact iq);rw[hx0,hx1,hx2,hx3,hv] at ac;have hc0:=bh.1 x0.toNat cu;have bk:Lib.firstT x0.toNat<256:=by rcases Lib.firstT_cases x0.toNat with h|h|h|h|h|h|h|h|h <;> omega
  obtain⟨X,hX⟩:∃ X,Lib.firstT x0.toNat=X:=⟨_,rfl⟩
  rw[hX] at hc0 bk ac;have h7:=E0y ⟨X,bk⟩;simp only at h7;have ha0:wr.cell? ⟨1,X / 16*2,none⟩=some (.int .u8 (Lib.accLo (X / 16))):=by rw[mT];exact(bh.2 (X / 16) (by omega)).1
  have ha1:wr.cell? ⟨1,X / 16*2+1,none⟩=some (.int .u8 (Lib.accHi (X / 16))):=by rw[mT];exact(bh.2 (X / 16) (by omega)).2
  obtain⟨LO,fz⟩:∃ LO,Lib.accLo (X / 16)=LO:=⟨_,rfl⟩
  obtain⟨HI,fy⟩:∃ HI,Lib.accHi (X / 16)=HI:=⟨_,rfl⟩
  rw[fz] at ha0 ac;rw[fy] at ha1 ac;obtain⟨SZ,io⟩:∃ SZ,X%8=SZ:=⟨_,rfl⟩
  rw[io] at ac;clear bh hT hX hv fz fy hne;by_cases s2:SZ=2
  ·as_aux_lemma=>
   subst s2;have bg:(X:Int)%8=2:=by omega
   simp only[Lib.checkN,Nat.reduceEqDiff,if_true,if_false] at ac;go_upto_region 18 with fail
   go_cut [103] from 85 to 103 (fun c wx=>c = .bool (decide (l.length<2∨x1.toNat<LO∨HI<x1.toNat))∧zB w wx)
   case first=>
    by_cases q0:l.length<2
    ·have df:(l.length:Int)<2:=by omega
     exact Qe4
    have df:¬ ((l.length:Int)<2):=by omega
    have hz1:(1:Int)<(l.length:Int):=by omega
    have c1:(wr.alloc (.cells #[.int .u8 (LO:Int),.int .u8 (HI:Int)] 219)).cell? ⟨b,o+1,none⟩=some (.int .u8 (x1.toNat:Int)):=zQ ((zH _ _).alloc (zG _) _) (av 1 x1 (by rw[←hx1];exact getD_some (by omega)));by_cases q1:x1.toNat<LO
    ·have dg:(x1.toNat:Int)<(LO:Int):=by omega
     exact Qe4
    have dg:¬ ((x1.toNat:Int)<(LO:Int)):=by omega
    by_cases q2:HI<x1.toNat
    ·have dh:(HI:Int)<(x1.toNat:Int):=by omega
     exact Qe4
    have dh:¬ ((HI:Int)<(x1.toNat:Int)):=by omega
    go_big_quiet (fail);go_wp2;go_meet;exact⟨congrArg Value.bool (yC (p:=l.length<2∨x1.toNat<LO∨HI<x1.toNat) (by omega)).symm,qJ (ag.alloc ag.size _) _⟩
   obtain⟨rfl,aj⟩:=hcut;by_cases hb:l.length<2∨x1.toNat<LO∨HI<x1.toNat
   ·have bu:decide (l.length<2∨x1.toNat<LO∨HI<x1.toNat)=true:=xU hb;exact eV
   have bu:decide (l.length<2∨x1.toNat<LO∨HI<x1.toNat)=false:=yC hb;rw[zC hb] at ac;have iy:(2:Int)≤(l.length:Int):=by omega
   go_wp2
   all_goals
    go_roundg g'
    case measure=>omega
    case rel=>first|exact⟨aj,VRel.mk (vE ..) (hC.drop 2) ac.symm (by omega) (by omega)⟩|exact⟨aj,VRel.nil (l:=l.drop 2) (by rw[vE];omega) ac.symm (by omega)⟩
  by_cases s3:SZ=3
  ·as_aux_lemma=>
   subst s3;have bg:(X:Int)%8=3:=by omega
   simp only[Lib.checkN,Nat.reduceEqDiff,if_true,if_false] at ac;go_upto_region 22 with fail
   go_cut [138] from 108 to 138 (fun c wx=>c = .bool (decide (l.length<3∨x1.toNat<LO∨HI<x1.toNat∨x2.toNat<128∨191<x2.toNat))∧zB w wx)
   case first=>
    by_cases q0:l.length<3
    ·have df:(l.length:Int)<3:=by omega
     exact Qe3
    have df:¬ ((l.length:Int)<3):=by omega
    have hz1:(1:Int)<(l.length:Int):=by omega
    have c1:(wr.alloc (.cells #[.int .u8 (LO:Int),.int .u8 (HI:Int)] 219)).cell? ⟨b,o+1,none⟩=some (.int .u8 (x1.toNat:Int)):=zQ ((zH _ _).alloc (zG _) _) (av 1 x1 (by rw[←hx1];exact getD_some (by omega)));have hz2:(2:Int)<(l.length:Int):=by omega
    have c2:(wr.alloc (.cells #[.int .u8 (LO:Int),.int .u8 (HI:Int)] 219)).cell? ⟨b,o+2,none⟩=some (.int .u8 (x2.toNat:Int)):=zQ ((zH _ _).alloc (zG _) _) (av 2 x2 (by rw[←hx2];exact getD_some (by omega)));by_cases q1:x1.toNat<LO
    ·have dg:(x1.toNat:Int)<(LO:Int):=by omega
     exact Qe3
    have dg:¬ ((x1.toNat:Int)<(LO:Int)):=by omega
    by_cases q2:HI<x1.toNat
    ·have dh:(HI:Int)<(x1.toNat:Int):=by omega
     exact Qe3
    have dh:¬ ((HI:Int)<(x1.toNat:Int)):=by omega
    by_cases q3:x2.toNat<128
    ·have fq:(x2.toNat:Int)<128:=by omega
     exact Qe3
    have fq:¬ ((x2.toNat:Int)<128):=by omega
    by_cases q4:191<x2.toNat
    ·have fu:(191:Int)<(x2.toNat:Int):=by omega
     exact Qe3
    have fu:¬ ((191:Int)<(x2.toNat:Int)):=by omega
    go_big_quiet (fail);go_wp2;go_meet;exact⟨congrArg Value.bool (yC (p:=l.length<3∨x1.toNat<LO∨HI<x1.toNat∨x2.toNat<128∨191<x2.toNat) (by omega)).symm,qJ (ag.alloc ag.size _) _⟩
   obtain⟨rfl,aj⟩:=hcut;by_cases hb:l.length<3∨x1.toNat<LO∨HI<x1.toNat∨x2.toNat<128∨191<x2.toNat
   ·have bu:decide (l.length<3∨x1.toNat<LO∨HI<x1.toNat∨x2.toNat<128∨191<x2.toNat)=true:=xU hb;exact eV
   have bu:decide (l.length<3∨x1.toNat<LO∨HI<x1.toNat∨x2.toNat<128∨191<x2.toNat)=false:=yC hb;rw[zC hb] at ac;have iz:(3:Int)≤(l.length:Int):=by omega
   go_wp2
   all_goals
    go_roundg g'
    case measure=>omega
    case rel=>first|exact⟨aj,VRel.mk (vE ..) (hC.drop 3) ac.symm (by omega) (by omega)⟩|exact⟨aj,VRel.nil (l:=l.drop 3) (by rw[vE];omega) ac.symm (by omega)⟩
  by_cases s4:SZ=4
  ·as_aux_lemma=>
   subst s4;have bg:(X:Int)%8=4:=by omega
   simp only[Lib.checkN,Nat.reduceEqDiff,if_true,if_false] at ac;go_upto_region 26 with fail
   go_cut [185] from 143 to 185 (fun c wx=>c = .bool (decide (l.length<4∨x1.toNat<LO∨HI<x1.toNat∨x2.toNat<128∨191<x2.toNat∨x3.toNat<128∨191<x3.toNat))∧zB w wx)
   case first=>
    by_cases q0:l.length<4
    ·have df:(l.length:Int)<4:=by omega
     exact XZ
    have df:¬ ((l.length:Int)<4):=by omega
    have hz1:(1:Int)<(l.length:Int):=by omega
    have c1:(wr.alloc (.cells #[.int .u8 (LO:Int),.int .u8 (HI:Int)] 219)).cell? ⟨b,o+1,none⟩=some (.int .u8 (x1.toNat:Int)):=zQ ((zH _ _).alloc (zG _) _) (av 1 x1 (by rw[←hx1];exact getD_some (by omega)));have hz2:(2:Int)<(l.length:Int):=by omega
    have c2:(wr.alloc (.cells #[.int .u8 (LO:Int),.int .u8 (HI:Int)] 219)).cell? ⟨b,o+2,none⟩=some (.int .u8 (x2.toNat:Int)):=zQ ((zH _ _).alloc (zG _) _) (av 2 x2 (by rw[←hx2];exact getD_some (by omega)));have hz3:(3:Int)<(l.length:Int):=by omega
    have c3:(wr.alloc (.cells #[.int .u8 (LO:Int),.int .u8 (HI:Int)] 219)).cell? ⟨b,o+3,none⟩=some (.int .u8 (x3.toNat:Int)):=zQ ((zH _ _).alloc (zG _) _) (av 3 x3 (by rw[←hx3];exact getD_some (by omega)));by_cases q1:x1.toNat<LO
    ·have dg:(x1.toNat:Int)<(LO:Int):=by omega
     exact XZ
    have dg:¬ ((x1.toNat:Int)<(LO:Int)):=by omega
    by_cases q2:HI<x1.toNat
    ·have dh:(HI:Int)<(x1.toNat:Int):=by omega
     exact XZ
    have dh:¬ ((HI:Int)<(x1.toNat:Int)):=by omega
    by_cases q3:x2.toNat<128
    ·have fq:(x2.toNat:Int)<128:=by omega
     exact XZ
    have fq:¬ ((x2.toNat:Int)<128):=by omega
    by_cases q4:191<x2.toNat
    ·have fu:(191:Int)<(x2.toNat:Int):=by omega
     exact XZ
    have fu:¬ ((191:Int)<(x2.toNat:Int)):=by omega
    by_cases q5:x3.toNat<128
    ·have ja:(x3.toNat:Int)<128:=by omega
     exact XZ
    have ja:¬ ((x3.toNat:Int)<128):=by omega
    by_cases q6:191<x3.toNat
    ·have jb:(191:Int)<(x3.toNat:Int):=by omega
     exact XZ
    have jb:¬ ((191:Int)<(x3.toNat:Int)):=by omega
    go_big_quiet (fail);go_wp2;go_meet;exact⟨congrArg Value.bool (yC (p:=l.length<4∨x1.toNat<LO∨HI<x1.toNat∨x2.toNat<128∨191<x2.toNat∨x3.toNat<128∨191<x3.toNat) (by omega)).symm,qJ (ag.alloc ag.size _) _⟩
   obtain⟨rfl,aj⟩:=hcut;by_cases hb:l.length<4∨x1.toNat<LO∨HI<x1.toNat∨x2.toNat<128∨191<x2.toNat∨x3.toNat<128∨191<x3.toNat
   ·have bu:decide (l.length<4∨x1.toNat<LO∨HI<x1.toNat∨x2.toNat<128∨191<x2.toNat∨x3.toNat<128∨191<x3.toNat)=true:=xU hb;exact eV
   have bu:decide (l.length<4∨x1.toNat<LO∨HI<x1.toNat∨x2.toNat<128∨191<x2.toNat∨x3.toNat<128∨191<x3.toNat)=false:=yC hb;rw[zC hb] at ac;have i5:(4:Int)≤(l.length:Int):=by omega
   go_wp2
   all_goals
    go_roundg g'
    case measure=>omega
    case rel=>first|exact⟨aj,VRel.mk (vE ..) (hC.drop 4) ac.symm (by omega) (by omega)⟩|exact⟨aj,VRel.nil (l:=l.drop 4) (by rw[vE];omega) ac.symm (by omega)⟩
  as_aux_lemma=>
  have e2:¬ ((X:Int)%8=2):=by omega
  have e3:¬ ((X:Int)%8=3):=by omega
  have e4:¬ ((X:Int)%8=4):=by omega
  have je:(((X:Int)%8)==2)=false:=by simp;omega
  have jg:(((X:Int)%8)==3)=false:=by simp;omega
  have jh:(((X:Int)%8)==4)=false:=by simp;omega
  simp only[Lib.checkN,s2,s3,s4,if_false] at ac;go_wp2
  all_goals (go_ret;exact⟨by first|rfl|rw[ac],ag.alloc ag.size _⟩)
 have fw:¬ ((0:Int)<(l.length:Int)):=by omega
 have i6:l = []:=uE (by omega);rw[i6,Lib.validD_nil] at hv;subst hv;go_wp2;go_ret;exact⟨rfl,ag⟩
end L
end Go.Proofs.YthcomdofaaeihaaGreatDoor
