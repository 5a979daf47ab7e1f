import Derived.Test.YtgaoojpakjjdnaaGreatDoorU47
import Derived.Test.YtgaoojpakjjdnaaGreatDoorU38
import Derived.Test.YtgaoojpakjjdnaaGreatDoorU39
set_option maxHeartbeats 32000000
set_option maxRecDepth 100000
namespace Go.Proofs.YtgaoojpakjjdnaaGreatDoor
namespace L
open Go.RowKit
set_option linter.unusedVariables false
def B0k:(n k:Nat)→BO (BI n)
 | _,0=>⟨[],[]⟩
 | n+1,k+1=>⟨[⟨4,[],[],[(B0k n k:BI (n+1))]⟩],[]⟩
 | 0,_+1=>⟨[],[]⟩
def B1p:Nat→List UInt8
 | 0=>[]
 | k+1=>34::(2*UInt8.ofNat k)::B1p k
theorem B3c:∀ k,(B1p k).length=2*k
 | 0=>rfl
 | k+1=>by
  show(B1p k).length+1+1=_
  rw[B3c k]
  omega
theorem C4n:∀ k,k < 20→(C9i A4d 19 0 (B0k 19 k)).2=if k < 12 then 0 else 10:=by decide +kernel
def isE {α:Type}(e:Int):Except Int α→Bool
 | .error x=>decide (x=e)
 | .ok _=>false
theorem C9t {α:Type}{e:Int}{r:Except Int α}(h:isE e r=true):r = .error e:=by
 cases r with
 | error x=>exact congrArg Except.error (of_decide_eq_true h)
 | ok a=>cases h
theorem C0s:∀ k,k < 20→12≤k→isE 10 (A7i A4d 0 (B1p k))=true:=by decide +kernel
theorem C4p:∀ k,k < 12→A7i A4d 0 (B1p k) = .ok (B0k 11 k)
 | 0,_=>by kernel_rfl
 | 1,_=>by kernel_rfl
 | 2,_=>by kernel_rfl
 | 3,_=>by kernel_rfl
 | 4,_=>by kernel_rfl
 | 5,_=>by kernel_rfl
 | 6,_=>by kernel_rfl
 | 7,_=>by kernel_rfl
 | 8,_=>by kernel_rfl
 | 9,_=>by kernel_rfl
 | 10,_=>by kernel_rfl
 | 11,_=>by kernel_rfl
 | k+12,h=>by omega
theorem C0r:∀ n k,BOk (n+1) (B0k n k)
 | 0,0=>⟨fun v hv=>(List.not_mem_nil hv).elim,by show 0*_≤_;simp,fun r hr=>(List.not_mem_nil hr).elim,by show 0*_≤_;simp⟩
 | _+1,0=>⟨fun v hv=>(List.not_mem_nil hv).elim,by show 0*_≤_;simp,fun r hr=>(List.not_mem_nil hr).elim,by show 0*_≤_;simp⟩
 | 0,_+1=>⟨fun v hv=>(List.not_mem_nil hv).elim,by show 0*_≤_;simp,fun r hr=>(List.not_mem_nil hr).elim,by show 0*_≤_;simp⟩
 | n+1,k+1=>by
  refine⟨fun v hv=>?_,by show 1*80≤_;unfold reachBytes;decide,fun r hr=>(List.not_mem_nil hr).elim,by show 0*_≤_;simp⟩
  have hv:v=⟨4,[],[],[B0k n k]⟩:=List.mem_singleton.1 hv
  subst hv
  refine⟨⟨by show _≤(4:Int);decide,by show(4:Int)≤_;decide⟩,fun b hb=>(List.not_mem_nil hb).elim,by show 0*_≤_;simp,fun l hl=>(List.not_mem_nil hl).elim,by show 0*_≤_;simp,fun s hs=>?_,by show 1*48≤_;unfold reachBytes;decide⟩
  rw[List.mem_singleton.1 hs]
  exact C0r n k
theorem C8r {n:Nat}{w:World}:BRd n w (.slice none 0 0) (.slice none 0 0) ⟨[],[]⟩:=⟨RdL.nil _ _ _,RdL.nil _ _ _⟩
theorem C8x (w:World) (a b:UInt8):Row ekY (w.alloc (.cells #[.int .u8 (a.toNat:Int),.int .u8 (b.toNat:Int)] 5)) w.heap.size (.slice (some ⟨w.heap.size,0,none⟩) 2 2) [a,b]:=
 ⟨rfl,.inr ⟨w.heap.size,2,_,rfl,Nat.le_refl _,heap_alloc_new w _,Nat.le_refl _,by unfold maxLen;omega,rfl,rfl⟩⟩
def C3z (X k:Nat) (w:World) (a0:Option Addr) (n0 c0:Nat) (ao:Option Addr) (m c:Nat):Prop:=
 ∀ V:World,(∀ j,X < j→j < w.heap.size→V.heap[j]?=w.heap[j]?)→(∀ d,k≤d→BRd d V (.slice a0 n0 c0) (.slice none 0 0) (B0k d k))∧RdL 1 YAt V (.slice ao m c) (B1p k)
theorem C4o {V:World}{g s:Nat}{a0:Option Addr}{n0 c0 d:Nat}{b:BO (BI d)}(h:BRd d V (.slice a0 n0 c0) (.slice none 0 0) b) (h1:V.heap[s]?=some (.cells #[.slice a0 n0 c0,.slice none 0 0] 29 (0,0))) (h2:V.heap[g]?=some (.cells #[.int .i64 4,.slice none 0 0,.slice none 0 0,.slice (some ⟨s,0,none⟩) 1 1] 62 (0,0))):BRd (d+1) V (.slice (some ⟨g,0,none⟩) 1 1) (.slice none 0 0) ⟨[⟨4,[],[],[(b:BI (d+1))]⟩],[]⟩:=by
 have hs:RdL 2 (BAt (d+1)) V (.slice (some ⟨s,0,none⟩) 1 1) [(b:BI (d+1))]:=by
  refine⟨_,1,1,rfl,rfl,Nat.le_refl _,by unfold maxLen;omega,(fun e=>by cases e),fun x hx k a ha=>?_⟩
  cases hx
  match k,ha with
  | 0,ha=>
   obtain rfl:b=a:=Option.some.inj ha
   refine⟨_,_,A0a h1 0 _ rfl,?_,h.1,h.2⟩
   rw[A0d,A0d]
   exact A0a h1 1 _ rfl
  | k+1,ha=>cases ha
 refine⟨⟨_,1,1,rfl,rfl,Nat.le_refl _,by unfold maxLen;omega,(fun e=>by cases e),fun x hx k a ha=>?_⟩,RdL.nil _ _ _⟩
 cases hx
 match k,ha with
 | 0,ha=>
  obtain rfl:(⟨4,[],[],[(b:BI (d+1))]⟩:VI (BI (d+1)))=a:=Option.some.inj ha
  refine⟨_,_,_,A0a h2 0 _ rfl,?_,?_,?_,RdL.nil _ _ _,RdL.nil _ _ _,hs⟩ <;> rw[A0d,A0d]
  ·exact A0a h2 1 _ rfl
  ·exact A0a h2 2 _ rfl
  ·exact A0a h2 3 _ rfl
 | k+1,ha=>cases ha
theorem deep_walk {B:Nat}{w:World}(hg:Gl B w) (hB:B≤w.heap.size) (hT:Tabs w) (n:Int) (dy : -9223372036854775808≤n) (dz:n≤9223372036854775807) :
  Calls Tryz.prog 6 #[.int .i64 n] w fun e w'=>e = .returned (.bool true)∧Below w.heap.size w w':=by
 have ha:=C0e hg hB hT
 go_enter Tryz.func6,Tryz.ntmps6
 go_wp2_with fail
 refine ha.mono ?_
 rintro e w1 ⟨rfl,hb1⟩
 have hf:=B3e (hg.later (hb1.mono hB)) (Nat.le_trans hB hb1.size)
 clear ha
 go_wp2_with fail
 refine hf.mono ?_
 rintro e w2 ⟨am,nm,cm,ae,ne,ce,rfl,hG,hb2⟩
 have ah:Below w.heap.size w w2:=KBT hb1 hb2
 clear hf
 by_cases hlo:n < 1
 ·have bc:Below w.heap.size w (w2.alloc (.cells #[.slice am nm cm,.slice ae ne ce] 25)):=ah.alloc ah.size _
  go_wp2_with fail
  go_ret
  exact⟨rfl,bc⟩
 by_cases hhi:20 < n
 ·have bc:Below w.heap.size w (w2.alloc (.cells #[.slice am nm cm,.slice ae ne ce] 25)):=ah.alloc ah.size _
  go_wp2_with fail
  go_ret
  exact⟨rfl,bc⟩
 obtain⟨q,Hq⟩:∃ q:Nat,Hid (n=(q:Int)+1):=⟨(n - 1).toNat,by show _=_;omega⟩
 have br:q < 20:=by have:=Hq.out;omega
 obtain⟨W3,bg⟩:∃ W3,Hid (W3=(w2.alloc (.cells #[.slice am nm cm,.slice ae ne ce] 25)).alloc (.cells #[.slice none 0 0,.slice none 0 0] 29)):=⟨_,rfl⟩
 have hb3:Below w2.heap.size w2 W3:=by rw[bg.out];exact((Below.refl _ _).alloc (Nat.le_refl _) _).alloc (by simp) _
 have z3:w2.heap.size+2≤W3.heap.size:=by rw[bg.out];simp
 have eh:W3.heap.size≤w2.heap.size+2:=by rw[bg.out];simp
 have x3:W3.heap[w2.heap.size]?=some (.cells #[.slice am nm cm,.slice ae ne ce] 25 (0,0)):=by rw[bg.out];exact A0l _ _ _
 have x4:W3.heap[w2.heap.size+1]?=some (.cells #[.slice none 0 0,.slice none 0 0] 29 (0,0)):=by rw[bg.out];exact A0i _ _ _
 have hn:n - 1=(q:Int):=by have:=Hq.out;omega
 have hst:C3z (w2.heap.size+1) 0 W3 none 0 0 none 0 0:=fun V _=>⟨fun d _=>by
  cases d <;> exact C8r,RdL.nil _ _ _⟩
 have hst:Hid (C3z (w2.heap.size+1) 0 W3 none 0 0 none 0 0):=hst
 go_upto_region 9 with fail
 rw[←bg.out]
 go_loopg [6,29] q (fun m s6 dw wr=>∃ (k:Nat) (a0:Option Addr) (n0 c0:Nat) (ao:Option Addr) (c:Nat),k+m=q∧dw = .int .i64 (k:Int)∧s6 = .slice ao (2*k) c∧Hid (C3z (w2.heap.size+1) k wr a0 n0 c0 ao (2*k) c)∧wr.heap[w2.heap.size+1]?=some (.cells #[.slice a0 n0 c0,.slice none 0 0] 29 (0,0))∧wr.heap[w2.heap.size]?=some (.cells #[.slice am nm cm,.slice ae ne ce] 25 (0,0))∧w2.heap.size+2≤wr.heap.size∧Below w2.heap.size w2 wr)
 case atStart=>exact⟨0,none,0,0,none,0,by omega,rfl,rfl,hst,x4,x3,z3,hb3⟩
 case round=>
  obtain⟨k,a0,n0,c0,ao,c,hk,rfl,rfl,HD,y1,y0,hz,hb⟩:=hrel
  by_cases hlt:k < q
  ·have cw:decide ((k:Int) < (q:Int))=true:=by simp;omega
   obtain⟨W5,au⟩:∃ W5,Hid (W5=(wr.alloc (.cells #[.slice a0 n0 c0,.slice none 0 0] 29)).alloc (.cells #[.int .i64 4,.slice none 0 0,.slice none 0 0,.slice (some ⟨wr.heap.size,0,none⟩) 1 1] 62)):=⟨_,rfl⟩
   have ac:Below wr.heap.size wr W5:=by rw[au.out];exact((Below.refl _ _).alloc (Nat.le_refl _) _).alloc (by simp) _
   have u1:W5.heap[wr.heap.size]?=some (.cells #[.slice a0 n0 c0,.slice none 0 0] 29 (0,0)):=by rw[au.out];exact A0l _ _ _
   have u2:W5.heap[wr.heap.size+1]?=some (.cells #[.int .i64 4,.slice none 0 0,.slice none 0 0,.slice (some ⟨wr.heap.size,0,none⟩) 1 1] 62 (0,0)):=by rw[au.out];exact A0i _ _ _
   have z5:wr.heap.size+2≤W5.heap.size:=by rw[au.out];simp
   have ei:W5.heap.size≤wr.heap.size+2:=by rw[au.out];simp
   have y5:=(ac.block (w2.heap.size+1) (by omega)).trans y1
   obtain⟨dn,c1'⟩:=A0s y1
   obtain⟨bk,bl⟩:=A0s y5
   have f0:=A0b y5 0
   have f1:=A0b y5 1
   rw[au.out] at bk bl f0 f1
   go_upto_region 11 with fail
   rw[←au.out]
   obtain⟨W6,bh⟩:∃ W6,Hid (W6=(W5.setCell ⟨w2.heap.size+1,0,none⟩ (.slice (some ⟨wr.heap.size+1,0,none⟩) 1 1)).setCell ⟨w2.heap.size+1,1,none⟩ (.slice none 0 0)):=⟨_,rfl⟩
   have df:∀ j,j≠w2.heap.size+1→W6.heap[j]?=W5.heap[j]?:=fun j hj=>by rw[bh.out];exact(Below.heap_setCell _ _ _ j hj).trans (Below.heap_setCell _ _ _ j hj)
   have x6:W6.heap[w2.heap.size+1]?=some (.cells #[.slice (some ⟨wr.heap.size+1,0,none⟩) 1 1,.slice none 0 0] 29 (0,0)):=by rw[bh.out];exact heap_setCell_same _ _ 1 _ _ _ (heap_setCell_same _ _ 0 _ _ _ y5)
   have z6:W5.heap.size≤W6.heap.size:=by rw[bh.out];simp
   have ej:W6.heap.size≤W5.heap.size:=by rw[bh.out];simp
   have cj:Below w2.heap.size w2 W6:=by rw[bh.out];exact KB_set (KB_set (hb.trans (ac.mono hb.size)) (by omega)) (by omega)
   rw[←bh.out]
   obtain⟨W7,ak⟩:∃ W7,Hid (W7=W6.alloc (.cells #[.int .u8 34,.int .u8 (2*(k:Int))] 5)):=⟨_,rfl⟩
   have bn:(2*UInt8.ofNat k).toNat=2*k:=by rw[UInt8.toNat_mul,UInt8.toNat_ofNat'];show 2*(k%256)%256=_;omega
   have dt:Row ekY W7 W6.heap.size (.slice (some ⟨W6.heap.size,0,none⟩) 2 2) [34,2*UInt8.ofNat k]:=by
    have h:=C8x W6 34 (2*UInt8.ofNat k)
    rw[bn] at h
    rw[ak.out]
    exact h
   have ag:Below W6.heap.size W6 W7:=by rw[ak.out];exact(Below.refl _ _).alloc (Nat.le_refl _) _
   have z7:W6.heap.size≤W7.heap.size:=ag.size
   have dv:∀ j,w2.heap.size+1 < j→j < wr.heap.size→W7.heap[j]?=wr.heap[j]?:=fun j h1 h2=>(ag.block j (by omega)).trans ((df j (by omega)).trans (ac.block j h2))
   obtain⟨s1,s2,s3⟩:=C8j (HD.out W7 dv).2
   have hlen:([34,2*UInt8.ofNat k].length+(B1p k).length)*ekY.bytes≤140737488355328:=by rw[s1];show(2+2*k)*1≤_;omega
   clear dn c1' bk bl f0 f1 bn
   go_wp2_with (at_builtin;rw[←ak.out];refine A1n rfl ekY _ _ rfl W6.heap.size _ [34,2*UInt8.ofNat k] (B1p k) rfl dt ao (2*k) c rfl s1 s2 s3 (by decide) hlen z7 ?_)
   intro v8 w8 dg dp
   obtain⟨g0,g1,g2,g3,g4⟩:=dp
   obtain⟨a8,n8,c8,rfl,dx⟩:=dg.shape'
   have dr:Hid (n8=2*(k+1)):=by
    show _=_
    have h:=dg.len
    rw[List.length_cons,List.length_cons,B3c] at h
    omega
   obtain rfl:n8=2*(k+1):=dr.out
   have bt:∀ j,j < W6.heap.size→w8.heap[j]?=W6.heap[j]?:=fun j hj=>(g4 j (by omega) (by simp[Value.ownBlock];omega)).trans (ag.block j hj)
   have dm:Hid (C3z (w2.heap.size+1) (k+1) w8 (some ⟨wr.heap.size+1,0,none⟩) 1 1 a8 (2*(k+1)) c8):=by
    intro V hV
    refine⟨fun d hd=>?_,(dg.keep fun j h1 h2=>hV j (by omega) h2).rdY⟩
    obtain⟨d,rfl⟩:∃ e,d=e+1:=⟨d - 1,by omega⟩
    have dh:∀ j,w2.heap.size+1 < j→j < W6.heap.size→V.heap[j]?=W5.heap[j]?:=fun j h1 h2=>(hV j h1 (by omega)).trans ((bt j h2).trans (df j (by omega)))
    exact C4o ((HD.out V fun j h1 h2=>(dh j h1 (by omega)).trans (ac.block j h2)).1 d (by omega)) ((dh _ (by omega) (by omega)).trans u1) ((dh _ (by omega) (by omega)).trans u2)
   have y8:=(bt (w2.heap.size+1) (by omega)).trans x6
   have y9:=(bt w2.heap.size (by omega)).trans ((df w2.heap.size (by omega)).trans ((ac.block w2.heap.size (by omega)).trans y0))
   have cg:Below w2.heap.size w2 w8:=cj.trans ((⟨g0.trans ag.os,g1.trans ag.tape,g2.trans ag.output,by omega,fun j hj=>bt j hj⟩:Below W6.heap.size W6 w8).mono (by omega))
   go_wp2_with fail
   go_roundg (q - (k+1))
   case measure=>omega
   case rel=>exact⟨k+1,_,_,_,a8,c8,by omega,by go_num,rfl,dm,y8,y9,by omega,cg⟩
  ·obtain rfl:k=q:=by omega
   obtain⟨bw,di⟩:=HD.out wr fun _ _ _=>rfl
   have bv:Hid (BRd 19 wr (.slice a0 n0 c0) (.slice none 0 0) (B0k 19 k)):=bw 19 (by omega)
   have HY:Hid (RdL 1 YAt wr (.slice ao (2*k) c) (B1p k)):=di
   have bu:Hid (k≤11→BRd 11 wr (.slice a0 n0 c0) (.slice none 0 0) (B0k 11 k)):=bw 11
   have dl:Below w.heap.size w wr:=KBT ah hb
   obtain⟨y2,y3⟩:=A0s y0
   obtain⟨y4,y5⟩:=A0s y1
   have cw:decide ((k:Int) < (k:Int))=false:=by simp
   have bp:=B2w (A8u (hG.below hb) (hT.below dl)) bv.out (C0r 19 k)
   rw[C4n k br] at bp
   obtain⟨E,HE⟩:∃ E:Int,Hid ((if k < 12 then(0:Int) else 10)=E):=⟨_,rfl⟩
   rw[HE.out] at bp
   clear bw di
   go_wp2_with fail
   refine bp.mono ?_
   rintro e w5 ⟨pa,pn,pc,rfl,_,ac⟩
   have aj:Below w.heap.size w w5:=KBT dl ac
   obtain⟨y2,y3⟩:=A0s ((ac.block _ (by omega)).trans y0)
   have y7:=(ac.block _ (by omega)).trans y1
   have d9:=ac.size
   by_cases h12:k < 12
   ·have hE:E=0:=by rw[←HE.out,if_pos h12]
    subst hE
    have bq:Calls Tryz.prog 9 #[.agg #[.slice am nm cm,.slice ae ne ce],.int .i64 0,.slice ao (2*k) c] w5 fun e w'=>∃ (i0:Option Addr) (j0 l0:Nat) (i1:Option Addr) (j1 l1:Nat),e = .returned (.tuple #[.agg #[.slice i0 j0 l0,.slice i1 j1 l1],.int .i64 0])∧Hid (BRd 11 w' (.slice i0 j0 l0) (.slice i1 j1 l1) (B0k 11 k))∧Below w5.heap.size w5 w':=by
     refine(A7z B2q (A8u (hG.below (KBT hb ac)) (hT.below aj)) (HY.out.below YAt.stays ac)).mono ?_
     intro e w' ho
     rw[C4p k h12] at ho
     obtain⟨c,i0,j0,l0,i1,j1,l1,h1,h2,h3,h4,_,h5⟩:=ho
     have h6:=OwnB.rd (show OwnB w5.heap.size (11+1) w' c from h4)
     have h7 : [PV.v (BL.q0 c),PV.v (BL.q1 c)] = [.slice i0 j0 l0,.slice i1 j1 l1]:=h1
     simp only[List.cons.injEq,and_true] at h7
     rw[h7.1,h7.2,show LB.pl (11+1) c=B0k 11 k from h3] at h6
     exact⟨i0,j0,l0,i1,j1,l1,h2,h6,h5⟩
    clear bp y4 y5
    go_wp2_with fail
    refine bq.mono ?_
    rintro e w6 ⟨i0,j0,l0,i1,j1,l1,rfl,hR,aw⟩
    obtain⟨W7,ak⟩:∃ W7,Hid (W7=w6.alloc (.cells #[.slice i0 j0 l0,.slice i1 j1 l1] 29)):=⟨_,rfl⟩
    have ag:Below w6.heap.size w6 W7:=by rw[ak.out];exact(Below.refl _ _).alloc (Nat.le_refl _) _
    have x7:W7.heap[w6.heap.size]?=some (.cells #[.slice i0 j0 l0,.slice i1 j1 l1] 29 (0,0)):=by rw[ak.out];exact heap_alloc_new _ _
    have ee:=aw.size
    obtain⟨y4,y5⟩:=A0s ((ag.block _ (by omega)).trans ((aw.block _ (by omega)).trans y7))
    obtain⟨y8,y9⟩:=A0s x7
    have hsm:=C0j (((bu.out (by omega)).below (KBT ac aw)).below ag) (hR.out.below ag)
    have ba:Below w.heap.size w W7:=KBT (KBT aj aw) ag
    have hle:¬ 12 < n:=by have:=Hq.out;omega
    rw[ak.out] at y4 y5 y8 y9
    clear bq y2 y3
    go_wp2_with fail
    rw[←ak.out]
    refine hsm.mono ?_
    rintro e w8 ⟨rfl,cg⟩
    have cu:Below w.heap.size w w8:=KBT ba cg
    go_wp2
    go_ret
    exact⟨rfl,cu⟩
   ·have hE:E=10:=by rw[←HE.out,if_neg h12]
    subst hE
    have bq:Calls Tryz.prog 9 #[.agg #[.slice am nm cm,.slice ae ne ce],.int .i64 0,.slice ao (2*k) c] w5 fun e w'=>∃ (i0:Option Addr) (j0 l0:Nat) (i1:Option Addr) (j1 l1:Nat),e = .returned (.tuple #[.agg #[.slice i0 j0 l0,.slice i1 j1 l1],.int .i64 10])∧Below w5.heap.size w5 w':=by
     refine(A7z B2q (A8u (hG.below (KBT hb ac)) (hT.below aj)) (HY.out.below YAt.stays ac)).mono ?_
     intro e w' ho
     rw[C9t (C0s k br (by omega))] at ho
     obtain⟨i0,j0,l0,i1,j1,l1,E,h1,⟨_,rfl,_⟩,h3⟩:=ho.open
     exact⟨i0,j0,l0,i1,j1,l1,h1,h3⟩
    clear bp y4 y5
    go_wp2_with fail
    refine bq.mono ?_
    rintro e w6 ⟨i0,j0,l0,i1,j1,l1,rfl,aw⟩
    have ba:Below w.heap.size w (w6.alloc (.cells #[.slice i0 j0 l0,.slice i1 j1 l1] 29)):=(KBT aj aw).alloc (KBT aj aw).size _
    have hle:12 < n:=by have:=Hq.out;omega
    clear bq y2 y3
    go_wp2
    go_ret
    exact⟨rfl,ba⟩
end L
end Go.Proofs.YtgaoojpakjjdnaaGreatDoor
