import Derived.Test.YtelmjekjohbmjaaGreatDoorY33
import Derived.Test.YtelmjekjohbmjaaGreatDoorY31
import Derived.Test.YtelmjekjohbmjaaGreatDoorY32
import Derived.Test.YtelmjekjohbmjaaGreatDoorY27
namespace Go.Proofs.YtelmjekjohbmjaaGreatDoor
namespace L
open Go.RowKit
set_option maxHeartbeats 1000000 in
set_option maxRecDepth 100000 in
theorem A4m {vm ve:Value}{l:List MI}{w:World}(h:RdL 3 MAt w vm l) (hve:∃ ao n cap,ve = .slice ao n cap) (x:List UInt8) :
  Calls Tryz.prog 42 #[.agg #[vm,ve],.string (S x)] w fun e w'=>e = .returned (.int .i64 (A0i (fun m=>decide (m.name=x)) l))∧Below w.heap.size w w':=by
 obtain⟨ao,n,cap,rfl,Hn,hcap⟩:=h.shape
 obtain⟨ae,ne,ce,rfl⟩:=hve
 obtain⟨W0,HW0⟩:∃ W0,Hid (W0=w.alloc (.cells #[.slice ao n cap,.slice ae ne ce] 25)):=⟨_,rfl⟩
 have hb0:Below w.heap.size w W0:=by rw[HW0.out];exact(Below.refl _ _).alloc (Nat.le_refl _) _
 have hlx:=A2f x
 go_enter Tryz.func42,Tryz.ntmps42
 go_wp2_with fail
 rw[←HW0.out]
 go_loopg [10] n (fun m i wr=>∃ k:Nat,k+m=n∧i = .int .i64 k∧Hid (∀ a∈l.take k,decide (a.name=x)=false)∧Below w.heap.size w wr)
 case atStart=>exact⟨0,by omega,rfl,by show ∀ a∈_,_;simp,hb0⟩
 case round=>
  obtain⟨k,hk,rfl,HK,hb⟩:=hrel
  by_cases hlt:k < n
  ·obtain⟨a,Ha⟩:∃ a,Hid (l[k]?=some a):=⟨l[k]'(by rw[←Hn.out];exact hlt),List.getElem?_eq_getElem (by rw[←Hn.out];exact hlt)⟩
   obtain⟨b,off,rfl,hat⟩:=(h.below MAt.stays hb).get MAt.plain Ha.out
   obtain⟨vf,vb,s0,s1,s2,hrf,hrb⟩:=hat.at
   obtain⟨af,nf,cf,rfl,_,_⟩:=hrf.shape
   obtain⟨ab,nb,cb,rfl,_,_⟩:=hrb.shape
   have hki:(k:Int) < (n:Int):=by omega
   have hla:=A2f a.name
   have hb1:Below w.heap.size w (wr.alloc (.cells #[.string (S a.name),.slice af nf cf,.slice ab nb cb] 48)):=hb.alloc hb.size _
   clear hat
   cases hq:decide (a.name=x) with
   | true=>
    have HF:Hid (A0i (fun m=>decide (m.name=x)) l=(k:Int)):=A2v Ha.out HK.out hq
    have hqb:(a.name == x)=true:=by simpa using hq
    clear hq
    go_wp2
    go_ret
    exact⟨by rw[HF.out];rfl,hb1⟩
   | false=>
    have HX:Hid (∀ a∈l.take (k+1),decide (a.name=x)=false):=by
     show ∀ a∈_,_
     rw[A0s Ha.out]
     intro y hy
     rcases List.mem_append.1 hy with hy|hy
     ·exact HK.out y hy
     ·rw[List.mem_singleton] at hy;rw[hy];exact hq
    have hqb:(a.name == x)=false:=by simpa using hq
    clear hq
    go_wp2_with fail
    go_roundg (n - (k+1))
    case measure=>omega
    case rel=>exact⟨k+1,by omega,by go_num,HX,hb1⟩
  ·have HF:Hid (A0i (fun m=>decide (m.name=x)) l = -1):=by
    have:=HK.out
    rw[List.take_of_length_le (by rw[←Hn.out];omega)] at this
    exact A1p this
   go_wp2
   go_ret
   exact⟨by rw[HF.out];rfl,hb⟩
set_option maxHeartbeats 1000000 in
set_option maxRecDepth 100000 in
theorem B6z {vm ve:Value}{l:List EI}{w:World}(h:RdL 2 EAt w ve l) (hve:∃ ao n cap,vm = .slice ao n cap) (x:List UInt8) :
  Calls Tryz.prog 107 #[.agg #[vm,ve],.string (S x)] w fun e w'=>e = .returned (.int .i64 (A0i (fun m=>decide (m.name=x)) l))∧Below w.heap.size w w':=by
 obtain⟨ao,n,cap,rfl,Hn,hcap⟩:=h.shape
 obtain⟨ae,ne,ce,rfl⟩:=hve
 obtain⟨W0,HW0⟩:∃ W0,Hid (W0=w.alloc (.cells #[.slice ae ne ce,.slice ao n cap] 25)):=⟨_,rfl⟩
 have hb0:Below w.heap.size w W0:=by rw[HW0.out];exact(Below.refl _ _).alloc (Nat.le_refl _) _
 have hlx:=A2f x
 go_enter Tryz.func107,Tryz.ntmps107
 go_wp2_with fail
 rw[←HW0.out]
 go_loopg [10] n (fun m i wr=>∃ k:Nat,k+m=n∧i = .int .i64 k∧Hid (∀ a∈l.take k,decide (a.name=x)=false)∧Below w.heap.size w wr)
 case atStart=>exact⟨0,by omega,rfl,by show ∀ a∈_,_;simp,hb0⟩
 case round=>
  obtain⟨k,hk,rfl,HK,hb⟩:=hrel
  by_cases hlt:k < n
  ·obtain⟨a,Ha⟩:∃ a,Hid (l[k]?=some a):=⟨l[k]'(by rw[←Hn.out];exact hlt),List.getElem?_eq_getElem (by rw[←Hn.out];exact hlt)⟩
   obtain⟨b,off,rfl,hat⟩:=(h.below EAt.stays hb).get EAt.plain Ha.out
   obtain⟨vi,s0,s1,hri⟩:=hat.at
   obtain⟨ai,ni,ci,rfl,_,_⟩:=hri.shape
   have hki:(k:Int) < (n:Int):=by omega
   have hla:=A2f a.name
   have hb1:Below w.heap.size w (wr.alloc (.cells #[.string (S a.name),.slice ai ni ci] 94)):=hb.alloc hb.size _
   clear hat
   cases hq:decide (a.name=x) with
   | true=>
    have HF:Hid (A0i (fun m=>decide (m.name=x)) l=(k:Int)):=A2v Ha.out HK.out hq
    have hqb:(a.name == x)=true:=by simpa using hq
    clear hq
    go_wp2
    go_ret
    exact⟨by rw[HF.out];rfl,hb1⟩
   | false=>
    have HX:Hid (∀ a∈l.take (k+1),decide (a.name=x)=false):=by
     show ∀ a∈_,_
     rw[A0s Ha.out]
     intro y hy
     rcases List.mem_append.1 hy with hy|hy
     ·exact HK.out y hy
     ·rw[List.mem_singleton] at hy;rw[hy];exact hq
    have hqb:(a.name == x)=false:=by simpa using hq
    clear hq
    go_wp2_with fail
    go_roundg (n - (k+1))
    case measure=>omega
    case rel=>exact⟨k+1,by omega,by go_num,HX,hb1⟩
  ·have HF:Hid (A0i (fun m=>decide (m.name=x)) l = -1):=by
    have:=HK.out
    rw[List.take_of_length_le (by rw[←Hn.out];omega)] at this
    exact A1p this
   go_wp2
   go_ret
   exact⟨by rw[HF.out];rfl,hb⟩
end L
end Go.Proofs.YtelmjekjohbmjaaGreatDoor
namespace Go.Proofs.YtelmjekjohbmjaaGreatDoor
namespace L
open Go.RowKit
set_option linter.unusedVariables false
def A3r (g:GI) (W0:World) (vm ve:Value) (d:Nat):Prop:=∀ (u w:World) (j:Nat) (M:MI) (v0 v1 u0 u1:Value) (x y:BI d),Sub u w→Below W0.heap.size W0 w→g.msgs[j]?=some M→BQ d u v0 v1 x→BQ d u u0 u1 y→GdB g.msgs d M x→GdB g.msgs d M y→jWB d x+jWB d y≤1000000000→
 Calls Tryz.prog 36 #[.agg #[vm,ve],.int .i64 (j:Int),.agg #[v0,v1],.agg #[u0,u1]] w fun e w'=>∃ (a0:Option Addr) (n0 c0:Nat) (a1:Option Addr) (n1 c1:Nat),e = .returned (.agg #[.slice a0 n0 c0,.slice a1 n1 c1])∧(∀ u',Over u w w' u'→BQ d u' (.slice a0 n0 c0) (.slice a1 n1 c1) (jnB g.msgs d M x y))∧Below w.heap.size w w'
theorem B3p {ms:List MI}{t:List UInt8}{M:MI}(h:ms.find? (isN t)=some M):∃ j:Nat,ms[j]?=some M∧A0i (fun m:MI=>decide (m.name=t)) ms=(j:Int):=by
 obtain⟨j,h1,h2,h3⟩:=A3e h
 exact⟨j,h1,A2v h1 h3 h2⟩
theorem A8k {d:Nat}{u:World}{s:BI d}{a3:Option Addr}{n3 c3:Nat}{l:List (BI d)}(hl:l = [s]) (h:RdL 2 (BAt d) u (.slice a3 n3 c3) l):n3=1∧∃ gs os e0 e1 e2 e3 e4 e5,a3=some ⟨gs,os,none⟩∧u.cell? ⟨gs,os,none⟩=some (.slice e0 e1 e2)∧u.cell? ⟨gs,os+1,none⟩=some (.slice e3 e4 e5)∧BQ d u (.slice e0 e1 e2) (.slice e3 e4 e5) s:=by
 subst hl
 have h1:n3=1:=h.len.1
 obtain⟨gs,os,rfl,hat⟩:=h.get (BAt.plain d) (k:=0) (a:=s) rfl
 have hat:BAt d u ⟨gs,os,none⟩ s:=by simpa using hat
 obtain⟨v0,v1,k0,k1,hq⟩:=BQ.of d hat
 obtain⟨e0,e1,e2,e3,e4,e5,rfl,rfl⟩:=BQ.shapeT d hq
 exact⟨h1,gs,os,e0,e1,e2,e3,e4,e5,rfl,k0,k1,hq⟩
set_option maxHeartbeats 4000000 in
set_option maxRecDepth 100000 in
theorem B6x {g:GI}{W0:World}{am ae:Option Addr}{nm cm ne ce:Nat}(hg:GRd W0 (.slice am nm cm) (.slice ae ne ce) g){d:Nat}(ih:A3r g W0 (.slice am nm cm) (.slice ae ne ce) d){u w:World}(h0:Below W0.heap.size W0 w) (hsu:Sub u w){bx ox:Nat}{x:FI}(hx:FAt W0 ⟨bx,ox,none⟩ x) (hm:x.many=false) (hk:x.kind=10) (a b:VI (BI d)){a1 a2 a3 b1 b2 b3:Option Addr}{n1 c1 n2 c2 n3 c3 m1 d1 m2 d2 m3 d3:Nat}(ha:QRd d u (a,(a1,n1,c1),(a2,n2,c2),(a3,n3,c3))) (hb:QRd d u (b,(b1,m1,d1),(b2,m2,d2),(b3,m3,d3))){M:MI}{s t:BI d}(hM:g.msgs.find? (isN x.type)=some M) (hs:a.subs = [s]) (ht:b.subs = [t]) (gs:GdB g.msgs d M s) (gt:GdB g.msgs d M t) (hw:jWB d s+jWB d t≤1000000000) :
  Calls Tryz.prog 67 #[.agg #[.slice am nm cm,.slice ae ne ce],.pointer (some ⟨bx,ox,none⟩),.agg #[.int .i64 a.number,.slice a1 n1 c1,.slice a2 n2 c2,.slice a3 n3 c3],.agg #[.int .i64 b.number,.slice b1 m1 d1,.slice b2 m2 d2,.slice b3 m3 d3]] w fun e w'=>∃ (e1:Option Addr) (h1 l1:Nat) (e2:Option Addr) (h2 l2:Nat) (e3:Option Addr) (h3 l3:Nat),e = .returned (.agg #[.int .i64 b.number,.slice e1 h1 l1,.slice e2 h2 l2,.slice e3 h3 l3])∧(∀ u',Over u w w' u'→QRd d u' (⟨b.number,[],[],[jnB g.msgs d M s t]⟩,(e1,h1,l1),(e2,h2,l2),(e3,h3,l3)))∧Below w.heap.size w w':=by
 obtain⟨rfl,ga,oa,x0,x1,x2,x3,x4,x5,rfl,ka0,ka1,qa⟩:=A8k hs ha.2.2
 obtain⟨rfl,gb,ob,y0,y1,y2,y3,y4,y5,rfl,kb0,kb1,qb⟩:=A8k ht hb.2.2
 obtain⟨j,hj1,hj2⟩:=B3p hM
 obtain⟨W1,HW1⟩:∃ W1,Hid (W1=(((w.alloc (.cells #[.slice am nm cm,.slice ae ne ce] 25)).alloc (.cells #[.int .i64 a.number,.slice a1 n1 c1,.slice a2 n2 c2,.slice (some ⟨ga,oa,none⟩) 1 c3] 34)).alloc (.cells #[.int .i64 b.number,.slice b1 m1 d1,.slice b2 m2 d2,.slice (some ⟨gb,ob,none⟩) 1 d3] 34)).alloc (.cells #[.int .i64 0,.slice none 0 0,.slice none 0 0,.slice none 0 0] 34)):=⟨_,rfl⟩
 obtain⟨xf,xa,xb,xr,z0⟩:=A4w w (.cells #[.slice am nm cm,.slice ae ne ce] 25) (.cells #[.int .i64 a.number,.slice a1 n1 c1,.slice a2 n2 c2,.slice (some ⟨ga,oa,none⟩) 1 c3] 34) (.cells #[.int .i64 b.number,.slice b1 m1 d1,.slice b2 m2 d2,.slice (some ⟨gb,ob,none⟩) 1 d3] 34) (.cells #[.int .i64 0,.slice none 0 0,.slice none 0 0,.slice none 0 0] 34)
 rw[←HW1.out] at xf xa xb xr z0
 have hb1:Below w.heap.size w W1:=by rw[HW1.out];exact((((Below.refl _ _).alloc (Nat.le_refl _) _).alloc (by simp) _).alloc (by simp;omega) _).alloc (by simp;omega) _
 have hz1:w.heap.size+4≤W1.heap.size:=Nat.le_of_eq z0.symm
 have h01:Below W0.heap.size W0 W1:=BTr h0 hb1
 obtain⟨C,HC⟩:∃ C,Hid (C=w.heap.size+3):=⟨_,rfl⟩
 have hC1:C≤w.heap.size+3:=Nat.le_of_eq HC.out
 have hC2:w.heap.size+3≤C:=Nat.le_of_eq HC.out.symm
 have hcl:∀ V,Below C W1 V→(V.cell? ⟨w.heap.size,0,none⟩=some (.slice am nm cm)∧V.cell? ⟨w.heap.size,1,none⟩=some (.slice ae ne ce))∧(V.cell? ⟨w.heap.size+1,3,none⟩=some (.slice (some ⟨ga,oa,none⟩) 1 c3))∧(V.cell? ⟨w.heap.size+2,0,none⟩=some (.int .i64 b.number)∧V.cell? ⟨w.heap.size+2,3,none⟩=some (.slice (some ⟨gb,ob,none⟩) 1 d3))∧V.cell? ⟨bx,ox+3,none⟩=some (.string (S x.type))∧(V.cell? ⟨ga,oa,none⟩=some (.slice x0 x1 x2)∧V.cell? ⟨ga,oa+1,none⟩=some (.slice x3 x4 x5))∧(V.cell? ⟨gb,ob,none⟩=some (.slice y0 y1 y2)∧V.cell? ⟨gb,ob+1,none⟩=some (.slice y3 y4 y5)):=fun V hV=>by
  have hwV:Below w.heap.size w V:=hb1.trans (hV.mono (by omega))
  obtain⟨_,_,_,f3,_,_⟩:=(FAt.stays _ _ _ _ (BTr h0 hwV) hx).at
  exact⟨A0x ((hV.block _ (by omega)).trans xf),A0a ((hV.block _ (by omega)).trans xa) 3 _ rfl,⟨A0a ((hV.block _ (by omega)).trans xb) 0 _ rfl,A0a ((hV.block _ (by omega)).trans xb) 3 _ rfl⟩,f3,⟨A0c hwV (hsu _ _ ka0),A0c hwV (hsu _ _ ka1)⟩,A0c hwV (hsu _ _ kb0),A0c hwV (hsu _ _ kb1)⟩
 obtain⟨_,_,f2,_,f4,_⟩:=(FAt.stays _ _ _ _ h01 hx).at
 rw[hk] at f2
 rw[hm] at f4
 have hmsg:∀ V,Below W0.heap.size W0 V→Calls Tryz.prog 42 #[.agg #[.slice am nm cm,.slice ae ne ce],.string (S x.type)] V fun e w'=>e = .returned (.int .i64 (j:Int))∧Below V.heap.size V w':=fun V hV=>by
  have:=A4m (ve:=.slice ae ne ce) (hg.below hV).1 ⟨_,_,_,rfl⟩ x.type
  rw[hj2] at this
  exact this
 have hplus:∀ V,Below w.heap.size w V→Calls Tryz.prog 36 #[.agg #[.slice am nm cm,.slice ae ne ce],.int .i64 (j:Int),.agg #[.slice x0 x1 x2,.slice x3 x4 x5],.agg #[.slice y0 y1 y2,.slice y3 y4 y5]] V fun e w'=>∃ (a0:Option Addr) (n0 c0:Nat) (a1:Option Addr) (n1 c1:Nat),e = .returned (.agg #[.slice a0 n0 c0,.slice a1 n1 c1])∧(∀ u',Over u V w' u'→BQ d u' (.slice a0 n0 c0) (.slice a1 n1 c1) (jnB g.msgs d M s t))∧Below V.heap.size V w':=fun V hV=>ih u V j M _ _ _ _ s t (hsu.trans (Sub.of hV)) (BTr h0 hV) hj1 qa qb gs gt hw
 have hD:Below C W1 W1.drew:=(Below.refl _ _).drew
 have hDD:Below W1.heap.size W1 W1.drew:=(Below.refl _ _).drew
 have hm1:=hmsg W1.drew (BTr h01 hDD)
 obtain⟨⟨t0,t1⟩,t2,⟨t3,t4⟩,t5,⟨t6,t7⟩,t8,t9⟩:=hcl W1 (Below.refl _ _)
 clear ha hb hx hj1 hj2 hM hs ht ka0 ka1 kb0 kb1 hmsg ih hg qa qb gs gt xa xb xf
 go_enter Tryz.func67,Tryz.ntmps67
 go_upto_region 1 with fail
 rw[←HW1.out]
 go_upto_region 7 with fail
 refine wp_region_held_drew (S:=fun V=>Below C W1 V) (by kernel_rfl) hD (fun hHeld=>?_)
 refine tK (i:=0) (v:=?vo1) rfl (fun _ _ _ h=>h) ⟨by rfl,?hyo1⟩ (by assumption) ?_
 case hyo1=>(intro W hSw;obtain⟨⟨o1,o2⟩,o3,⟨o4,o5⟩,o6,⟨o7,o8⟩,o9,o10⟩:=hcl W hSw;go_simp;first|done|with_reducible rfl)
 try simp only[pT,Act.put]
 refine tK (i:=1) (v:=?vo2) rfl (fun _ _ _ h=>h) ⟨by rfl,?hyo2⟩ (by assumption) ?_
 case hyo2=>(intro W hSw;obtain⟨⟨o1,o2⟩,o3,⟨o4,o5⟩,o6,⟨o7,o8⟩,o9,o10⟩:=hcl W hSw;go_simp;first|done|with_reducible rfl)
 try simp only[pT,Act.put]
 refine tK (i:=2) (v:=?vo3) rfl (fun _ _ _ h=>h) ⟨by rfl,?hyo3⟩ (by assumption) ?_
 case hyo3=>(intro W hSw;obtain⟨⟨o1,o2⟩,o3,⟨o4,o5⟩,o6,⟨o7,o8⟩,o9,o10⟩:=hcl W hSw;go_simp;first|done|with_reducible rfl)
 try simp only[pT,Act.put]
 refine tK (i:=3) (v:=?vo4) rfl (fun _ _ _ h=>h) ⟨by rfl,?hyo4⟩ (by assumption) ?_
 case hyo4=>(intro W hSw;obtain⟨⟨o1,o2⟩,o3,⟨o4,o5⟩,o6,⟨o7,o8⟩,o9,o10⟩:=hcl W hSw;go_simp;first|done|with_reducible rfl)
 try simp only[pT,Act.put]
 refine tK (i:=4) (v:=?vo5) rfl (fun _ _ _ h=>h) ⟨by rfl,?hyo5⟩ (by assumption) ?_
 case hyo5=>(intro W hSw;obtain⟨⟨o1,o2⟩,o3,⟨o4,o5⟩,o6,⟨o7,o8⟩,o9,o10⟩:=hcl W hSw;go_simp;first|done|with_reducible rfl)
 try simp only[pT,Act.put]
 refine tK (i:=5) (v:=?vo6) rfl (fun _ _ _ h=>h) ⟨by rfl,?hyo6⟩ (by assumption) ?_
 case hyo6=>(intro W hSw;obtain⟨⟨o1,o2⟩,o3,⟨o4,o5⟩,o6,⟨o7,o8⟩,o9,o10⟩:=hcl W hSw;go_simp;first|done|with_reducible rfl)
 try simp only[pT,Act.put]
 refine tK (i:=6) (v:=?vo7) rfl (fun _ _ _ h=>h) ⟨by rfl,?hyo7⟩ (by assumption) ?_
 case hyo7=>(intro W hSw;obtain⟨⟨o1,o2⟩,o3,⟨o4,o5⟩,o6,⟨o7,o8⟩,o9,o10⟩:=hcl W hSw;go_simp;first|done|with_reducible rfl)
 try simp only[pT,Act.put]
 refine tK (i:=7) (v:=?vo8) rfl (fun _ _ _ h=>h) ⟨by rfl,?hyo8⟩ (by assumption) ?_
 case hyo8=>(intro W hSw;obtain⟨⟨o1,o2⟩,o3,⟨o4,o5⟩,o6,⟨o7,o8⟩,o9,o10⟩:=hcl W hSw;go_simp;first|done|with_reducible rfl)
 try simp only[pT,Act.put]
 refine tK (i:=9) (v:=?vo9) rfl (fun _ _ _ h=>h) ⟨by rfl,?hyo9⟩ (by assumption) ?_
 case hyo9=>(intro W hSw;obtain⟨⟨o1,o2⟩,o3,⟨o4,o5⟩,o6,⟨o7,o8⟩,o9,o10⟩:=hcl W hSw;go_simp;first|done|with_reducible rfl)
 try simp only[pT,Act.put]
 refine tK (i:=10) (v:=?vo10) rfl (fun _ _ _ h=>h) ⟨by rfl,?hyo10⟩ (by assumption) ?_
 case hyo10=>(intro W hSw;obtain⟨⟨o1,o2⟩,o3,⟨o4,o5⟩,o6,⟨o7,o8⟩,o9,o10⟩:=hcl W hSw;go_simp;first|done|with_reducible rfl)
 try simp only[pT,Act.put]
 refine tK (i:=11) (v:=?vo11) rfl (fun _ _ _ h=>h) ⟨by rfl,?hyo11⟩ (by assumption) ?_
 case hyo11=>(intro W hSw;obtain⟨⟨o1,o2⟩,o3,⟨o4,o5⟩,o6,⟨o7,o8⟩,o9,o10⟩:=hcl W hSw;go_simp;first|done|with_reducible rfl)
 try simp only[pT,Act.put]
 refine tK (i:=12) (v:=?vo12) rfl (fun _ _ _ h=>h) ⟨by rfl,?hyo12⟩ (by assumption) ?_
 case hyo12=>(intro W hSw;obtain⟨⟨o1,o2⟩,o3,⟨o4,o5⟩,o6,⟨o7,o8⟩,o9,o10⟩:=hcl W hSw;go_simp;first|done|with_reducible rfl)
 try simp only[pT,Act.put]
 refine tK (i:=13) (v:=?vo13) rfl (fun _ _ _ h=>h) ⟨by rfl,?hyo13⟩ (by assumption) ?_
 case hyo13=>(intro W hSw;obtain⟨⟨o1,o2⟩,o3,⟨o4,o5⟩,o6,⟨o7,o8⟩,o9,o10⟩:=hcl W hSw;go_simp;first|done|with_reducible rfl)
 try simp only[pT,Act.put]
 refine tK (i:=14) (v:=?vo14) rfl (fun _ _ _ h=>h) ⟨by rfl,?hyo14⟩ (by assumption) ?_
 case hyo14=>(intro W hSw;obtain⟨⟨o1,o2⟩,o3,⟨o4,o5⟩,o6,⟨o7,o8⟩,o9,o10⟩:=hcl W hSw;go_simp;first|done|with_reducible rfl)
 try simp only[pT,Act.put]
 refine tK (i:=15) (v:=?vo15) rfl (fun _ _ _ h=>h) ⟨by rfl,?hyo15⟩ (by assumption) ?_
 case hyo15=>(intro W hSw;obtain⟨⟨o1,o2⟩,o3,⟨o4,o5⟩,o6,⟨o7,o8⟩,o9,o10⟩:=hcl W hSw;go_simp;first|done|with_reducible rfl)
 try simp only[pT,Act.put]
 refine tK (i:=16) (v:=?vo16) rfl (fun _ _ _ h=>h) ⟨by rfl,?hyo16⟩ (by assumption) ?_
 case hyo16=>(intro W hSw;obtain⟨⟨o1,o2⟩,o3,⟨o4,o5⟩,o6,⟨o7,o8⟩,o9,o10⟩:=hcl W hSw;go_simp;first|done|with_reducible rfl)
 try simp only[pT,Act.put]
 refine wpAnyH_ready (rs:=[8]) (by kernel_rfl) (by simp) ?_
 refine AllReadyH.cons rfl (fun K hK=>?_) AllReadyH.nil
 go_simp
 refine hm1.mono ?_
 rintro r w7 ⟨rfl,hb7⟩
 have hB7:Below C W1 w7:=hD.trans (hb7.mono (by have:=hDD.size;omega))
 have hP:=hplus w7 (hb1.trans (hB7.mono (by omega)))
 refine hK.out _ _ ?_ (fun hHeld=>?_)
 ·(try dsimp only);first|with_reducible exact hD|with_reducible exact hB7|with_reducible exact hB8|with_reducible exact hBX|exact A0f (A0f (A0f (A0f hBX (by omega)) (by omega)) (by omega)) (by omega)
 clear hK K
 try simp only[pT,Act.put]
 refine wpAnyH_ready (rs:=[17]) (by kernel_rfl) (by simp) ?_
 refine AllReadyH.cons rfl (fun K hK=>?_) AllReadyH.nil
 go_simp
 refine hP.mono ?_
 rintro r w8 ⟨i0,j0,l0,i1,j1,l1,rfl,hov,hb8⟩
 have hz7:=hB7.size
 have hB8:Below C W1 w8:=hB7.trans (hb8.mono (by omega))
 obtain⟨X8,HX8⟩:∃ X8,Hid (X8=w8.alloc (.cells #[.slice i0 j0 l0,.slice i1 j1 l1] 29)):=⟨_,rfl⟩
 have hz8:=hb8.size
 have hX8:Below w8.heap.size w8 X8:=by rw[HX8.out];exact(Below.refl _ _).alloc (Nat.le_refl _) _
 have hBX:Below C W1 X8:=hB8.trans (hX8.mono (by omega))
 have xX:X8.heap[w8.heap.size]?=some (.cells #[.slice i0 j0 l0,.slice i1 j1 l1] 29 (0,0)):=by rw[HX8.out];exact heap_alloc_new _ _
 have hbz:W1.heap.size≤w8.heap.size:=hB8.size
 have xr8:X8.heap[w.heap.size+3]?=some (.cells #[.int .i64 0,.slice none 0 0,.slice none 0 0,.slice none 0 0] 34 (0,0)):=(hX8.block _ (by omega)).trans ((hb8.block _ (by omega)).trans ((hb7.block _ (by show _ < W1.heap.size;omega)).trans xr))
 obtain⟨s0,s1,s2,s3⟩:=A2w xr8
 have fr8:=A0b xr8
 refine hK.out _ _ ?_ (fun hHeld=>?_)
 ·(try dsimp only);first|with_reducible exact hD|with_reducible exact hB7|with_reducible exact hB8|with_reducible exact hBX|exact A0f (A0f (A0f (A0f hBX (by omega)) (by omega)) (by omega)) (by omega)
 clear hK K
 try simp only[pT,Act.put]
 refine wpAnyH_ready (rs:=[18]) (by kernel_rfl) (by simp) ?_
 refine AllReadyH.cons rfl (fun K hK=>?_) AllReadyH.nil
 go_simp
 rw[←HX8.out]
 refine hK.out _ _ ?_ (fun hHeld=>?_)
 ·(try dsimp only);first|with_reducible exact hD|with_reducible exact hB7|with_reducible exact hB8|with_reducible exact hBX|exact A0f (A0f (A0f (A0f hBX (by omega)) (by omega)) (by omega)) (by omega)
 clear hK K
 try simp only[pT,Act.put]
 refine tK (i:=19) (v:=?vo17) rfl (fun _ _ _ h=>h) ⟨by rfl,?hyo17⟩ (by assumption) ?_
 case hyo17=>(intro W hSw;obtain⟨⟨o1,o2⟩,o3,⟨o4,o5⟩,o6,⟨o7,o8⟩,o9,o10⟩:=hcl W hSw;go_simp;first|done|with_reducible rfl)
 try simp only[pT,Act.put]
 refine wpAnyH_ready (rs:=[20]) (by kernel_rfl) (by simp) ?_
 refine AllReadyH.cons rfl (fun K hK=>?_) AllReadyH.nil
 go_simp
 refine hK.out _ _ ?_ (fun hHeld=>?_)
 ·(try dsimp only);first|with_reducible exact hD|with_reducible exact hB7|with_reducible exact hB8|with_reducible exact hBX|exact A0f (A0f (A0f (A0f hBX (by omega)) (by omega)) (by omega)) (by omega)
 clear hK K
 try simp only[pT,Act.put]
 refine wpAnyH_done (by kernel_rfl) ?_ _
 go_wp2_with fail
 refine bodyPost_ret (v:=.agg #[.int .i64 b.number,.slice none 0 0,.slice none 0 0,.slice (some ⟨w8.heap.size,0,none⟩) 1 1]) (by simp[results,Tryz.results67,go_sem, *]) rfl ?_
 have hwX:Below w.heap.size w X8:=hb1.trans (hBX.mono (by omega))
 refine⟨none,0,0,none,0,0,some ⟨w8.heap.size,0,none⟩,1,1,rfl,fun u' ho=>⟨RdL.nil _ _ _,RdL.nil _ _ _,?_⟩,A0f (A0f (A0f (A0f hwX (by omega)) (by omega)) (by omega)) (by omega)⟩
 have hzX:w8.heap.size < X8.heap.size:=(Array.getElem?_eq_some_iff.1 xX).1
 have hq:=hov u' (ho.back (by omega) (by simp;omega) (fun k h1 h2=>by rw[Below.heap_setCell _ _ _ k (show k≠w.heap.size+3 by omega),Below.heap_setCell _ _ _ k (show k≠w.heap.size+3 by omega),Below.heap_setCell _ _ _ k (show k≠w.heap.size+3 by omega),Below.heap_setCell _ _ _ k (show k≠w.heap.size+3 by omega)];exact hX8.block k h2))
 have hc:u'.heap[w8.heap.size]?=some (.cells #[.slice i0 j0 l0,.slice i1 j1 l1] 29 (0,0)):=by
  rw[ho.new _ (by omega) (by simp;omega),Below.heap_setCell _ _ _ _ (show w8.heap.size≠w.heap.size+3 by omega),Below.heap_setCell _ _ _ _ (show w8.heap.size≠w.heap.size+3 by omega),Below.heap_setCell _ _ _ _ (show w8.heap.size≠w.heap.size+3 by omega),Below.heap_setCell _ _ _ _ (show w8.heap.size≠w.heap.size+3 by omega)]
  exact xX
 obtain⟨c0,c1'⟩:=A0x hc
 refine⟨some ⟨w8.heap.size,0,none⟩,1,1,rfl,rfl,Nat.le_refl _,by unfold maxLen;omega,(fun e=>by cases e),fun z hz k r hr=>?_⟩
 cases hz
 cases k with
 | succ k=>simp at hr
 | zero=>
  simp at hr
  subst hr
  exact BQ.at d hq c0 c1'
set_option maxHeartbeats 4000000 in
set_option maxRecDepth 100000 in
theorem B4m {u w:World}{am ae:Option Addr}{nm cm ne ce:Nat}{d:Nat}(hsu:Sub u w){bx ox:Nat}{x:FI}(hx:FAt w ⟨bx,ox,none⟩ x) (hm:x.many=false) (hk:x.kind≠10) (a b:VI (BI d)){a1 a2 a3 b1 b2 b3:Option Addr}{n1 c1 n2 c2 n3 c3 m1 d1 m2 d2 m3 d3:Nat}(hb:QRd d u (b,(b1,m1,d1),(b2,m2,d2),(b3,m3,d3))) :
  Calls Tryz.prog 67 #[.agg #[.slice am nm cm,.slice ae ne ce],.pointer (some ⟨bx,ox,none⟩),.agg #[.int .i64 a.number,.slice a1 n1 c1,.slice a2 n2 c2,.slice a3 n3 c3],.agg #[.int .i64 b.number,.slice b1 m1 d1,.slice b2 m2 d2,.slice b3 m3 d3]] w fun e w'=>∃ (e1:Option Addr) (h1 l1:Nat) (e2:Option Addr) (h2 l2:Nat) (e3:Option Addr) (h3 l3:Nat),e = .returned (.agg #[.int .i64 b.number,.slice e1 h1 l1,.slice e2 h2 l2,.slice e3 h3 l3])∧(∀ u',Over u w w' u'→QRd d u' (b,(e1,h1,l1),(e2,h2,l2),(e3,h3,l3)))∧Below w.heap.size w w':=by
 obtain⟨W1,HW1⟩:∃ W1,Hid (W1=(((w.alloc (.cells #[.slice am nm cm,.slice ae ne ce] 25)).alloc (.cells #[.int .i64 a.number,.slice a1 n1 c1,.slice a2 n2 c2,.slice a3 n3 c3] 34)).alloc (.cells #[.int .i64 b.number,.slice b1 m1 d1,.slice b2 m2 d2,.slice b3 m3 d3] 34)).alloc (.cells #[.int .i64 0,.slice none 0 0,.slice none 0 0,.slice none 0 0] 34)):=⟨_,rfl⟩
 obtain⟨xf,xa,xb,xr,z0⟩:=A4w w (.cells #[.slice am nm cm,.slice ae ne ce] 25) (.cells #[.int .i64 a.number,.slice a1 n1 c1,.slice a2 n2 c2,.slice a3 n3 c3] 34) (.cells #[.int .i64 b.number,.slice b1 m1 d1,.slice b2 m2 d2,.slice b3 m3 d3] 34) (.cells #[.int .i64 0,.slice none 0 0,.slice none 0 0,.slice none 0 0] 34)
 rw[←HW1.out] at xf xa xb xr z0
 have hb1:Below w.heap.size w W1:=by rw[HW1.out];exact((((Below.refl _ _).alloc (Nat.le_refl _) _).alloc (by simp) _).alloc (by simp;omega) _).alloc (by simp;omega) _
 have hz1:w.heap.size+4≤W1.heap.size:=Nat.le_of_eq z0.symm
 obtain⟨_,_,f2,_,f4,_⟩:=(FAt.stays _ _ _ _ hb1 hx).at
 rw[hm] at f4
 have ek:(x.kind == 10)=false:=beq_eq_false_iff_ne.2 hk
 obtain⟨t0,t1,t2,t3⟩:=A2w xb
 obtain⟨s0,s1,s2,s3⟩:=A2w xr
 have fr8:=A0b xr
 have HB:Hid (QRd d u (b,(b1,m1,d1),(b2,m2,d2),(b3,m3,d3))):=hb
 clear hb hx hk z0 xf xa xb
 go_enter Tryz.func67,Tryz.ntmps67
 go_upto_region 1 with fail
 rw[←HW1.out]
 go_wp2_with fail
 refine bodyPost_ret (v:=.agg #[.int .i64 b.number,.slice b1 m1 d1,.slice b2 m2 d2,.slice b3 m3 d3]) (by simp[results,Tryz.results67,go_sem, *]) rfl ?_
 exact⟨b1,m1,d1,b2,m2,d2,b3,m3,d3,rfl,fun u' ho=>HB.out.sub ho.sub,A0f (A0f (A0f (A0f hb1 (by omega)) (by omega)) (by omega)) (by omega)⟩
theorem B6w {g:GI}{W0:World}{am ae:Option Addr}{nm cm ne ce:Nat}(hg:GRd W0 (.slice am nm cm) (.slice ae ne ce) g){d:Nat}(ih:A3r g W0 (.slice am nm cm) (.slice ae ne ce) d){u w:World}(h0:Below W0.heap.size W0 w) (hsu:Sub u w){bx ox:Nat}{x:FI}(hx:FAt W0 ⟨bx,ox,none⟩ x){fs:List FI}(a b:VI (BI d)) (hn:a.number=b.number) (hf:fs.find? (isF b.number)=some x) (ga:GdV (GdB g.msgs d) g.msgs fs a) (gb:GdV (GdB g.msgs d) g.msgs fs b) (hw:jW (jWB d) a+jW (jWB d) b≤1000000000){a1 a2 a3 b1 b2 b3:Option Addr}{n1 c1 n2 c2 n3 c3 m1 d1 m2 d2 m3 d3:Nat}(ha:QRd d u (a,(a1,n1,c1),(a2,n2,c2),(a3,n3,c3))) (hb:QRd d u (b,(b1,m1,d1),(b2,m2,d2),(b3,m3,d3))) :
  Calls Tryz.prog 67 #[.agg #[.slice am nm cm,.slice ae ne ce],.pointer (some ⟨bx,ox,none⟩),.agg #[.int .i64 a.number,.slice a1 n1 c1,.slice a2 n2 c2,.slice a3 n3 c3],.agg #[.int .i64 b.number,.slice b1 m1 d1,.slice b2 m2 d2,.slice b3 m3 d3]] w fun e w'=>∃ (e1:Option Addr) (h1 l1:Nat) (e2:Option Addr) (h2 l2:Nat) (e3:Option Addr) (h3 l3:Nat),e = .returned (.agg #[.int .i64 (A4f (jnB g.msgs d) g.msgs x a b).number,.slice e1 h1 l1,.slice e2 h2 l2,.slice e3 h3 l3])∧(∀ u',Over u w w' u'→QRd d u' (A4f (jnB g.msgs d) g.msgs x a b,(e1,h1,l1),(e2,h2,l2),(e3,h3,l3)))∧Below w.heap.size w w':=by
 cases hm:x.many with
 | true=>
  have e:A4f (jnB g.msgs d) g.msgs x a b=⟨a.number,a.bits++b.bits,a.bytes++b.bytes,a.subs++b.subs⟩:=by unfold A4f;rw[if_pos hm]
  rw[e]
  have hl:∀ v:VI (BI d),v.bits.length+v.bytes.length+v.subs.length≤jW (jWB d) v:=fun v=>by
   have:=A2x (fun s=>1+jWB d s) (fun _=>by omega) v.subs
   unfold jW
   omega
  have ha':=hl a
  have hb':=hl b
  exact B4n hsu (FAt.stays _ _ _ _ h0 hx) hm a b ha hb (by omega) (by omega) (by omega)
 | false=>
  by_cases hk:x.kind=10
  ·obtain⟨p1,p2,M,s,p3,p4,p5⟩:=(ga.fld (by rw[hn];exact hf) hm).2 hk
   obtain⟨q1,q2,M',t,q3,q4,q5⟩:=(gb.fld hf hm).2 hk
   rw[p3] at q3
   cases q3
   rw[B6i hn hm hk p1 p2 p3 p4 q4]
   refine B6x hg ih h0 hsu hx hm hk a b ha hb p3 p4 q4 p5 q5 ?_
   unfold jW at hw
   rw[p4,q4] at hw
   simp only[List.map_cons,List.map_nil,List.sum_cons,List.sum_nil] at hw
   omega
  ·have e:A4f (jnB g.msgs d) g.msgs x a b=b:=by unfold A4f;rw[hm,if_neg (by simp),if_neg hk]
   rw[e]
   exact B4m hsu (FAt.stays _ _ _ _ h0 hx) hm hk a b hb
end L
end Go.Proofs.YtelmjekjohbmjaaGreatDoor
namespace Go.Proofs.YtelmjekjohbmjaaGreatDoor
namespace L
open Go.RowKit
set_option linter.unusedVariables false
structure OverF (F:List Nat) (u w w' u':World):Prop where
 sub:Sub u u'
 new:∀ k,w.heap.size≤k→k < w'.heap.size→k∉F→u'.heap[k]?=w'.heap[k]?
theorem OverF.of {F:List Nat}{u w w' u':World}(h:Over u w w' u'):OverF F u w w' u':=⟨h.sub,fun k h1 h2 _=>h.new k h1 h2⟩
theorem OverF.back {F G:List Nat}{u w w' u' v:World}(h:OverF G u w w' u') (hs:v.heap.size≤w'.heap.size) (hb:∀ k,w.heap.size≤k→k < v.heap.size→k∉F→k∉G∧w'.heap[k]?=v.heap[k]?):OverF F u w v u':=
 ⟨h.sub,fun k h1 h2 h3=>(h.new k h1 (by omega) (hb k h1 h2 h3).1).trans (hb k h1 h2 h3).2⟩
def B4i (u w:World) (F:List Nat) (V:World):World:={ V with heap:=V.heap.mapIdx fun k o=>if k < w.heap.size then(u.heap[k]?).getD (.cells #[] 0 (0,0)) else if k∈F then .cells #[] 0 (0,0) else o }
theorem B2m {u w:World}{F:List Nat}{V:World}{k:Nat}(h:w.heap.size≤k) (hF:k∉F):(B4i u w F V).heap[k]?=V.heap[k]?:=by
 unfold B4i
 rw[Array.getElem?_mapIdx]
 cases V.heap[k]? with
 | none=>rfl
 | some o=>simp[hF,Nat.not_lt.2 h]
theorem B2n {u w:World}{F:List Nat}{V:World}{k:Nat}(h:k < w.heap.size) (hV:k < V.heap.size):(B4i u w F V).heap[k]?=some ((u.heap[k]?).getD (.cells #[] 0 (0,0))):=by
 unfold B4i
 rw[Array.getElem?_mapIdx,Array.getElem?_eq_getElem hV]
 simp[h]
theorem B9h {u w:World}{F:List Nat}{V:World}{k:Nat}(h:w.heap.size≤k) (hF:k∈F){x:Addr}(hx:x.block=k):(B4i u w F V).cell? x=none:=by
 unfold World.cell? B4i
 rw[hx,Array.getElem?_mapIdx]
 cases V.heap[k]? with
 | none=>rfl
 | some o=>simp[hF,Nat.not_lt.2 h]
theorem B0g {u w:World}{F:List Nat}{V:World}(hV:w.heap.size≤V.heap.size){x:Addr}{v:Value}(h:(B4i u w F V).cell? x=some v):u.cell? x=some v∨(w.heap.size≤x.block∧x.block < V.heap.size∧x.block∉F∧V.cell? x=some v):=by
 by_cases h1:x.block < w.heap.size
 ·left
  unfold World.cell? at h ⊢
  rw[B2n h1 (by omega)] at h
  cases e:u.heap[x.block]? with
  | none=>rw[e] at h;simp at h
  | some o=>rw[e] at h;exact h
 ·right
  by_cases h2:x.block∈F
  ·rw[B9h (by omega) h2 rfl] at h;cases h
  ·have h3:(B4i u w F V).heap[x.block]?=V.heap[x.block]?:=B2m (by omega) h2
   have h4:V.cell? x=some v:=by
    unfold World.cell? at h ⊢
    rw[h3] at h
    exact h
   exact⟨by omega,World.block_lt_of_cell? V x h4,h2,h4⟩
theorem A8w {a b:World}{x:Addr}{v:Value}(e:b.heap[x.block]?=a.heap[x.block]?) (h:a.cell? x=some v):b.cell? x=some v:=by
 unfold World.cell? at h ⊢
 rw[e]
 exact h
theorem A9f {u w:World}{F:List Nat}{V:World}(hu:Sub u w) (hV:Below w.heap.size w V):Sub (B4i u w F V) V:=by
 intro x v h
 rcases B0g hV.size h with h|⟨_,_,_,h⟩
 ·exact A0c hV (hu _ _ h)
 ·exact h
theorem A7n {u w:World}{F:List Nat}{V:World}(hu:Sub u w) (hV:w.heap.size≤V.heap.size):OverF F u w V (B4i u w F V):=by
 refine⟨fun x v h=>?_,fun k h1 _ h3=>B2m h1 h3⟩
 have hb:=World.block_lt_of_cell? w x (hu _ _ h)
 unfold World.cell? at h ⊢
 rw[B2n hb (by omega)]
 cases e:u.heap[x.block]? with
 | none=>rw[e] at h;simp at h
 | some o=>rw[e] at h;exact h
theorem B1t {F G:List Nat}{u w w' u' V:World}(h:OverF G u w w' u') (hw:w.heap.size≤V.heap.size) (hs:V.heap.size≤w'.heap.size) (hb:∀ k,w.heap.size≤k→k < V.heap.size→k∉F→k∉G∧w'.heap[k]?=V.heap[k]?):Sub (B4i u w F V) u':=by
 intro x v hx
 rcases B0g hw hx with hx|⟨h1,h2,h3,hx⟩
 ·exact h.sub _ _ hx
 ·exact A8w ((h.new _ h1 (by omega) (hb _ h1 h2 h3).1).trans (hb _ h1 h2 h3).2) hx
end L
end Go.Proofs.YtelmjekjohbmjaaGreatDoor
