import Derived.Test.YtelmjekjohbmjaaGreatDoorY40
import Derived.Test.YtelmjekjohbmjaaGreatDoorY42
import Derived.Test.YtelmjekjohbmjaaGreatDoorY19
namespace Go.Proofs.YtelmjekjohbmjaaGreatDoor
namespace L
open Go.RowKit
set_option linter.unusedVariables false
theorem B0l {g:GI}(hr:(A0p g).1=0):∀ m∈g.msgs,∀ x∈m.fields,1≤x.number:=by
 intro m hm x hx
 obtain⟨s,hs⟩:=A6c _ _ _ (C0c ((B0k hr).2.2 m hm)).2.2.2 x hx
 simp only[A6b,Bool.and_eq_true] at hs
 have hh:A9n x.number=true:=hs.2.1
 unfold A9n at hh
 simp at hh
 omega
set_option maxHeartbeats 2000000 in
set_option maxRecDepth 100000 in
theorem A5q {w:World}{g:GI}{d:Nat}{vm ve v0 v1:Value}{msg:Int}{x:BI (d+1)}(hg:GRd w vm ve g) (hn1:g.msgs.length≤140737488355328) (hn2:g.enums.length≤140737488355328) (hfit:Fits g) (hq:BRd d w v0 v1 x) (hok:BOk (d+1) x) (hch:∀ m∈g.msgs,∀ y∈m.fields,I64 y.choice) (hm1 : -9223372036854775808≤msg) (hm2:msg≤9223372036854775807) :
  Calls Tryz.prog 9 #[.agg #[vm,ve],.int .i64 msg,.agg #[v0,v1]] w fun r w'=>r = .returned (.int .i64 (A0z g d msg x))∧Below w.heap.size w w':=by
 obtain⟨am,nm,cm,rfl,Hnm,_⟩:=hg.1.shape
 obtain⟨ae,ne,ce,rfl,_,_⟩:=hg.2.shape
 obtain⟨a0,n0,c0,a1,n1,c1,rfl,rfl⟩:=hq.shape
 obtain⟨W2,HW2⟩:∃ W2,Hid (W2=(w.alloc (.cells #[.slice am nm cm,.slice ae ne ce] 25)).alloc (.cells #[.slice a0 n0 c0,.slice a1 n1 c1] 29)):=⟨_,rfl⟩
 have hb2:Below w.heap.size w W2:=by rw[HW2.out];exact((Below.refl _ _).alloc (Nat.le_refl _) _).alloc (by simp) _
 have z2:w.heap.size+2≤W2.heap.size:=by rw[HW2.out];simp
 have x1:W2.heap[w.heap.size]?=some (.cells #[.slice am nm cm,.slice ae ne ce] 25 (0,0)):=by rw[HW2.out];exact A0r _ _ _
 have x2:W2.heap[w.heap.size+1]?=some (.cells #[.slice a0 n0 c0,.slice a1 n1 c1] 29 (0,0)):=by rw[HW2.out];exact A0o _ _ _
 have hwr:=B4s (hg.below hb2) hn1 hn2 hfit
 obtain⟨Q,HQ⟩:∃ Q,Hid (Q=(A0p g).1):=⟨_,rfl⟩
 obtain⟨QI,HQI⟩:∃ QI,Hid (QI=(((A0p g).2:Nat):Int)):=⟨_,rfl⟩
 rw[←HQ.out,←HQI.out] at hwr
 have hcl:∀ V,Below W2.heap.size W2 V→V.cell? ⟨w.heap.size,0,none⟩=some (.slice am nm cm)∧V.cell? ⟨w.heap.size,1,none⟩=some (.slice ae ne ce)∧V.cell? ⟨w.heap.size+1,0,none⟩=some (.slice a0 n0 c0)∧V.cell? ⟨w.heap.size+1,1,none⟩=some (.slice a1 n1 c1):=fun V hV=>⟨A0c hV (A0a x1 0 _ rfl),A0c hV (A0a x1 1 _ rfl),A0c hV (A0a x2 0 _ rfl),A0c hV (A0a x2 1 _ rfl)⟩
 obtain⟨ANS,HANS⟩:∃ ANS,Hid (ANS=A0z g d msg x):=⟨_,rfl⟩
 rw[←HANS.out]
 by_cases hQ0:Q=0
 ·have ez:(Q != 0)=false:=by simp[hQ0]
  have hr:(A0p g).1=0:=by rw[←HQ.out];exact hQ0
  have HZ:Hid (Q=0):=hQ0
  clear hQ0
  by_cases hlo:msg < 0
  ·have HA:Hid (ANS=6):=by show _=_;rw[HANS.out,A0z,if_neg (by rw[hr];simp),if_pos (.inl hlo)]
   go_enter Tryz.func9,Tryz.ntmps9
   go_wp2_with fail
   rw[←HW2.out]
   refine hwr.mono ?_
   rintro r w3 ⟨rfl,hb3⟩
   go_wp2
   go_ret
   exact⟨by rw[HA.out];rfl,(BTd hb2 hb3).alloc (BTd hb2 hb3).size _⟩
  ·have hlo':¬ (msg < 0):=hlo
   by_cases hhi:(nm:Int)≤msg
   ·have HA:Hid (ANS=6):=by show _=_;rw[HANS.out,A0z,if_neg (by rw[hr];simp),if_pos (.inr (by rw[←Hnm.out];exact hhi))]
    go_enter Tryz.func9,Tryz.ntmps9
    go_wp2_with fail
    rw[←HW2.out]
    refine hwr.mono ?_
    rintro r w3 ⟨rfl,hb3⟩
    obtain⟨t0,t1,t2,t3⟩:=hcl w3 hb3
    have hs3:w.heap.size < w3.heap.size:=Nat.lt_of_lt_of_le (by omega) hb3.size
    go_wp2
    go_ret
    exact⟨by rw[HA.out];rfl,(BTd hb2 hb3).alloc (BTd hb2 hb3).size _⟩
   ·have hin:msg.toNat < g.msgs.length:=by rw[←Hnm.out];omega
    obtain⟨i,rfl⟩:∃ i:Nat,msg=(i:Int):=⟨msg.toNat,by omega⟩
    have hin:i < g.msgs.length:=hin
    obtain⟨m,hm⟩:∃ m,g.msgs[i]?=some m:=⟨g.msgs[i],List.getElem?_eq_getElem hin⟩
    have HA:Hid (ANS=A2o g (d+1) 1 m.fields x):=by
     show _=_
     rw[HANS.out,A0z,if_neg (by rw[hr];simp),if_neg (by omega)]
     show(match g.msgs[((i:Nat):Int).toNat]? with|some m=>A2o g (d+1) 1 m.fields x|none=>6)=_
     rw[Int.toNat_natCast,hm]
    have hbody:∀ V,Below W2.heap.size W2 V→Calls Tryz.prog 27 #[.agg #[.slice am nm cm,.slice ae ne ce],.int .i64 (i:Int),.agg #[.slice a0 n0 c0,.slice a1 n1 c1],.int .i64 1] V fun r w'=>r = .returned (.int .i64 ANS)∧Below V.heap.size V w':=by
     intro V hV
     have hWV:=BTd hb2 hV
     rw[HA.out]
     exact A7p (A2m hr) (fun m hm y hy=>⟨B0l hr m hm y hy,hch m hm y hy⟩) hg (d+1) V 1 i m _ _ x hWV (by omega) (by omega) hm (hq.below hWV) hok
    have hiz:(i:Int) < (nm:Int):=by omega
    clear hg hq hok hm hlo hr hin hlo' hhi hch
    have hlo':¬ ((i:Int) < 0):=by omega
    have hhi:¬ ((nm:Int)≤(i:Int)):=by omega
    go_enter Tryz.func9,Tryz.ntmps9
    go_wp2_with fail
    rw[←HW2.out]
    refine hwr.mono ?_
    rintro r w3 ⟨rfl,hb3⟩
    obtain⟨W4,HW4⟩:∃ W4,Hid (W4=w3.alloc (.cells #[.int .i64 Q,.int .i64 QI] 63)):=⟨_,rfl⟩
    have hb34:Below w3.heap.size w3 W4:=by rw[HW4.out];exact(Below.refl _ _).alloc (Nat.le_refl _) _
    have hb4:Below W2.heap.size W2 W4:=BTd hb3 hb34
    have hs3:w.heap.size < w3.heap.size:=Nat.lt_of_lt_of_le (by omega) hb3.size
    obtain⟨t0,t1,t2,t3⟩:=hcl w3 hb3
    have hbd:=hbody _ hb4
    obtain⟨s0,s1,s2,s3⟩:=hcl _ hb4
    go_upto_region 6 with fail
    rw[←HW4.out]
    go_wp2_with fail
    refine hbd.mono ?_
    rintro r w5 ⟨rfl,hb5⟩
    go_wp2
    go_ret
    exact⟨rfl,BTd hb2 (BTd hb4 hb5)⟩
 ·have ez:(Q != 0)=true:=by simpa using hQ0
  have HA:Hid (ANS=Q):=by show _=_;rw[HANS.out,A0z,if_pos (by rw[←HQ.out];exact hQ0),HQ.out]
  clear hQ0
  go_enter Tryz.func9,Tryz.ntmps9
  go_wp2_with fail
  rw[←HW2.out]
  refine hwr.mono ?_
  rintro r w3 ⟨rfl,hb3⟩
  go_wp2
  go_ret
  exact⟨by rw[HA.out];rfl,(BTd hb2 hb3).alloc (BTd hb2 hb3).size _⟩
end L
end Go.Proofs.YtelmjekjohbmjaaGreatDoor
