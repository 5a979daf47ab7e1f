import Derived.Test.YtgaoojpakjjdnaaGreatDoorX18
set_option maxHeartbeats 32000000
set_option maxRecDepth 100000
set_option linter.unusedVariables false
namespace Go.Proofs.YtgaoojpakjjdnaaGreatDoor
namespace L
open Go.RowKit
theorem B0t {g:GI}{ac:List Int}:∀ (l:List FI) (i:Nat) (s:Mem),(A0j (A1g g ac) A5p i l s).1=0→∀ y∈l,∃ s,A7m g ac y s=true
 | [],_,_,_,_,hy=>by simp at hy
 | x::l,i,s,h,y,hy=>by
  obtain⟨h1,h2⟩:=A8c h
  rcases List.mem_cons.1 hy with rfl|hy
  ·exact⟨s,h1⟩
  ·exact B0t l _ _ h2 y hy
theorem B0w {g:GI}(hr:(wrongL g).1=0):E1n g:=by
 intro m hm x hx hk
 obtain⟨s,hs⟩:=B0t _ _ _ (D7p ((A7s hr).2.2 m hm)).2.2.2 x hx
 simp only[A7m,Bool.and_eq_true] at hs
 have hh:C0g g x=true:=hs.2.2.2.2.1
 unfold C0g at hh
 rw[if_pos hk] at hh
 rcases A2s (fun m:MI=>decide (m.name=x.type)) g.msgs with⟨h1,_⟩|⟨_,m',_,_,h3,_⟩
 ·rw[h1] at hh;simp at hh
 ·exact⟨m',h3⟩
def A5r (g:GI)(d:Nat)(msg:Int)(x:BI (d+1)):Int:=
 if (wrongL g).1≠0 then(wrongL g).1
 else if msg<0∨(g.msgs.length:Int)≤msg then 6
 else match g.msgs[msg.toNat]? with
  | some m=>A2g g (d+1) 1 m.fields x
  | none=>6
theorem B5s {w:World}{g:GI}{d:Nat}{vm ve v0 v1:Value}{msg:Int}{x:BI (d+1)}(hg:GRd w vm ve g)(cg:g.msgs.length≤140737488355328)(cj:g.enums.length≤140737488355328)(bh:Fits g)(hq:BRd d w v0 v1 x)(bt:BOk (d+1) x)(hT:Tabs w)(cw : -9223372036854775808≤msg)(df:msg≤9223372036854775807) :
  Calls Tryz.prog 12 #[.agg #[vm,ve],.int .i64 msg,.agg #[v0,v1]] w fun r w'=>r = .returned (.int .i64 (A5r g d msg x))∧Below w.heap.size w w':=by
 obtain⟨am,nm,cm,rfl,bq,_⟩:=hg.1.shape
 obtain⟨ae,ne,ce,rfl,_,_⟩:=hg.2.shape
 obtain⟨a0,n0,c0,a1,n1,c1,rfl,rfl⟩:=hq.shape
 obtain⟨W2,ah⟩:∃ W2,Hid (W2=(w.alloc (.cells #[.slice am nm cm,.slice ae ne ce] 25)).alloc (.cells #[.slice a0 n0 c0,.slice a1 n1 c1] 29)):=⟨_,rfl⟩
 have hb2:Below w.heap.size w W2:=by rw[ah.out];exact((Below.refl _ _).alloc (Nat.le_refl _) _).alloc (by simp) _
 have z2:w.heap.size+2≤W2.heap.size:=by rw[ah.out];simp
 have x1:W2.heap[w.heap.size]?=some (.cells #[.slice am nm cm,.slice ae ne ce] 25 (0,0)):=by rw[ah.out];exact A0l _ _ _
 have x2:W2.heap[w.heap.size+1]?=some (.cells #[.slice a0 n0 c0,.slice a1 n1 c1] 29 (0,0)):=by rw[ah.out];exact A0i _ _ _
 have hwr:=A9d (hg.below hb2) cg cj bh
 obtain⟨Q,HQ⟩:∃ Q,Hid (Q=(wrongL g).1):=⟨_,rfl⟩
 obtain⟨QI,bu⟩:∃ QI,Hid (QI=(((wrongL g).2:Nat):Int)):=⟨_,rfl⟩
 rw[←HQ.out,←bu.out] at hwr
 have bg:∀ V,Below W2.heap.size W2 V→V.cell? ⟨w.heap.size,0,none⟩=some (.slice am nm cm)∧V.cell? ⟨w.heap.size,1,none⟩=some (.slice ae ne ce)∧V.cell? ⟨w.heap.size+1,0,none⟩=some (.slice a0 n0 c0)∧V.cell? ⟨w.heap.size+1,1,none⟩=some (.slice a1 n1 c1):=fun V hV=>⟨A0c hV (A0a x1 0 _ rfl),A0c hV (A0a x1 1 _ rfl),A0c hV (A0a x2 0 _ rfl),A0c hV (A0a x2 1 _ rfl)⟩
 obtain⟨aj,ac⟩:∃ aj,Hid (aj=A5r g d msg x):=⟨_,rfl⟩
 rw[←ac.out]
 by_cases hQ0:Q=0
 ·have ez:(Q != 0)=false:=by simp[hQ0]
  have hr:(wrongL g).1=0:=by rw[←HQ.out];exact hQ0
  have HZ:Hid (Q=0):=hQ0
  clear hQ0
  by_cases hlo:msg<0
  ·have HA:Hid (aj=6):=by show _=_;rw[ac.out,A5r,if_neg (by rw[hr];simp),if_pos (.inl hlo)]
   go_enter Tryz.func12,Tryz.ntmps12
   go_wp2_with fail
   rw[←ah.out]
   refine hwr.mono ?_
   rintro r w3 ⟨rfl,hb3⟩
   go_wp2
   go_ret
   exact⟨by rw[HA.out];rfl,(BTd hb2 hb3).alloc (BTd hb2 hb3).size _⟩
  ·have au:¬ (msg<0):=hlo
   by_cases bk:(nm:Int)≤msg
   ·have HA:Hid (aj=6):=by show _=_;rw[ac.out,A5r,if_neg (by rw[hr];simp),if_pos (.inr (by rw[←bq.out];exact bk))]
    go_enter Tryz.func12,Tryz.ntmps12
    go_wp2_with fail
    rw[←ah.out]
    refine hwr.mono ?_
    rintro r w3 ⟨rfl,hb3⟩
    obtain⟨t0,t1,t2,t3⟩:=bg w3 hb3
    have hs3:w.heap.size<w3.heap.size:=Nat.lt_of_lt_of_le (by omega) hb3.size
    go_wp2
    go_ret
    exact⟨by rw[HA.out];rfl,(BTd hb2 hb3).alloc (BTd hb2 hb3).size _⟩
   ·have aw:msg.toNat<g.msgs.length:=by rw[←bq.out];omega
    obtain⟨i,rfl⟩:∃ i:Nat,msg=(i:Int):=⟨msg.toNat,by omega⟩
    have aw:i<g.msgs.length:=aw
    obtain⟨m,hm⟩:∃ m,g.msgs[i]?=some m:=⟨g.msgs[i],List.getElem?_eq_getElem aw⟩
    obtain⟨b,off,rfl,hat⟩:=hg.1.get MAt.plain hm
    obtain⟨vf,vb,t0,t1,t2,hf,hbr⟩:=hat.at
    obtain⟨af,nf,br,rfl,_,_⟩:=hf.shape
    obtain⟨ab,nb,cb,rfl,_,_⟩:=hbr.shape
    have HA:Hid (aj=A2g g (d+1) 1 m.fields x):=by
     show _=_
     rw[ac.out,A5r,if_neg (by rw[hr];simp),if_neg (by omega)]
     show(match g.msgs[((i:Nat):Int).toNat]? with|some m=>A2g g (d+1) 1 m.fields x|none=>6)=_
     rw[Int.toNat_natCast,hm]
    have ak:∀ V,Below W2.heap.size W2 V→Calls Tryz.prog 25 #[.agg #[.slice (some ⟨b,off,none⟩) nm cm,.slice ae ne ce],.agg #[.string (S m.name),.slice af nf br,.slice ab nb cb],.agg #[.slice a0 n0 c0,.slice a1 n1 c1],.int .i64 1] V fun r w'=>r = .returned (.int .i64 aj)∧Below V.heap.size V w':=by
     intro V hV
     have ag:=BTd hb2 hV
     rw[HA.out]
     exact C2n (B0w hr) (d+1) V 1 _ _ m _ _ _ _ x (by omega) (by omega) (hg.below ag) (List.mem_of_getElem? hm) (hf.below FAt.stays ag) (hbr.below NAt.stays ag) (hq.below ag) bt (hT.below ag)
    have hcm:∀ V,Below W2.heap.size W2 V→V.cell? ⟨b,off+i*3,none⟩=some (.string (S m.name))∧V.cell? ⟨b,off+i*3+1,none⟩=some (.slice af nf br)∧V.cell? ⟨b,off+i*3+2,none⟩=some (.slice ab nb cb):=fun V hV=>
     have ag:=BTd hb2 hV
     ⟨A0c ag t0,A0c ag t1,A0c ag t2⟩
    have cu:(i:Int)<(nm:Int):=by omega
    clear hg hq hf hbr hat t0 t1 t2 hT bt hm hlo hr aw au bk
    have au:¬ ((i:Int)<0):=by omega
    have bk:¬ ((nm:Int)≤(i:Int)):=by omega
    go_enter Tryz.func12,Tryz.ntmps12
    go_wp2_with fail
    rw[←ah.out]
    refine hwr.mono ?_
    rintro r w3 ⟨rfl,hb3⟩
    obtain⟨W4,bp⟩:∃ W4,Hid (W4=w3.alloc (.cells #[.int .i64 Q,.int .i64 QI] 50)):=⟨_,rfl⟩
    have a8:Below w3.heap.size w3 W4:=by rw[bp.out];exact(Below.refl _ _).alloc (Nat.le_refl _) _
    have hb4:Below W2.heap.size W2 W4:=BTd hb3 a8
    have hs3:w.heap.size<w3.heap.size:=Nat.lt_of_lt_of_le (by omega) hb3.size
    obtain⟨t0,t1,t2,t3⟩:=bg w3 hb3
    have hD:=BTd hb4 ((Below.refl W4.heap.size W4).drew)
    obtain⟨s0,s1,s2,s3⟩:=bg _ hD
    obtain⟨p0,p1,p2⟩:=hcm _ hD
    have bw:=ak _ hD
    go_wp2_with fail
    rw[←bp.out]
    go_region_with (refine bw.mono ?_;rintro r w5 ⟨rfl,bv⟩)
    all_goals
     go_wp2
     go_ret
     exact⟨rfl,BTd hb2 (BTd hD bv)⟩
 ·have ez:(Q != 0)=true:=by simpa using hQ0
  have HA:Hid (aj=Q):=by show _=_;rw[ac.out,A5r,if_pos (by rw[←HQ.out];exact hQ0),HQ.out]
  clear hQ0
  go_enter Tryz.func12,Tryz.ntmps12
  go_wp2_with fail
  rw[←ah.out]
  refine hwr.mono ?_
  rintro r w3 ⟨rfl,hb3⟩
  go_wp2
  go_ret
  exact⟨by rw[HA.out];rfl,(BTd hb2 hb3).alloc (BTd hb2 hb3).size _⟩
theorem B8d {V V':World}{k:Nat}(h:V'.heap[k]?=V.heap[k]?)(i:Nat):V'.cell? ⟨k,i,none⟩=V.cell? ⟨k,i,none⟩:=by
 unfold World.cell?
 simp only[h]
end L
end Go.Proofs.YtgaoojpakjjdnaaGreatDoor
