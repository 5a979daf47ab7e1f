import Derived.Test.YtgaoojpakjjdnaaGreatDoorV45
set_option maxHeartbeats 32000000
set_option maxRecDepth 100000
namespace Go.Proofs.YtgaoojpakjjdnaaGreatDoor
open Go.RowKit
def D7b (w:World)(l:List UInt8)(x:R Fil)(en:Ending)(w':World):Prop:=
 Below w.heap.size w w'∧
  match x with
  | .ok (f,_)=>∃ vm ve lm le,en = .returned (.tuple #[.agg #[vm,ve],.agg #[.int .i64 0,.int .i64 0]])∧FilR w' w.heap.size vm ve lm le∧lm.map Prod.fst=f.msgs∧le.map Prod.fst=f.enums∧lm.length+le.length≤10
  | .error (some (c,t))=>t.length≤l.length∧en = .returned (.tuple #[.agg #[.slice none 0 0,.slice none 0 0],.agg #[.int .i64 (c:Int),.int .i64 ((l.length-t.length:Nat):Int)]])
  | .error none=>False
theorem C1q (w:World)(o1 o2 o3:Obj):(((w.alloc o1).alloc o2).alloc o3).heap[w.heap.size+2]?=some o3∧(((w.alloc o1).alloc o2).alloc o3).heap[w.heap.size+1]?=some o2∧(((w.alloc o1).alloc o2).alloc o3).heap[w.heap.size]?=some o1:=by
 refine⟨?_,?_,?_⟩
 ·have:=heap_alloc_new ((w.alloc o1).alloc o2) o3
  rwa [show((w.alloc o1).alloc o2).heap.size=w.heap.size+2 by simp] at this
 ·rw[Below.heap_alloc _ _ _ (by simp)];exact A0j _ _ _
 ·rw[Below.heap_alloc _ _ _ (by simp;omega)];exact A0o _ _ _
theorem FilR.mono {w:World}{base base':Nat}{vm ve:Value}{lm:List (Msg×SV×SV)}{le:List (Enm×SV)}(h:FilR w base vm ve lm le)(hb:base'≤base):FilR w base' vm ve lm le:=
 ⟨h.rowm.mono hb,h.rowe.mono hb,fun p hp=>⟨(h.ms p hp).1.mono hb,(h.ms p hp).2.mono hb⟩,fun p hp=>(h.es p hp).mono hb⟩
theorem C5m {B:Nat}(l:List UInt8)(hl:l.length≤3000){w:World}(hg:Gl B w)(hB:B≤w.heap.size)(K:Nat)(ak:K≤1000000)(hN:A7e K l≠.error none) :
  Calls Tryz.prog 51 #[.string (S l)] w (D7b w l (A7e K l)):=by
 have bc:∀ (fn:Fn) (first cap:Array Value) (w:World),(Instr.makeFunc fn first cap).run Tryz.prog w = .ok (.func fn first cap) w:=fun _ _ _ _=>rfl
 obtain⟨a3,a2,a1⟩:=C1q w (.cells #[.slice none 0 0,.slice none 0 0] 25) (.cells #[.int .i64 0,.int .i64 0] 50) (.cells #[.string (S l),.int .i64 0,.slice none 0 0,.slice none 0 0] 182)
 have hb3:Below w.heap.size w (((w.alloc (.cells #[.slice none 0 0,.slice none 0 0] 25)).alloc (.cells #[.int .i64 0,.int .i64 0] 50)).alloc (.cells #[.string (S l),.int .i64 0,.slice none 0 0,.slice none 0 0] 182)):=
  (((Below.refl _ _).alloc (Nat.le_refl _) _).alloc (by simp) _).alloc (by simp;omega) _
 go_enter_defers Tryz.func51,Tryz.ntmps51
 go_wp2_with fail
 generalize hW:((w.alloc (.cells #[.slice none 0 0,.slice none 0 0] 25)).alloc (.cells #[.int .i64 0,.int .i64 0] 50)).alloc (.cells #[.string (S l),.int .i64 0,.slice none 0 0,.slice none 0 0] 182)=W at *
 have ba:W.heap.size=w.heap.size+3:=by rw[←hW];simp
 clear hW
 have hs:St W (w.heap.size+2) l l (.slice none 0 0) (.slice none 0 0):=⟨hl,Nat.le_refl _,by simp,by rw[a3];simp⟩
 refine(D5l hs (hg.later (hb3.mono hB)) (by omega) K ak hN).mono ?_
 rintro en w1 ⟨hk,hx⟩
 have b2:=A0w a2 hk (by omega)
 have b1:=A0w a1 hk (by omega)
 have ag:Below w.heap.size w w1:=hb3.trans (hk.below (by omega) (by omega))
 cases hp:A7e K l with
 | error E=>
  have ac:A1x K K ⟨[],[]⟩ l = .error E:=hp
  rw[ac] at hx
  match E,hx with
  | none,hx=>exact hx.elim
  | some (c,t),hx=>
   obtain⟨ht,rfl⟩:=hx
   have HP:Hid (A7e K l = .error (some (c,t))):=hp
   clear hp ac hN hx
   obtain⟨d0,d1⟩:=A0y b1
   obtain⟨e0,e1⟩:=A0y b2
   have k0:=A0b b2 0
   have k1:=A0b b2 1
   go_wp2
   refine leaves_cons (f:=114) (args:=#[.pointer (some ⟨w.heap.size+1,0,none⟩)]) (by simp) (by simp[go_sem]) ?_
   refine(B7o (w.heap.size+1) c _ w1 0 0 e0 e1 k0 k1).mono ?_
   rintro e u' w'' ⟨rfl,rfl,rfl⟩
   simp[Leaves,settle,results,Tryz.results51,go_sem,d0,d1,e0,e1]
   exact⟨(ag.setCell (p:=⟨w.heap.size+1,0,none⟩) (by simp) _).setCell (p:=⟨w.heap.size+1,1,none⟩) (by simp) _,ht,rfl⟩
 | ok p=>
  obtain⟨f,t⟩:=p
  have ac:A1x K K ⟨[],[]⟩ l = .ok (f,t):=hp
  rw[ac] at hx
  obtain⟨rfl,vm,ve,lm,le,hF,hm,he,hlen,hst⟩:=hx
  obtain⟨aw,nm,aj,rfl,_⟩:=hF.rowm.shape'
  obtain⟨au,ne,ah,rfl,_⟩:=hF.rowe.shape'
  obtain⟨c2,c3⟩:=hst.c23
  obtain⟨d0,d1⟩:=A0y b1
  obtain⟨e0,e1⟩:=A0y b2
  have g0:=A0b b1 0
  have g1:=A0b b1 1
  have k0:=A0b b2 0
  have k1:=A0b b2 1
  have HP:Hid (A7e K l = .ok (f,t)):=hp
  clear hp ac hN
  go_wp2
  refine leaves_cons (f:=114) (args:=#[.pointer (some ⟨w.heap.size+1,0,none⟩)]) (by simp) (by simp[go_sem]) ?_
  refine(C3s (w.heap.size+1) _).mono ?_
  rintro e u' w'' ⟨rfl,rfl,rfl⟩
  simp[Leaves,settle,results,Tryz.results51,go_sem,d0,d1,e0,e1]
  rw[HP.out]
  refine⟨(((ag.setCell (p:=⟨w.heap.size,0,none⟩) (by simp) _).setCell (p:=⟨w.heap.size,1,none⟩) (by simp) _).setCell (p:=⟨w.heap.size+1,0,none⟩) (by simp) _).setCell (p:=⟨w.heap.size+1,1,none⟩) (by simp) _,_,_,lm,le,rfl,?_,hm,he,hlen⟩
  exact((((hF.set (b:=w.heap.size) (by omega) _ _).set (b:=w.heap.size) (by omega) _ _).set (b:=w.heap.size+1) (by omega) _ _).set (b:=w.heap.size+1) (by omega) _ _).mono (by omega)
theorem C6i {B:Nat}(l:List UInt8)(hl:l.length≤3000){w:World}(hg:Gl B w)(hB:B≤w.heap.size)(K:Nat)(au:K≤1000000)(hN:A7e K l≠.error none) :
  Calls Tryz.prog 23 #[.string (S l)] w (D7b w l (A7e K l)):=by
 have hsz:=A3j l
 have ba:((l.length:Nat):Int)≤3000:=by omega
 have hb0:Below w.heap.size w ((w.alloc (.cells #[.slice none 0 0,.slice none 0 0] 25)).alloc (.cells #[.int .i64 0,.int .i64 0] 50)):=((Below.refl _ _).alloc (Nat.le_refl _) _).alloc (by simp) _
 have a2:=A0j w (.cells #[.slice none 0 0,.slice none 0 0] 25) (.cells #[.int .i64 0,.int .i64 0] 50)
 have a1:=A0o w (.cells #[.slice none 0 0,.slice none 0 0] 25) (.cells #[.int .i64 0,.int .i64 0] 50)
 go_enter Tryz.func23,Tryz.ntmps23
 go_wp2_with fail
 generalize hW:(w.alloc (.cells #[.slice none 0 0,.slice none 0 0] 25)).alloc (.cells #[.int .i64 0,.int .i64 0] 50)=W at *
 have aw:W.heap.size=w.heap.size+2:=by rw[←hW];simp
 clear hW
 refine(C5m l hl (hg.later (hb0.mono hB)) (by omega) K au hN).mono ?_
 rintro en w1 ⟨hk,hx⟩
 have b2:=A8u a2 hk
 have b1:=A8u a1 hk
 have ah:Below w.heap.size w w1:=hb0.trans (hk.mono (by omega))
 obtain⟨d0,d1⟩:=A0y b1
 obtain⟨e0,e1⟩:=A0y b2
 have g0:=A0b b1 0
 have g1:=A0b b1 1
 have k0:=A0b b2 0
 have k1:=A0b b2 1
 clear a1 a2 hb0 hk
 cases hp:A7e K l with
 | error E=>
  rw[hp] at hx
  match E,hx with
  | none,hx=>exact hx.elim
  | some (c,t),hx=>
   obtain⟨ht,rfl⟩:=hx
   have HP:Hid (A7e K l = .error (some (c,t))):=hp
   clear hp hN hx
   obtain⟨N,HN⟩:∃ N,Hid (N=l.length-t.length):=⟨_,rfl⟩
   rw[←HN.out]
   go_wp2
   refine bodyPost_ret (v:=.tuple #[.agg #[.slice none 0 0,.slice none 0 0],.agg #[.int .i64 (c:Int),.int .i64 (N:Int)]]) (by simp[results,Tryz.results23,go_sem,d0,d1,e0,e1]) rfl ?_
   rw[HN.out,HP.out]
   exact⟨(((ah.setCell (p:=⟨w.heap.size,0,none⟩) (by simp) _).setCell (p:=⟨w.heap.size,1,none⟩) (by simp) _).setCell (p:=⟨w.heap.size+1,0,none⟩) (by simp) _).setCell (p:=⟨w.heap.size+1,1,none⟩) (by simp) _,ht,rfl⟩
 | ok p=>
  obtain⟨f,t⟩:=p
  rw[hp] at hx
  obtain⟨vm,ve,lm,le,rfl,hF,hm,he,hlen⟩:=hx
  obtain⟨ak,nm,ag,rfl,_⟩:=hF.rowm.shape'
  obtain⟨aj,ne,ac,rfl,_⟩:=hF.rowe.shape'
  have HP:Hid (A7e K l = .ok (f,t)):=hp
  clear hp hN
  go_wp2
  refine bodyPost_ret (v:=.tuple #[.agg #[.slice ak nm ag,.slice aj ne ac],.agg #[.int .i64 0,.int .i64 0]]) (by simp[results,Tryz.results23,go_sem,d0,d1,e0,e1]) rfl ?_
  rw[HP.out]
  refine⟨(((ah.setCell (p:=⟨w.heap.size,0,none⟩) (by simp) _).setCell (p:=⟨w.heap.size,1,none⟩) (by simp) _).setCell (p:=⟨w.heap.size+1,0,none⟩) (by simp) _).setCell (p:=⟨w.heap.size+1,1,none⟩) (by simp) _,_,_,lm,le,rfl,?_,hm,he,hlen⟩
  exact((((hF.set (b:=w.heap.size) (by omega) _ _).set (b:=w.heap.size) (by omega) _ _).set (b:=w.heap.size+1) (by omega) _ _).set (b:=w.heap.size+1) (by omega) _ _).mono (by omega)
end Go.Proofs.YtgaoojpakjjdnaaGreatDoor
