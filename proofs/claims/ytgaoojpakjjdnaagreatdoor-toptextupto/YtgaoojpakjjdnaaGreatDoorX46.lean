import Derived.Test.YtgaoojpakjjdnaaGreatDoorX45
set_option maxHeartbeats 32000000
set_option maxRecDepth 100000
namespace Go.Proofs.YtgaoojpakjjdnaaGreatDoor
open Go.RowKit
def D9z (w:World)(l:List UInt8)(x:R Fil)(en:Ending)(w':World):Prop:=
 Below w.heap.size w w'∧
  match x with
  | .ok (f,_)=>∃ vm ve lm le,en = .returned (.tuple #[.agg #[vm,ve],.agg #[.int .i64 0,.int .i64 0]])∧FilR w' w.heap.size vm ve lm le∧lm.map Prod.fst=f.msgs∧le.map Prod.fst=f.enums∧lm.length+le.length≤10
  | .error (some (c,t))=>t.length≤l.length∧en = .returned (.tuple #[.agg #[.slice none 0 0,.slice none 0 0],.agg #[.int .i64 (c:Int),.int .i64 ((l.length-t.length:Nat):Int)]])
  | .error none=>False
theorem B7u (w:World)(o1 o2 o3:Obj):(((w.alloc o1).alloc o2).alloc o3).heap[w.heap.size+2]?=some o3∧(((w.alloc o1).alloc o2).alloc o3).heap[w.heap.size+1]?=some o2∧(((w.alloc o1).alloc o2).alloc o3).heap[w.heap.size]?=some o1:=by
 refine⟨?_,?_,?_⟩
 ·have:=heap_alloc_new ((w.alloc o1).alloc o2) o3
  rwa [show((w.alloc o1).alloc o2).heap.size=w.heap.size+2 by simp] at this
 ·rw[Below.heap_alloc _ _ _ (by simp)];exact A0i _ _ _
 ·rw[Below.heap_alloc _ _ _ (by simp;omega)];exact A0l _ _ _
theorem FilR.mono {w:World}{base base':Nat}{vm ve:Value}{lm:List (Msg×SV×SV)}{le:List (Enm×SV)}(h:FilR w base vm ve lm le)(hb:base'≤base):FilR w base' vm ve lm le:=
 ⟨h.rowm.mono hb,h.rowe.mono hb,fun p hp=>⟨(h.ms p hp).1.mono hb,(h.ms p hp).2.mono hb⟩,fun p hp=>(h.es p hp).mono hb⟩
theorem C6o {B:Nat}(l:List UInt8)(hl:l.length≤3000){w:World}(hg:Gl B w)(hB:B≤w.heap.size)(K:Nat)(ak:K≤1000000)(hN:A5k K l≠.error none) :
  Calls Tryz.prog 51 #[.string (S l)] w (D9z w l (A5k K l)):=by
 have bg:∀ (fn:Fn) (first cap:Array Value) (w:World),(Instr.makeFunc fn first cap).run Tryz.prog w = .ok (.func fn first cap) w:=fun _ _ _ _=>rfl
 obtain⟨a3,a2,a1⟩:=B7u w (.cells #[.slice none 0 0,.slice none 0 0] 25) (.cells #[.int .i64 0,.int .i64 0] 50) (.cells #[.string (S l),.int .i64 0,.slice none 0 0,.slice none 0 0] 182)
 have hb3:Below w.heap.size w (((w.alloc (.cells #[.slice none 0 0,.slice none 0 0] 25)).alloc (.cells #[.int .i64 0,.int .i64 0] 50)).alloc (.cells #[.string (S l),.int .i64 0,.slice none 0 0,.slice none 0 0] 182)):=
  (((Below.refl _ _).alloc (Nat.le_refl _) _).alloc (by simp) _).alloc (by simp;omega) _
 go_enter_defers Tryz.func51,Tryz.ntmps51
 go_wp2_with fail
 generalize hW:((w.alloc (.cells #[.slice none 0 0,.slice none 0 0] 25)).alloc (.cells #[.int .i64 0,.int .i64 0] 50)).alloc (.cells #[.string (S l),.int .i64 0,.slice none 0 0,.slice none 0 0] 182)=W at *
 have a8:W.heap.size=w.heap.size+3:=by rw[←hW];simp
 clear hW
 have hs:St W (w.heap.size+2) l l (.slice none 0 0) (.slice none 0 0):=⟨hl,Nat.le_refl _,by simp,by rw[a3];simp⟩
 refine(D8a hs (hg.later (hb3.mono hB)) (by omega) K ak hN).mono ?_
 rintro en w1 ⟨hk,hx⟩
 have b2:=A0q a2 hk (by omega)
 have b1:=A0q a1 hk (by omega)
 have ag:Below w.heap.size w w1:=hb3.trans (hk.below (by omega) (by omega))
 cases hp:A5k K l with
 | error E=>
  have ac:A1m K K ⟨[],[]⟩ l = .error E:=hp
  rw[ac] at hx
  match E,hx with
  | none,hx=>exact hx.elim
  | some (c,t),hx=>
   obtain⟨ht,rfl⟩:=hx
   have HP:Hid (A5k K l = .error (some (c,t))):=hp
   clear hp ac hN hx
   obtain⟨d0,d1⟩:=A0r b1
   obtain⟨e0,e1⟩:=A0r b2
   have k0:=A0b b2 0
   have k1:=A0b b2 1
   go_wp2
   refine leaves_cons (f:=114) (args:=#[.pointer (some ⟨w.heap.size+1,0,none⟩)]) (by simp) (by simp[go_sem]) ?_
   refine(B8c (w.heap.size+1) c _ w1 0 0 e0 e1 k0 k1).mono ?_
   rintro e u' w'' ⟨rfl,rfl,rfl⟩
   simp[Leaves,settle,results,Tryz.results51,go_sem,d0,d1,e0,e1]
   exact⟨(ag.setCell (p:=⟨w.heap.size+1,0,none⟩) (by simp) _).setCell (p:=⟨w.heap.size+1,1,none⟩) (by simp) _,ht,rfl⟩
 | ok p=>
  obtain⟨f,t⟩:=p
  have ac:A1m K K ⟨[],[]⟩ l = .ok (f,t):=hp
  rw[ac] at hx
  obtain⟨rfl,vm,ve,lm,le,hF,hm,he,hlen,hst⟩:=hx
  obtain⟨aw,nm,aj,rfl,_⟩:=hF.rowm.shape'
  obtain⟨au,ne,ah,rfl,_⟩:=hF.rowe.shape'
  obtain⟨c2,c3⟩:=hst.c23
  obtain⟨d0,d1⟩:=A0r b1
  obtain⟨e0,e1⟩:=A0r b2
  have g0:=A0b b1 0
  have g1:=A0b b1 1
  have k0:=A0b b2 0
  have k1:=A0b b2 1
  have HP:Hid (A5k K l = .ok (f,t)):=hp
  clear hp ac hN
  go_wp2
  refine leaves_cons (f:=114) (args:=#[.pointer (some ⟨w.heap.size+1,0,none⟩)]) (by simp) (by simp[go_sem]) ?_
  refine(C4t (w.heap.size+1) _).mono ?_
  rintro e u' w'' ⟨rfl,rfl,rfl⟩
  simp[Leaves,settle,results,Tryz.results51,go_sem,d0,d1,e0,e1]
  rw[HP.out]
  refine⟨(((ag.setCell (p:=⟨w.heap.size,0,none⟩) (by simp) _).setCell (p:=⟨w.heap.size,1,none⟩) (by simp) _).setCell (p:=⟨w.heap.size+1,0,none⟩) (by simp) _).setCell (p:=⟨w.heap.size+1,1,none⟩) (by simp) _,_,_,lm,le,rfl,?_,hm,he,hlen⟩
  exact((((hF.set (b:=w.heap.size) (by omega) _ _).set (b:=w.heap.size) (by omega) _ _).set (b:=w.heap.size+1) (by omega) _ _).set (b:=w.heap.size+1) (by omega) _ _).mono (by omega)
theorem B7q {B:Nat}(l:List UInt8)(hl:l.length≤3000){w:World}(hg:Gl B w)(hB:B≤w.heap.size)(K:Nat)(au:K≤1000000)(hN:A5k K l≠.error none) :
  Calls Tryz.prog 23 #[.string (S l)] w (D9z w l (A5k K l)):=by
 have hsz:=A3b l
 have a8:((l.length:Nat):Int)≤3000:=by omega
 have hb0:Below w.heap.size w ((w.alloc (.cells #[.slice none 0 0,.slice none 0 0] 25)).alloc (.cells #[.int .i64 0,.int .i64 0] 50)):=((Below.refl _ _).alloc (Nat.le_refl _) _).alloc (by simp) _
 have a2:=A0i w (.cells #[.slice none 0 0,.slice none 0 0] 25) (.cells #[.int .i64 0,.int .i64 0] 50)
 have a1:=A0l w (.cells #[.slice none 0 0,.slice none 0 0] 25) (.cells #[.int .i64 0,.int .i64 0] 50)
 go_enter Tryz.func23,Tryz.ntmps23
 go_wp2_with fail
 generalize hW:(w.alloc (.cells #[.slice none 0 0,.slice none 0 0] 25)).alloc (.cells #[.int .i64 0,.int .i64 0] 50)=W at *
 have aw:W.heap.size=w.heap.size+2:=by rw[←hW];simp
 clear hW
 refine(C6o l hl (hg.later (hb0.mono hB)) (by omega) K au hN).mono ?_
 rintro en w1 ⟨hk,hx⟩
 have b2:=A9e a2 hk
 have b1:=A9e a1 hk
 have ah:Below w.heap.size w w1:=hb0.trans (hk.mono (by omega))
 obtain⟨d0,d1⟩:=A0r b1
 obtain⟨e0,e1⟩:=A0r b2
 have g0:=A0b b1 0
 have g1:=A0b b1 1
 have k0:=A0b b2 0
 have k1:=A0b b2 1
 clear a1 a2 hb0 hk
 cases hp:A5k K l with
 | error E=>
  rw[hp] at hx
  match E,hx with
  | none,hx=>exact hx.elim
  | some (c,t),hx=>
   obtain⟨ht,rfl⟩:=hx
   have HP:Hid (A5k K l = .error (some (c,t))):=hp
   clear hp hN hx
   obtain⟨N,HN⟩:∃ N,Hid (N=l.length-t.length):=⟨_,rfl⟩
   rw[←HN.out]
   go_wp2
   refine bodyPost_ret (v:=.tuple #[.agg #[.slice none 0 0,.slice none 0 0],.agg #[.int .i64 (c:Int),.int .i64 (N:Int)]]) (by simp[results,Tryz.results23,go_sem,d0,d1,e0,e1]) rfl ?_
   rw[HN.out,HP.out]
   exact⟨(((ah.setCell (p:=⟨w.heap.size,0,none⟩) (by simp) _).setCell (p:=⟨w.heap.size,1,none⟩) (by simp) _).setCell (p:=⟨w.heap.size+1,0,none⟩) (by simp) _).setCell (p:=⟨w.heap.size+1,1,none⟩) (by simp) _,ht,rfl⟩
 | ok p=>
  obtain⟨f,t⟩:=p
  rw[hp] at hx
  obtain⟨vm,ve,lm,le,rfl,hF,hm,he,hlen⟩:=hx
  obtain⟨ak,nm,ag,rfl,_⟩:=hF.rowm.shape'
  obtain⟨aj,ne,ac,rfl,_⟩:=hF.rowe.shape'
  have HP:Hid (A5k K l = .ok (f,t)):=hp
  clear hp hN
  go_wp2
  refine bodyPost_ret (v:=.tuple #[.agg #[.slice ak nm ag,.slice aj ne ac],.agg #[.int .i64 0,.int .i64 0]]) (by simp[results,Tryz.results23,go_sem,d0,d1,e0,e1]) rfl ?_
  rw[HP.out]
  refine⟨(((ah.setCell (p:=⟨w.heap.size,0,none⟩) (by simp) _).setCell (p:=⟨w.heap.size,1,none⟩) (by simp) _).setCell (p:=⟨w.heap.size+1,0,none⟩) (by simp) _).setCell (p:=⟨w.heap.size+1,1,none⟩) (by simp) _,_,_,lm,le,rfl,?_,hm,he,hlen⟩
  exact((((hF.set (b:=w.heap.size) (by omega) _ _).set (b:=w.heap.size) (by omega) _ _).set (b:=w.heap.size+1) (by omega) _ _).set (b:=w.heap.size+1) (by omega) _ _).mono (by omega)
theorem C4j (s:ByteArray)(hl:3000<s.size)(hm:s.size≤9223372036854775807)(w:World) :
  Calls Tryz.prog 23 #[.string s] w fun en w'=>en = .returned (.tuple #[.agg #[.slice none 0 0,.slice none 0 0],.agg #[.int .i64 4,.int .i64 0]])∧Below w.heap.size w w':=by
 have ac:(3000:Int)<(s.size:Int):=by omega
 go_enter Tryz.func23,Tryz.ntmps23
 go_wp2
 refine bodyPost_ret (v:=.tuple #[.agg #[.slice none 0 0,.slice none 0 0],.agg #[.int .i64 4,.int .i64 0]]) (by simp[results,Tryz.results23,go_sem]) rfl ?_
 refine⟨rfl,?_⟩
 exact((Below.refl _ _).alloc (Nat.le_refl _) _).alloc (by simp) _
end Go.Proofs.YtgaoojpakjjdnaaGreatDoor
namespace Go.Proofs.YtgaoojpakjjdnaaGreatDoor
theorem B8g {many:Bool}{ch:Nat}{r:List UInt8}:A1v many ch r≠.error none:=by
 intro h
 unfold A1v at h
 rcases A1i h with h|⟨_,u1,_,h⟩
 ·exact(A8g h).1 rfl
 rcases A1i h with h|⟨_,u2,_,h⟩
 ·exact(A8g h).1 rfl
 rcases A1i h with h|⟨_,u3,_,h⟩
 ·exact(A4g h).1 rfl
 rcases A1i h with h|⟨_,u4,_,h⟩
 ·exact(B0p h).1 rfl
 rcases A1i h with h|⟨_,u5,_,h⟩
 ·exact(A4g h).1 rfl
 cases h
theorem D4e {r:List UInt8}:A3n r≠.error none:=by
 intro h
 unfold A3n at h
 rcases A1i h with h|⟨_,u1,_,h⟩
 ·exact(A8g h).1 rfl
 rcases A1i h with h|⟨_,u2,_,h⟩
 ·exact(A4g h).1 rfl
 split at h
 rotate_right
 rotate_right
 all_goals
  rcases A1i h with h|⟨_,u3,_,h⟩
  ·exact(B0p h).1 rfl
  rcases A1i h with h|⟨_,u4,_,h⟩
  ·exact(A4g h).1 rfl
  cases h
theorem C2x {r u:List UInt8}{i:Itm}(h:A3n r = .ok (i,u)):u.length<r.length:=by
 unfold A3n at h
 obtain⟨_,u1,h1,h⟩:=A2f h
 obtain⟨_,u2,h2,h⟩:=A2f h
 have a1:=(A6s h1).1
 have a2:=A3a h2
 have hm:=A2z 45 u2
 split at h
 rotate_right
 rotate_right
 all_goals
  rename_i t heq
  rw[heq] at hm
  obtain⟨_,u3,h3,h⟩:=A2f h
  obtain⟨_,u4,h4,h⟩:=A2f h
  cases h
  have:=(A6t h3).1;have:=A3a h4;have:=hm.1
  simp at *
  omega
theorem D1e:∀ (k:Nat) (acc:List Nat) (r:List UInt8),r.length<k→B9m k acc r≠.error none
 | 0,_,_,h=>by omega
 | k+1,acc,r,h=>by
  intro he
  have hm:=A2z 44 r
  rw[B9m] at he
  split at he
  ·rename_i t heq
   rw[heq] at hm
   rcases A1i he with he|⟨n,u,hn,he⟩
   ·exact(B0p he).1 rfl
   ·have:=(A6t hn).1
    have:=hm.1
    exact D1e k _ _ (by simp at *;omega) he
  ·rcases A1i he with he|⟨n,u,hn,he⟩
   ·exact(A4g he).1 rfl
   ·cases he
theorem B9o {K:Nat}{r:List UInt8}(h:r.length<K):A0u K r≠.error none:=by
 intro he
 rcases A1i he with he|⟨n,u,hn,he⟩
 ·exact(B0p he).1 rfl
 ·have:=(A6t hn).1
  exact D1e _ _ _ (by omega) he
theorem B1c (ch:Nat):∀ (k:Nat) (acc:List Fld) (r:List UInt8),r.length<k→A1y ch k acc r≠.error none
 | 0,_,_,h=>by omega
 | k+1,acc,r,h=>by
  intro he
  have hm:=A2z 125 r
  rw[A1y] at he
  split at he
  ·cases he
  ·rename_i t heq
   rw[heq] at hm
   rcases A1i he with he|⟨f,u,hn,he⟩
   ·exact B8g he
   ·have:=A9k hn
    have:=hm.1
    exact B1c ch k _ _ (by simp at *;omega) he
theorem C5b {K ch:Nat}{r:List UInt8}(h:r.length<K):A1w K ch r≠.error none:=by
 intro he
 rcases A1i he with he|⟨n,u,hn,he⟩
 ·exact(A4g he).1 rfl
 ·have:=A3a hn
  exact B1c _ _ _ _ (by omega) he
theorem D5g {K:Nat}{m:Msg}{ch:Nat}{r:List UInt8}(h:r.length<K):A8m K m ch r≠.error none:=by
 intro he
 have h1:=A6r A3l r
 unfold A8m at he
 split at he
 ·rename_i t heq
  rw[heq] at h1
  rcases A1i he with he|⟨n,u,hn,he⟩
  ·exact B9o (by simp at h1;omega) he
  ·cases he
 ·rename_i t heq
  rw[heq] at h1
  have h2:=A6r A5s t
  split at he
  ·rename_i t2 heq2
   rw[heq2] at h2
   rcases A1i he with he|⟨n,u,hn,he⟩
   ·exact C5b (by simp at h1 h2;omega) he
   ·cases he
  ·rcases A1i he with he|⟨n,u,hn,he⟩
   ·exact B8g he
   ·cases he
theorem C3k {K:Nat}{m:Msg}{ch:Nat}{r u:List UInt8}{p:Msg×Nat}(h:A8m K m ch r = .ok (p,u)):u.length<r.length:=by
 have h1:=A6r A3l r
 unfold A8m at h
 split at h
 ·rename_i t heq
  have h3:=B4t (kw:=A3l) (by decide) (r:=r) (by rw[heq])
  rw[heq] at h3
  obtain⟨l,u1,h4,h⟩:=A2f h
  have:=A7r h4
  cases h
  simp at *
  omega
 ·rename_i t heq
  rw[heq] at h1
  have h2:=A6r A5s t
  split at h
  ·rename_i t2 heq2
   have h3:=B4t (kw:=A5s) (by decide) (r:=t) (by rw[heq2])
   rw[heq2] at h3
   obtain⟨l,u1,h4,h⟩:=A2f h
   have:=B0k h4
   cases h
   simp at *
   omega
  ·rename_i t2 heq2
   rw[heq2] at h2
   have h5:=A6r A2y t2
   obtain⟨f,u1,h4,h⟩:=A2f h
   have:=A9k h4
   cases h
   simp at *
   omega
theorem B8v (K:Nat):∀ (k:Nat) (m:Msg) (ch:Nat) (r:List UInt8),r.length<k→r.length<K→A3h K k m ch r≠.error none
 | 0,_,_,_,h,_=>by omega
 | k+1,m,ch,r,h,hK=>by
  intro he
  have hm:=A2z 125 r
  rw[A3h] at he
  split at he
  ·cases he
  ·rename_i t heq
   rw[heq] at hm
   have ac:=hm.1
   simp only at ac
   rcases A1i he with he|⟨p,u,hn,he⟩
   ·exact D5g (by omega) he
   ·have:=C3k hn
    split at he
    ·cases he
    ·exact B8v K k _ _ _ (by omega) (by omega) he
theorem B8t (K:Nat):∀ (k:Nat) (m:Msg) (ch:Nat) (r:List UInt8) (x:Msg) (u:List UInt8),A3h K k m ch r = .ok (x,u)→u.length≤r.length
 | 0,_,_,_,_,_,h=>by cases h
 | k+1,m,ch,r,x,u,h=>by
  have hm:=A2z 125 r
  rw[A3h] at h
  split at h
  ·rename_i t heq
   rw[heq] at hm
   cases h
   exact hm.1
  ·rename_i t heq
   rw[heq] at hm
   have ac:=hm.1
   simp only at ac
   obtain⟨p,u1,h1,h⟩:=A2f h
   have:=C3k h1
   split at h
   ·cases h
   ·have:=B8t K k _ _ _ _ _ h
    omega
theorem C1j {K:Nat}{r:List UInt8}(h:r.length<K):A0e K r≠.error none:=by
 intro he
 rcases A1i he with he|⟨n,u,hn,he⟩
 ·exact(A8g he).1 rfl
 ·have:=(A6s hn).1
  rcases A1i he with he|⟨_,u2,hn2,he⟩
  ·exact(A4g he).1 rfl
  ·have:=A3a hn2
   exact B8v _ _ _ _ _ (by omega) (by omega) he
theorem C1h {K:Nat}{r u:List UInt8}{x:Msg}(h:A0e K r = .ok (x,u)):u.length<r.length:=by
 obtain⟨n,u1,h1,h⟩:=A2f h
 obtain⟨_,u2,h2,h⟩:=A2f h
 have:=(A6s h1).1;have:=A3a h2;have:=B8t _ _ _ _ _ _ _ h
 omega
theorem B4q:∀ (k:Nat) (e:Enm) (r:List UInt8),r.length<k→A3r k e r≠.error none
 | 0,_,_,h=>by omega
 | k+1,e,r,h=>by
  intro he
  have hm:=A2z 125 r
  rw[A3r] at he
  split at he
  ·cases he
  ·rename_i t heq
   rw[heq] at hm
   have ac:=hm.1
   simp only at ac
   rcases A1i he with he|⟨p,u,hn,he⟩
   ·exact D4e he
   ·have:=C2x hn
    split at he
    ·cases he
    ·exact B4q k _ _ (by omega) he
theorem B4o:∀ (k:Nat) (e:Enm) (r:List UInt8) (x:Enm) (u:List UInt8),A3r k e r = .ok (x,u)→u.length≤r.length
 | 0,_,_,_,_,h=>by cases h
 | k+1,e,r,x,u,h=>by
  have hm:=A2z 125 r
  rw[A3r] at h
  split at h
  ·rename_i t heq
   rw[heq] at hm
   cases h
   exact hm.1
  ·rename_i t heq
   rw[heq] at hm
   have ac:=hm.1
   simp only at ac
   obtain⟨p,u1,h1,h⟩:=A2f h
   have:=C2x h1
   split at h
   ·cases h
   ·have:=B4o k _ _ _ _ h
    omega
theorem D3s {K:Nat}{r:List UInt8}(h:r.length<K):A4j K r≠.error none:=by
 intro he
 rcases A1i he with he|⟨n,u,hn,he⟩
 ·exact(A8g he).1 rfl
 ·have:=(A6s hn).1
  rcases A1i he with he|⟨_,u2,hn2,he⟩
  ·exact(A4g he).1 rfl
  ·have:=A3a hn2
   exact B4q _ _ _ (by omega) he
theorem D3q {K:Nat}{r u:List UInt8}{x:Enm}(h:A4j K r = .ok (x,u)):u.length<r.length:=by
 obtain⟨n,u1,h1,h⟩:=A2f h
 obtain⟨_,u2,h2,h⟩:=A2f h
 have:=(A6s h1).1;have:=A3a h2;have:=B4o _ _ _ _ _ h
 omega
theorem D8i {K:Nat}{f:Fil}{r:List UInt8}(h:r.length<K):B3w K f r≠.error none:=by
 intro he
 have h1:=A6r A7i r
 unfold B3w at he
 split at he
 ·rename_i t heq
  rw[heq] at h1
  rcases A1i he with he|⟨n,u,hn,he⟩
  ·exact C1j (by simp at h1;omega) he
  ·cases he
 ·rename_i t heq
  rw[heq] at h1
  have h2:=A6r B2u t
  split at he
  ·rename_i t2 heq2
   rw[heq2] at h2
   rcases A1i he with he|⟨n,u,hn,he⟩
   ·exact D3s (by simp at h1 h2;omega) he
   ·cases he
  ·cases he
theorem D8g {K:Nat}{f g:Fil}{r u:List UInt8}(h:B3w K f r = .ok (g,u)):u.length<r.length:=by
 have h1:=A6r A7i r
 unfold B3w at h
 split at h
 ·rename_i t heq
  rw[heq] at h1
  obtain⟨l,u1,h4,h⟩:=A2f h
  have:=C1h h4
  cases h
  simp at *
  omega
 ·rename_i t heq
  rw[heq] at h1
  have h2:=A6r B2u t
  split at h
  ·rename_i t2 heq2
   rw[heq2] at h2
   obtain⟨l,u1,h4,h⟩:=A2f h
   have:=D3q h4
   cases h
   simp at *
   omega
  ·cases h
theorem B7t (K:Nat):∀ (k:Nat) (f:Fil) (r:List UInt8),r.length<k→r.length<K→A1m K k f r≠.error none
 | 0,_,_,h,_=>by omega
 | k+1,f,r,h,hK=>by
  intro he
  have hs:=A4l r
  rw[A1m] at he
  split at he
  ·cases he
  ·rcases A1i he with he|⟨g,u,hn,he⟩
   ·exact D8i (by omega) he
   ·have:=D8g hn
    split at he
    ·cases he
    ·exact B7t K k _ _ (by omega) (by omega) he
theorem D0o (l:List UInt8):A5k (l.length+1) l≠.error none:=B7t _ _ _ _ (by omega) (by omega)
end Go.Proofs.YtgaoojpakjjdnaaGreatDoor
namespace Go.Proofs.YtgaoojpakjjdnaaGreatDoor
def Pos {α:Type}(x:R α):Prop:=∀ c t,x = .error (some (c,t))→c≠0
theorem Pos.thn {α β:Type}{x:R α}{f : α→List UInt8→R β}(h:Pos x)(hf:∀ a u,Pos (f a u)):Pos (R.thn x f):=by
 intro c t he
 rcases A1i he with he|⟨a,u,_,he⟩
 ·exact h c t he
 ·exact hf a u c t he
theorem Pos.on {α β:Type}{x:R α}{f : α→List UInt8→R β}(h:Pos x)(hf:∀ a u,Pos (f a u)){c:Nat}{t:List UInt8}(he:R.thn x f = .error (some (c,t))):c≠0:=h.thn hf c t he
theorem Pos.ok {α:Type}(p : α×List UInt8):Pos (.ok p):=fun _ _ h=>by cases h
theorem A9t (r:List UInt8):Pos (A3o r):=fun c t h=>((A8g h).2 c t rfl).1
theorem A4u (c:UInt8)(r:List UInt8):Pos (A1q c r):=fun a t h=>((A4g h).2 a t rfl).1
theorem B3c (m:Nat)(r:List UInt8):Pos (A5j m r):=fun a t h=>((B0p h).2 a t rfl).1
theorem B8h (many:Bool)(ch:Nat)(r:List UInt8):Pos (A1v many ch r):=
 (A9t r).thn fun _ _=>(A9t _).thn fun _ _=>(A4u _ _).thn fun _ _=>(B3c _ _).thn fun _ _=>(A4u _ _).thn fun _ _=>Pos.ok _
theorem D1d:∀ (k:Nat) (acc:List Nat) (r:List UInt8),Pos (B9m k acc r)
 | 0,_,_=>fun _ _ h=>by cases h
 | k+1,acc,r=>by
  intro c t h
  rw[B9m] at h
  split at h
  ·exact Pos.on (B3c A5i _) (fun _ _=>D1d k _ _) h
  ·exact Pos.on (A4u 59 _) (fun _ _=>Pos.ok _) h
theorem B1b (ch:Nat):∀ (k:Nat) (acc:List Fld) (r:List UInt8),Pos (A1y ch k acc r)
 | 0,_,_=>fun _ _ h=>by cases h
 | k+1,acc,r=>by
  intro c t h
  rw[A1y] at h
  split at h
  ·cases h
  ·exact Pos.on (B8h false ch _) (fun _ _=>B1b ch k _ _) h
theorem B9n (K:Nat)(r:List UInt8):Pos (A0u K r):=(B3c A5i r).thn fun n u=>D1d K [n] u
theorem C5a (K ch:Nat)(r:List UInt8):Pos (A1w K ch r):=(A4u 123 r).thn fun _ u=>B1b ch K [] u
theorem D5f (K:Nat)(m:Msg)(ch:Nat)(r:List UInt8):Pos (A8m K m ch r):=by
 intro c t h
 unfold A8m at h
 split at h
 ·exact Pos.on (B9n K _) (fun _ _=>Pos.ok _) h
 ·split at h
  ·exact Pos.on (C5a K (ch+1) _) (fun _ _=>Pos.ok _) h
  ·exact Pos.on (B8h _ 0 _) (fun _ _=>Pos.ok _) h
theorem B8u (K:Nat):∀ (k:Nat) (m:Msg) (ch:Nat) (r:List UInt8),Pos (A3h K k m ch r)
 | 0,_,_,_=>fun _ _ h=>by cases h
 | k+1,m,ch,r=>by
  intro c t h
  rw[A3h] at h
  split at h
  ·cases h
  ·refine((D5f K m ch _).thn (f:=fun p u=>if 16<p.1.fields.length∨16<p.1.barred.length then .error (some (5,u)) else A3h K k p.1 p.2 u) fun p u=>?_) c t h
   intro c t h
   split at h
   ·cases h;decide
   ·exact B8u K k _ _ _ c t h
theorem C1i (K:Nat)(r:List UInt8):Pos (A0e K r):=(A9t r).thn fun _ _=>(A4u _ _).thn fun _ _=>B8u _ _ _ _ _
theorem D4f (r:List UInt8):Pos (A3n r):=by
 refine(A9t r).thn fun nm _=>(A4u _ _).thn fun _ u=>?_
 intro c t h
 split at h
 ·exact Pos.on (B3c 2147483648 _) (fun _ _=>(A4u _ _).thn fun _ _=>Pos.ok _) h
 ·exact Pos.on (B3c 2147483647 _) (fun _ _=>(A4u _ _).thn fun _ _=>Pos.ok _) h
theorem B4p:∀ (k:Nat) (e:Enm) (r:List UInt8),Pos (A3r k e r)
 | 0,_,_=>fun _ _ h=>by cases h
 | k+1,e,r=>by
  intro c t h
  rw[A3r] at h
  split at h
  ·cases h
  ·refine((D4f _).thn (f:=fun i u=>if 16<(e.items++[i]).length then .error (some (5,u)) else A3r k ⟨e.name,e.items++[i]⟩ u) fun p u=>?_) c t h
   intro c t h
   split at h
   ·cases h;decide
   ·exact B4p k _ _ c t h
theorem D3r (K:Nat)(r:List UInt8):Pos (A4j K r):=(A9t r).thn fun _ _=>(A4u _ _).thn fun _ _=>B4p _ _ _
theorem D8h (K:Nat)(f:Fil)(r:List UInt8):Pos (B3w K f r):=by
 intro c t h
 unfold B3w at h
 split at h
 ·exact Pos.on (C1i K _) (fun _ _=>Pos.ok _) h
 ·split at h
  ·exact Pos.on (D3r K _) (fun _ _=>Pos.ok _) h
  ·cases h;decide
theorem B7s (K:Nat):∀ (k:Nat) (f:Fil) (r:List UInt8),Pos (A1m K k f r)
 | 0,_,_=>fun _ _ h=>by cases h
 | k+1,f,r=>by
  intro c t h
  rw[A1m] at h
  split at h
  ·cases h
  ·refine((D8h K f _).thn (f:=fun g u=>if 10<g.msgs.length+g.enums.length then .error (some (5,u)) else A1m K k g u) fun p u=>?_) c t h
   intro c t h
   split at h
   ·cases h;decide
   ·exact B7s K k _ _ c t h
theorem D0n (K:Nat)(l:List UInt8):Pos (A5k K l):=B7s _ _ _ _
end Go.Proofs.YtgaoojpakjjdnaaGreatDoor
