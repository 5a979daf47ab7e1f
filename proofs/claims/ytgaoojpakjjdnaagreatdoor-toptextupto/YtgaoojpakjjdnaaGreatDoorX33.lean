import Derived.Test.YtgaoojpakjjdnaaGreatDoorX32
set_option maxHeartbeats 32000000
set_option maxRecDepth 100000
namespace Go.Proofs.YtgaoojpakjjdnaaGreatDoor
namespace L
open Go.RowKit
theorem B7n (s:TI)(a:Int)(n:Nat)(w:World)(hn:n≤9223372036854775807):Calls Tryz.prog 140 #[tv s,.int .i64 a,.int .i64 (n:Int)] w fun e w'=>e = .returned (.int .i64 (A3c s a n))∧Below w.heap.size w w':=by
 have ac:=(Below.refl w.heap.size w).alloc (Nat.le_refl _) (.cells #[.int .i64 s.kind,.int .i64 s.number,.int .i64 s.how,.int .i64 s.field,.int .i64 s.next] 122)
 have x1:=heap_alloc_new w (.cells #[.int .i64 s.kind,.int .i64 s.number,.int .i64 s.how,.int .i64 s.field,.int .i64 s.next] 122)
 by_cases h1:s.kind<1∨4<s.kind
 ·have HN:Hid (A3c s a n=1):=by show _=_;unfold A3c;rw[if_pos h1]
  unfold tv
  by_cases h2:s.kind<1
  ·clear h1
   go_enter Tryz.func140,Tryz.ntmps140
   go_wp2
   go_ret
   exact⟨by rw[HN.out];rfl,ac⟩
  ·have h3:4<s.kind:=by omega
   clear h1
   go_enter Tryz.func140,Tryz.ntmps140
   go_wp2
   go_ret
   exact⟨by rw[HN.out];rfl,ac⟩
 have k1:¬ s.kind<1:=by omega
 have k2:¬ 4<s.kind:=by omega
 by_cases h2:s.field<1∨10<s.field
 ·have HN:Hid (A3c s a n=1):=by show _=_;unfold A3c;rw[if_neg h1,if_pos h2]
  unfold tv
  by_cases h3:s.field<1
  ·clear h1 h2
   go_enter Tryz.func140,Tryz.ntmps140
   go_wp2
   go_ret
   exact⟨by rw[HN.out];rfl,ac⟩
  ·have h4:10<s.field:=by omega
   clear h1 h2
   go_enter Tryz.func140,Tryz.ntmps140
   go_wp2
   go_ret
   exact⟨by rw[HN.out];rfl,ac⟩
 have k3:¬ s.field<1:=by omega
 have k4:¬ 10<s.field:=by omega
 by_cases h3:s.number<1∨536870912≤s.number∨s.number≤a
 ·have HN:Hid (A3c s a n=3):=by show _=_;unfold A3c;rw[if_neg h1,if_neg h2,if_pos h3]
  unfold tv
  by_cases h4:s.number<1
  ·clear h1 h2 h3
   go_enter Tryz.func140,Tryz.ntmps140
   go_wp2
   go_ret
   exact⟨by rw[HN.out];rfl,ac⟩
  ·by_cases h5:536870912≤s.number
   ·clear h1 h2 h3
    go_enter Tryz.func140,Tryz.ntmps140
    go_wp2
    go_ret
    exact⟨by rw[HN.out];rfl,ac⟩
   ·have h6:s.number≤a:=by omega
    clear h1 h2 h3
    go_enter Tryz.func140,Tryz.ntmps140
    go_wp2
    go_ret
    exact⟨by rw[HN.out];rfl,ac⟩
 have k5:¬ s.number<1:=by omega
 have k6:¬ 536870912≤s.number:=by omega
 have k7:¬ s.number≤a:=by omega
 have ag:=C1k s (w.alloc (.cells #[.int .i64 s.kind,.int .i64 s.number,.int .i64 s.how,.int .i64 s.field,.int .i64 s.next] 122))
 cases hm:D7e s with
 | true=>
  have HN:Hid (A3c s a n=8):=by show _=_;unfold A3c;rw[if_neg h1,if_neg h2,if_neg h3,hm];rfl
  rw[hm] at ag
  unfold tv at ag ⊢
  clear h1 h2 h3 hm
  go_enter Tryz.func140,Tryz.ntmps140
  go_wp2_with fail
  refine ag.mono ?_
  rintro e w1 ⟨rfl,hb1⟩
  go_wp2
  go_ret
  exact⟨by rw[HN.out];rfl,KBT ac hb1⟩
 | false=>
  have HN:Hid (A3c s a n=if C1m s n=true then 6 else 0):=by show _=_;unfold A3c;rw[if_neg h1,if_neg h2,if_neg h3,hm];rfl
  rw[hm] at ag
  obtain⟨q,Hq⟩:∃ q,Hid (C1m s n=q):=⟨_,rfl⟩
  have ah:∀ V,Calls Tryz.prog 200 #[tv s,.int .i64 (n:Int)] V fun e w'=>e = .returned (.bool q)∧Below V.heap.size V w':=fun V=>by have:=C1n s n V hn;rw[Hq.out] at this;exact this
  rw[Hq.out] at HN
  unfold tv at ag ah ⊢
  clear h1 h2 h3 hm
  cases q
  all_goals
   go_enter Tryz.func140,Tryz.ntmps140
   go_wp2_with fail
   refine ag.mono ?_
   rintro e w1 ⟨rfl,hb1⟩
   obtain⟨t0,t1,t2,t3,t4⟩:=C4r ((hb1.block _ (by simp)).trans x1)
   go_wp2_with fail
   refine(ah _).mono ?_
   rintro e w2 ⟨rfl,hb2⟩
   go_wp2
   go_ret
   exact⟨by rw[HN.out];rfl,KBT (KBT ac hb1) hb2⟩
theorem C0e {l:List TI}{k n:Nat}{s:TI}(h:l[k]?=some s)(a:Int):A5n n (l.drop k) a=if A3c s a n≠0 then A3c s a n else A5n n (l.drop (k+1)) s.number:=by
 obtain⟨hk,rfl⟩:=List.getElem?_eq_some_iff.1 h
 rw[List.drop_eq_getElem_cons hk]
 rfl
theorem C0d {l:List (List TI)}{k n:Nat}{p:List TI}(h:l[k]?=some p):A5m n k (l.drop k)=if A3y p n≠0 then(A3y p n,k) else A5m n (k+1) (l.drop (k+1)):=by
 obtain⟨hk,rfl⟩:=List.getElem?_eq_some_iff.1 h
 rw[List.drop_eq_getElem_cons hk]
 rfl
theorem B1n {w:World}{v:Value}{p:List TI}(h:RdL 5 StAt w v p)(n:Nat)(hn:n≤9223372036854775807):Calls Tryz.prog 63 #[v,.int .i64 (n:Int)] w fun e w'=>e = .returned (.int .i64 (A3y p n))∧Below w.heap.size w w':=by
 obtain⟨ao,np,cap,rfl,Hn,ak⟩:=h.shape
 by_cases h16:16<np
 ·have HN:Hid (A3y p n=5):=by show _=_;unfold A3y;rw[if_pos (by rw[←Hn.out];exact h16)]
  have hi:(16:Int)<(np:Int):=by omega
  go_enter Tryz.func63,Tryz.ntmps63
  go_wp2
  go_ret
  exact⟨by rw[HN.out];rfl,Below.refl _ _⟩
 ·have HN:Hid (A3y p n=A5n n (p.drop 0) 0):=by show _=_;unfold A3y;rw[if_neg (by rw[←Hn.out];exact h16)];rfl
  have hi:¬ (16:Int)<(np:Int):=by omega
  go_enter Tryz.func63,Tryz.ntmps63
  go_wp2_with fail
  go_loopg [5,14] np (fun m a i wr=>∃ (k:Nat) (x:Int),k+m=np∧i = .int .i64 k∧a = .int .i64 x∧Hid (A3y p n=A5n n (p.drop k) x)∧Below w.heap.size w wr)
  case atStart=>exact⟨0,0,by omega,rfl,rfl,HN,Below.refl _ _⟩
  case round=>
   obtain⟨k,x,hk,rfl,rfl,HK,hb⟩:=hrel
   by_cases hlt:k<np
   ·obtain⟨s,Hs⟩:∃ s,Hid (p[k]?=some s):=⟨p[k]'(by rw[←Hn.out];exact hlt),List.getElem?_eq_getElem (by rw[←Hn.out];exact hlt)⟩
    obtain⟨b,off,rfl,hat⟩:=(h.below StAt.stays hb).get StAt.plain Hs.out
    obtain⟨s0,s1,s2,s3,s4⟩:=hat.at
    have au:(k:Int)<(np:Int):=by omega
    obtain⟨W1,ag⟩:∃ W1,Hid (W1=wr.alloc (.cells #[.int .i64 s.kind,.int .i64 s.number,.int .i64 s.how,.int .i64 s.field,.int .i64 s.next] 122)):=⟨_,rfl⟩
    have hb1:Below wr.heap.size wr W1:=by rw[ag.out];exact(Below.refl _ _).alloc (Nat.le_refl _) _
    have x1:W1.heap[wr.heap.size]?=some (.cells #[.int .i64 s.kind,.int .i64 s.number,.int .i64 s.how,.int .i64 s.field,.int .i64 s.next] 122 (0,0)):=by rw[ag.out];exact heap_alloc_new _ _
    have hz1:wr.heap.size+1≤W1.heap.size:=by rw[ag.out];simp
    have ah:=B7n s x n W1 hn
    obtain⟨E,HE⟩:∃ E,Hid (A3c s x n=E):=⟨_,rfl⟩
    rw[HE.out] at ah
    unfold tv at ah
    have HS:=C0e (n:=n) Hs.out x
    rw[HE.out] at HS
    clear hat
    by_cases hE:E=0
    ·have aj:(E != 0)=false:=by simp[hE]
     have ac:Hid (A3y p n=A5n n (p.drop (k+1)) s.number):=by
      show _=_;rw[HK.out,HS,if_neg (by simp[hE])]
     clear hE HS
     go_wp2_with fail
     rw[←ag.out]
     refine ah.mono ?_
     rintro e w2 ⟨rfl,hb2⟩
     obtain⟨t0,t1,t2,t3,t4⟩:=C4r ((hb2.block _ (by omega)).trans x1)
     go_wp2_with fail
     go_roundg (np-(k+1))
     case measure=>omega
     case rel=>exact⟨k+1,s.number,by omega,by go_num,rfl,ac,KBT (KBT hb hb1) hb2⟩
    ·have aj:(E != 0)=true:=by simpa using hE
     have ac:Hid (A3y p n=E):=by
      show _=_;rw[HK.out,HS,if_pos hE]
     clear hE HS
     go_wp2_with fail
     rw[←ag.out]
     refine ah.mono ?_
     rintro e w2 ⟨rfl,hb2⟩
     go_wp2
     go_ret
     exact⟨by rw[ac.out];rfl,KBT (KBT hb hb1) hb2⟩
   ·have ac:Hid (A3y p n=0):=by
     show _=_;rw[HK.out,List.drop_of_length_le (by rw[←Hn.out];omega)];rfl
    go_wp2
    go_ret
    exact⟨by rw[ac.out];rfl,hb⟩
theorem B4d {w:World}{v:Value}{l:List (List TI)}(h:RdL 1 PrAt w v l):Calls Tryz.prog 27 #[v] w fun e w'=>e = .returned (.agg #[.int .i64 (A3x l).1,.int .i64 (((A3x l).2:Nat):Int)])∧Below w.heap.size w w':=by
 obtain⟨ao,n,cap,rfl,Hn,a8⟩:=h.shape
 obtain⟨W0,ag⟩:∃ W0,Hid (W0=w.alloc (.cells #[.int .i64 0,.int .i64 0] 50)):=⟨_,rfl⟩
 have hb0:Below w.heap.size w W0:=by rw[ag.out];exact(Below.refl _ _).alloc (Nat.le_refl _) _
 have hz0:w.heap.size+1≤W0.heap.size:=by rw[ag.out];simp
 have x0:W0.heap[w.heap.size]?=some (.cells #[.int .i64 0,.int .i64 0] 50 (0,0)):=by rw[ag.out];exact heap_alloc_new _ _
 by_cases h10:10<n
 ·have HN:Hid (A3x l=(5,0)):=by show _=_;unfold A3x;rw[if_pos (by rw[←Hn.out];exact h10)]
  have hi:(10:Int)<(n:Int):=by omega
  have aw:Below w.heap.size w (w.alloc (.cells #[.int .i64 5,.int .i64 0] 50)):=(Below.refl _ _).alloc (Nat.le_refl _) _
  go_enter Tryz.func27,Tryz.ntmps27
  go_wp2_with fail
  refine bodyPost_ret (v:=.agg #[.int .i64 5,.int .i64 0]) (by simp[results,Tryz.results27,go_sem]) rfl ?_
  exact⟨by rw[HN.out];rfl,aw⟩
 ·have HN:Hid (A3x l=A5m n 0 (l.drop 0)):=by show _=_;unfold A3x;rw[if_neg (by rw[←Hn.out];exact h10),Hn.out];rfl
  have hi:¬ (10:Int)<(n:Int):=by omega
  go_enter Tryz.func27,Tryz.ntmps27
  go_wp2_with fail
  rw[←ag.out]
  go_loopg [12] n (fun m i wr=>∃ (k:Nat),k+m=n∧i = .int .i64 k∧Hid (A3x l=A5m n k (l.drop k))∧Below W0.heap.size W0 wr)
  case atStart=>exact⟨0,by omega,rfl,HN,Below.refl _ _⟩
  case round=>
   obtain⟨k,hk,rfl,HK,hb⟩:=hrel
   have ah:Below w.heap.size w wr:=KBT hb0 hb
   have bk:=hb.size
   by_cases hlt:k<n
   ·obtain⟨p,Hp⟩:∃ p,Hid (l[k]?=some p):=⟨l[k]'(by rw[←Hn.out];exact hlt),List.getElem?_eq_getElem (by rw[←Hn.out];exact hlt)⟩
    obtain⟨b,off,rfl,hat⟩:=(h.below PrAt.stays ah).get PrAt.plain Hp.out
    obtain⟨vp,s0,ak⟩:=hat
    obtain⟨ap,np,cp,rfl,bg,_⟩:=ak.shape
    have bp:wr.cell? ⟨b,off+k,none⟩=some (.slice ap np cp):=by simpa using s0
    have bh:(k:Int)<(n:Int):=by omega
    have aj:=B1n ak n (by omega)
    obtain⟨E,HE⟩:∃ E,Hid (A3y p n=E):=⟨_,rfl⟩
    rw[HE.out] at aj
    have HS:=C0d (n:=n) Hp.out
    rw[HE.out] at HS
    clear s0
    by_cases hE:E=0
    ·have au:(E != 0)=false:=by simp[hE]
     have ac:Hid (A3x l=A5m n (k+1) (l.drop (k+1))):=by
      show _=_;rw[HK.out,HS,if_neg (by simp[hE])]
     clear hE HS
     go_wp2_with fail
     refine aj.mono ?_
     rintro e w2 ⟨rfl,hb2⟩
     go_wp2_with fail
     go_roundg (n-(k+1))
     case measure=>omega
     case rel=>exact⟨k+1,by omega,by go_num,ac,KBT hb hb2⟩
    ·have au:(E != 0)=true:=by simpa using hE
     have ac:Hid (A3x l=(E,k)):=by
      show _=_;rw[HK.out,HS,if_pos hE]
     clear hE HS
     go_wp2_with fail
     refine aj.mono ?_
     rintro e w2 ⟨rfl,hb2⟩
     have x2:=((hb2.block _ (by omega)).trans ((hb.block _ (by omega)).trans x0))
     obtain⟨t0,t1⟩:=A0r x2
     have f0:=A0b x2
     go_wp2_with fail
     refine bodyPost_ret (v:=.agg #[.int .i64 E,.int .i64 (k:Int)]) (by simp[results,Tryz.results27,go_sem, *]) rfl ?_
     exact⟨by rw[ac.out],KB_set (KB_set (KBT ah hb2) (Nat.le_refl _)) (Nat.le_refl _)⟩
   ·have ac:Hid (A3x l=(0,0)):=by
     show _=_;rw[HK.out,List.drop_of_length_le (by rw[←Hn.out];omega)];rfl
    have x2:=(hb.block _ (by omega)).trans x0
    obtain⟨t0,t1⟩:=A0r x2
    have f0:=A0b x2
    go_wp2_with fail
    refine bodyPost_ret (v:=.agg #[.int .i64 0,.int .i64 0]) (by simp[results,Tryz.results27,go_sem, *]) rfl ?_
    exact⟨by rw[ac.out];rfl,KB_set (KB_set ah (Nat.le_refl _)) (Nat.le_refl _)⟩
theorem C6e {d:Nat}{w:World}{v:Value}{l:List (BI d)}(h:RdL 2 (BAt d) w v l)(hl:l.length≤1048576)(s:TI)(cg:0≤s.number)(cj:s.number≤536870912){fn:Nat}{cap:Array Value}(bu:∀ (args:Array Value) (w:World),(callFunc fn args).run Tryz.prog w = .ok (.enter fn args) w)
  {f:BI d→List UInt8×Int}(ah:∀ x∈l,KDeep d w fn cap s.next f x) (hlen:∀ x∈l,(f x).1.length≤4001) :
  Calls Tryz.prog 203 #[tv s,v,.func (.func fn) #[] cap] w fun e w'=>∃ ao n c,e = .returned (.tuple #[.slice ao n c,.int .i64 (A3t s.number f [] l).2])∧Row ekY w' w.heap.size (.slice ao n c) (A3t s.number f [] l).1∧Below w.heap.size w w':=by
 obtain⟨a1,n1,c1,rfl,H1,_⟩:=h.shape
 have hn:n1≤1048576:=by rw[H1.out];exact hl
 obtain⟨q,Hq⟩:∃ q,Hid (A3t s.number f [] l=q):=⟨_,rfl⟩
 rw[Hq.out]
 obtain⟨W0,ak⟩:∃ W0,Hid (W0=w.alloc (.cells #[.int .i64 s.kind,.int .i64 s.number,.int .i64 s.how,.int .i64 s.field,.int .i64 s.next] 122)):=⟨_,rfl⟩
 have hb0:Below w.heap.size w W0:=by rw[ak.out];exact(Below.refl _ _).alloc (Nat.le_refl _) _
 have hz0:w.heap.size+1≤W0.heap.size:=by rw[ak.out];simp
 have x0:W0.heap[w.heap.size]?=some (.cells #[.int .i64 s.kind,.int .i64 s.number,.int .i64 s.how,.int .i64 s.field,.int .i64 s.next] 122 (0,0)):=by rw[ak.out];exact heap_alloc_new _ _
 unfold tv
 go_enter Tryz.func203,Tryz.ntmps203
 go_wp2_with fail
 rw[←ak.out]
 go_loopg [8,15] n1 (fun m u i wr=>∃ (k:Nat) (ao:Option Addr) (no co:Nat) (acc:List UInt8),k+m=n1∧i = .int .i64 k∧u = .slice ao no co∧Row ekY wr W0.heap.size (.slice ao no co) acc∧acc.length≤k*5000∧Hid (A3t s.number f acc (l.drop k)=q)∧Below W0.heap.size W0 wr)
 case atStart=>exact⟨0,none,0,0,[],by omega,rfl,rfl,Row.nil _ _ _,by simp,Hq,Below.refl _ _⟩
 case round=>
  obtain⟨k,ao,no,co,acc,hk,rfl,rfl,hr,bt,HK,hb⟩:=hrel
  have a8:Below w.heap.size w wr:=KBT hb0 hb
  have cu:=hb.size
  by_cases hlt:k<n1
  ·obtain⟨x,Hx⟩:∃ x,Hid (l[k]?=some x):=⟨l[k]'(by rw[←H1.out];exact hlt),List.getElem?_eq_getElem (by rw[←H1.out];exact hlt)⟩
   obtain⟨b,off,rfl,hat⟩:=(h.below (BAt.stays d) a8).get (BAt.plain d) Hx.out
   obtain⟨v0,v1,s0,s1,hq⟩:=hat.kq
   obtain⟨e0,m0,p0,e1,m1,p1,rfl,rfl⟩:=hq.shape
   have df:(k:Int)<(n1:Int):=by omega
   obtain⟨W1,au⟩:∃ W1,Hid (W1=wr.alloc (.cells #[.slice e0 m0 p0,.slice e1 m1 p1] 29)):=⟨_,rfl⟩
   have hb1:Below wr.heap.size wr W1:=by rw[au.out];exact(Below.refl _ _).alloc (Nat.le_refl _) _
   have hz1:wr.heap.size+1≤W1.heap.size:=by rw[au.out];simp
   have hx:=ah x (List.mem_of_getElem? Hx.out) W1 _ _ (KBT a8 hb1) (hq.below hb1)
   have bh:=hlen x (List.mem_of_getElem? Hx.out)
   have HS:=C9x (num:=s.number) (deep:=f) Hx.out acc
   obtain⟨B,E,HE⟩:∃ B E,Hid (f x=(B,E)):=⟨_,_,rfl⟩
   rw[HE.out] at hx HS bh
   obtain⟨t0,t1,t2,t3,t4⟩:=C4r ((hb.block _ (by omega)).trans x0)
   have u4:(wr.alloc (.cells #[.slice e0 m0 p0,.slice e1 m1 p1] 29)).cell? ⟨w.heap.size,4,none⟩=some (.int .i64 s.next):=A0c ((Below.refl _ _).alloc (Nat.le_refl _) _) t4
   clear hat
   by_cases hE:E=0
   ·have br:(E != 0)=false:=by simp[hE]
    have ac:Hid (A3t s.number f (acc++A2a s.number [B]) (l.drop (k+1))=q):=by
     show _=_;rw[←HK.out,HS,if_neg (by simp[hE])]
    have cw:=A8h s.number B
    clear hE HS
    go_wp2_with fail
    rw[←au.out]
    refine hx.mono ?_
    rintro e w2 ⟨a2,n2,c2,rfl,hr2,hb2⟩
    have aw:Below wr.heap.size wr w2:=KBT hb1 hb2
    obtain⟨t0,t1,t2,t3,t4⟩:=C4r (((hb.trans (aw.mono cu)).block _ (by omega)).trans x0)
    obtain⟨W3,bg⟩:∃ W3,Hid (W3=w2.alloc (.cells #[.slice a2 n2 c2] 32)):=⟨_,rfl⟩
    have hb3:Below w2.heap.size w2 W3:=by rw[bg.out];exact(Below.refl _ _).alloc (Nat.le_refl _) _
    have hsz:=B3m (w:=W3) (ls:=[B]) (by rw[bg.out];exact D7c w2 hr2.rdY) s.number cg cj (by have:B.length≤4001:=bh;omega)
    clear hx u4
    go_wp2_with fail
    rw[←bg.out]
    refine hsz.mono ?_
    rintro e w4 ⟨a4,n4,c4,rfl,hr4,hb4⟩
    have bk:Below wr.heap.size wr w4:=KBT (KBT aw hb3) hb4
    have ag:Below W0.heap.size W0 w4:=KBT hb bk
    have aj:=hr.below bk
    obtain⟨q1,q2,q3⟩:=C1e hr4.rdY
    have bv:B.length≤4001:=bh
    clear hsz hr hr2
    go_wp2_with (at_builtin;refine A1o (by rfl) ekY _ _ (by rfl) W0.heap.size (.slice ao no co) _ (A2a s.number [B]) (by rfl) aj a4 n4 c4 (by rfl) q1 q2 q3 (by decide) ?d2 ag.size ?_)
    case d2=>
     rw[show ekY.bytes=1 from rfl,Nat.mul_one]
     omega
    intro v' w5 bp bw
    obtain⟨a5,n5,c5,rfl,_⟩:=bp.shape'
    have bq:Below W0.heap.size W0 w5:=ag.grown bw ag.size (fun k hk=>(aj.own k hk).1)
    go_wp2_with fail
    go_roundg (n1-(k+1))
    case measure=>omega
    case rel=>exact⟨k+1,a5,n5,c5,_,by omega,by go_num,rfl,bp,by rw[List.length_append];omega,ac,bq⟩
   ·have br:(E != 0)=true:=by simpa using hE
    have ac:Hid (q=([],E)):=by
     show _=_;rw[←HK.out,HS,if_pos hE]
    clear hE HS
    go_wp2_with fail
    rw[←au.out]
    refine hx.mono ?_
    rintro e w2 ⟨a2,n2,c2,rfl,hr2,hb2⟩
    have aw:Below w.heap.size w w2:=KBT a8 (KBT hb1 hb2)
    go_wp2
    go_ret2
    exact⟨none,0,0,by rw[ac.out];rfl,by rw[ac.out];exact Row.nil _ _ _,aw⟩
  ·have ac:Hid (q=(acc,0)):=by
    show _=_;rw[←HK.out,List.drop_of_length_le (by rw[←H1.out];omega)];rfl
   go_wp2
   go_ret2
   exact⟨ao,no,co,by rw[ac.out];rfl,by rw[ac.out];exact hr.mono (by omega),a8⟩
theorem C2h {d n:Nat}{w:World}{v1 v2 v3:Value}{v:VI (BI d)}{Q:BI d→Prop}(h1:RdL 1 UAt w v1 v.bits)(h2:RdL 1 ZAt w v2 v.bytes)(h3:RdL 2 (BAt d) w v3 v.subs)(hv:VSm Q v)(s:TI)(hs:E1d n s){fn:Nat}{cap:Array Value}(aj:∀ (args:Array Value) (w:World),(callFunc fn args).run Tryz.prog w = .ok (.enter fn args) w)
  {deep:TI→BI d→List UInt8×Int}(ac:s.kind=4→∀ x∈v.subs,KDeep d w fn cap s.next (deep s) x) (hlen:∀ x,(deep s x).1.length≤4001) :
  Calls Tryz.prog 141 #[tv s,.agg #[.int .i64 v.number,v1,v2,v3],.func (.func fn) #[] cap] w fun e w'=>∃ ao n c,e = .returned (.tuple #[.slice ao n c,.int .i64 (A3p deep s v).2])∧Row ekY w' w.heap.size (.slice ao n c) (A3p deep s v).1∧Below w.heap.size w w':=by
 obtain⟨bk,hv2,hv3,hv4,bp,bq⟩:=hv
 obtain⟨k1,k2,k3,k4,k5,k6,k7⟩:=hs
 obtain⟨a1,n1,c1,rfl,H1,_⟩:=h1.shape
 obtain⟨a2,n2,c2,rfl,H2,_⟩:=h2.shape
 obtain⟨a3,n3,c3,rfl,H3,_⟩:=h3.shape
 obtain⟨q,Hq⟩:∃ q,Hid (A3p deep s v=q):=⟨_,rfl⟩
 rw[Hq.out]
 obtain⟨W0,ag⟩:∃ W0,Hid (W0=(w.alloc (.cells #[.int .i64 s.kind,.int .i64 s.number,.int .i64 s.how,.int .i64 s.field,.int .i64 s.next] 122)).alloc (.cells #[.int .i64 v.number,.slice a1 n1 c1,.slice a2 n2 c2,.slice a3 n3 c3] 62)):=⟨_,rfl⟩
 have hb0:Below w.heap.size w W0:=by rw[ag.out];exact B8e _ _ _
 have hz0:w.heap.size+2≤W0.heap.size:=by rw[ag.out];simp
 have x0:W0.heap[w.heap.size]?=some (.cells #[.int .i64 s.kind,.int .i64 s.number,.int .i64 s.how,.int .i64 s.field,.int .i64 s.next] 122 (0,0)):=by rw[ag.out];exact A0l _ _ _
 have x1:W0.heap[w.heap.size+1]?=some (.cells #[.int .i64 v.number,.slice a1 n1 c1,.slice a2 n2 c2,.slice a3 n3 c3] 62 (0,0)):=by rw[ag.out];exact A0i _ _ _
 unfold tv
 by_cases e1:s.kind=1
 ·have b1:(s.kind==1)=true:=by simp[e1]
  have HN:Hid (q=(A8x s v.bits,0)):=by show _=_;rw[←Hq.out,A3p,if_pos e1]
  have hc:=C6y (h1.below UAt.stays hb0) hv2 (by omega) s (by omega) (by omega) k5 k6
  unfold tv at hc
  clear e1 k7
  go_enter Tryz.func141,Tryz.ntmps141
  go_wp2_with fail
  rw[←ag.out]
  refine hc.mono ?_
  rintro e w1 ⟨a,m,c,rfl,hr,hb⟩
  go_wp2
  go_ret2
  exact⟨a,m,c,by rw[HN.out];rfl,by rw[HN.out];exact hr.mono (by omega),KBT hb0 hb⟩
 ·have b1:(s.kind==1)=false:=by simp[e1]
  by_cases e2:s.kind=2
  ·have b2:(s.kind==2)=true:=by simp[e2]
   have HN:Hid (q=(A2a s.number [packedN s.how (v.bits.map (A4o s.field))],0)):=by show _=_;rw[←Hq.out,A3p,if_neg e1,if_pos e2]
   have hcb:∀ V,Below W0.heap.size W0 V→Calls Tryz.prog 84 #[.int .i64 s.field,.slice a1 n1 c1] V fun e w'=>∃ ao n cap,e = .returned (.slice ao n cap)∧Row ekU w' V.heap.size (.slice ao n cap) (v.bits.map (A4o s.field))∧Below V.heap.size V w':=fun V hV=>C2l (h1.below UAt.stays (KBT hb0 hV)) hv2 (by omega) s.field
   have hle:∀ y∈v.bits.map (A4o s.field),y≤18446744073709551615:=fun y hy=>by
    obtain⟨n,hn,rfl⟩:=List.mem_map.1 hy
    exact B2f _ _ (hv2 n hn)
   have bg:(v.bits.map (A4o s.field)).length≤1048576:=by rw[List.length_map];exact bk
   obtain⟨L,HL⟩:∃ L,Hid (L=v.bits.map (A4o s.field)):=⟨_,rfl⟩
   rw[←HL.out] at hcb hle bg HN
   have hpl:(A2a s.number [packedN s.how L]).length≤5000000000000:=by
    have:=A8h s.number (packedN s.how L)
    have:=B0q s.how L
    omega
   have a8:∀ V,Below W0.heap.size W0 V→Below W0.heap.size W0 V∧(V.cell? ⟨w.heap.size,0,none⟩=some (.int .i64 s.kind)∧V.cell? ⟨w.heap.size,1,none⟩=some (.int .i64 s.number)∧V.cell? ⟨w.heap.size,2,none⟩=some (.int .i64 s.how)∧V.cell? ⟨w.heap.size,3,none⟩=some (.int .i64 s.field)∧V.cell? ⟨w.heap.size,4,none⟩=some (.int .i64 s.next))∧V.cell? ⟨w.heap.size+1,0,none⟩=some (.int .i64 v.number)∧V.cell? ⟨w.heap.size+1,1,none⟩=some (.slice a1 n1 c1)∧V.cell? ⟨w.heap.size+1,2,none⟩=some (.slice a2 n2 c2)∧V.cell? ⟨w.heap.size+1,3,none⟩=some (.slice a3 n3 c3):=fun V hV=>⟨hV,C4r ((hV.block _ (by omega)).trans x0),D3c ((hV.block _ (by omega)).trans x1)⟩
   have hd:Below W0.heap.size W0 W0.drew:=(Below.refl _ _).drew
   have bh:∀ (V:World) (a:Option Addr) (m c:Nat) (B:Nat),Row ekU V B (.slice a m c) L→Calls Tryz.prog 87 #[.int .i64 s.how,.slice a m c] V fun e w'=>∃ ao n cap,e = .returned (.slice ao n cap)∧Row ekY w' V.heap.size (.slice ao n cap) (packedN s.how L)∧Below V.heap.size V w':=fun V a m c B hr=>B4v hr.rdU hle (by omega) s.how
   have hsz:∀ (V:World) (a:Option Addr) (m c B:Nat),Row ekY V B (.slice a m c) (packedN s.how L)→Calls Tryz.prog 202 #[.int .i64 s.number,.slice (some ⟨V.heap.size,0,none⟩) 1 1] (V.alloc (.cells #[.slice a m c] 32)) fun e w'=>∃ ao n cap,e = .returned (.slice ao n cap)∧Row ekY w' (V.alloc (.cells #[.slice a m c] 32)).heap.size (.slice ao n cap) (A2a s.number [packedN s.how L])∧Below (V.alloc (.cells #[.slice a m c] 32)).heap.size (V.alloc (.cells #[.slice a m c] 32)) w':=fun V a m c B hr=>B3m (D7c V hr.rdY) s.number (by omega) (by omega) hpl
   obtain⟨_,⟨t0,t1,t2,t3,t4⟩,t5,t6,t7,t8⟩:=a8 W0 (Below.refl _ _)
   clear e1 e2 k7 ac hlen h1 h2 h3
   go_enter Tryz.func141,Tryz.ntmps141
   go_wp2_with fail
   rw[←ag.out]
   go_region_held3 (fun V=>Below W0.heap.size W0 V∧(V.cell? ⟨w.heap.size,0,none⟩=some (.int .i64 s.kind)∧V.cell? ⟨w.heap.size,1,none⟩=some (.int .i64 s.number)∧V.cell? ⟨w.heap.size,2,none⟩=some (.int .i64 s.how)∧V.cell? ⟨w.heap.size,3,none⟩=some (.int .i64 s.field)∧V.cell? ⟨w.heap.size,4,none⟩=some (.int .i64 s.next))∧V.cell? ⟨w.heap.size+1,0,none⟩=some (.int .i64 v.number)∧V.cell? ⟨w.heap.size+1,1,none⟩=some (.slice a1 n1 c1)∧V.cell? ⟨w.heap.size+1,2,none⟩=some (.slice a2 n2 c2)∧V.cell? ⟨w.heap.size+1,3,none⟩=some (.slice a3 n3 c3)) ((with_reducible refine a8 _ ?_;with_reducible (first|exact hd|exact au|exact ah|exact A2l ah (Nat.le_refl _) _|exact aw))) ((first|(go_at_call 84;refine(hcb _ (by with_reducible exact hd)).mono ?_;rintro e w1 ⟨ab,nb,cb,rfl,hr1,hb1⟩;have au:=KBT hd hb1)|(go_at_call 87;refine(bh _ ab nb cb _ hr1).mono ?_;rintro e w2 ⟨ap,np,cp,rfl,hr2,hb2⟩;have ah:=KBT au hb2)|(go_at_call 202;refine(hsz w2 ap np cp _ hr2).mono ?_;rintro e w3 ⟨az,nz,cz,rfl,hr3,hb3⟩;have aw:=KBT (A2l ah (Nat.le_refl _) _) hb3)))
   all_goals
    have ak:Row ekY w3 w.heap.size (.slice az nz cz) (A2a s.number [packedN s.how L]):=hr3.mono (Nat.le_trans (Nat.le_trans (by omega) ah.size) (by simp))
    clear hr3 hr2 hr1
    go_wp2
    go_ret2
    exact⟨az,nz,cz,by rw[HN.out];rfl,by rw[HN.out];exact ak,KBT hb0 aw⟩
  ·have b2:(s.kind==2)=false:=by simp[e2]
   by_cases e3:s.kind=3
   ·have b3:(s.kind==3)=true:=by simp[e3]
    have HN:Hid (q=(A2a s.number v.bytes,0)):=by show _=_;rw[←Hq.out,A3p,if_neg e1,if_neg e2,if_pos e3]
    have hc:=B3m (h2.below ZAt.stays hb0) s.number (by omega) (by omega) (C2r hv3 hv4)
    clear e1 e2 e3 k7
    go_enter Tryz.func141,Tryz.ntmps141
    go_wp2_with fail
    rw[←ag.out]
    refine hc.mono ?_
    rintro e w1 ⟨a,m,c,rfl,hr,hb⟩
    go_wp2
    go_ret2
    exact⟨a,m,c,by rw[HN.out];rfl,by rw[HN.out];exact hr.mono (by omega),KBT hb0 hb⟩
   ·have b3:(s.kind==3)=false:=by simp[e3]
    have e4:s.kind=4:=by omega
    have HN:Hid (q=A3t s.number (deep s) [] v.subs):=by show _=_;rw[←Hq.out,A3p,if_neg e1,if_neg e2,if_neg e3]
    have hc:=C6e (h3.below (BAt.stays d) hb0) bp s (by omega) (by omega) aj (cap:=cap) (f:=deep s) (fun x hx=>(ac e4 x hx).below hb0) (fun x _=>hlen x)
    rw[←HN.out] at hc
    unfold tv at hc
    clear e1 e2 e3 e4 k7 ac
    go_enter Tryz.func141,Tryz.ntmps141
    go_wp2_with fail
    rw[←ag.out]
    refine hc.mono ?_
    rintro e w1 ⟨a,m,c,rfl,hr,hb⟩
    go_wp2
    go_ret2
    exact⟨a,m,c,rfl,hr.mono (by omega),KBT hb0 hb⟩
end L
end Go.Proofs.YtgaoojpakjjdnaaGreatDoor
