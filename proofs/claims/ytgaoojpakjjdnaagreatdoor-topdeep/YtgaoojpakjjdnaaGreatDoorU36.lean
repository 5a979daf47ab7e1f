import Derived.Test.YtgaoojpakjjdnaaGreatDoorU35
import Derived.Test.YtgaoojpakjjdnaaGreatDoorU21
import Derived.Test.YtgaoojpakjjdnaaGreatDoorU11
import Derived.Deep.RegionHeld3
import Derived.Deep.CutRange
import Derived.Deep.DrawnRows
set_option maxHeartbeats 32000000
set_option maxRecDepth 100000
namespace Go.Proofs.YtgaoojpakjjdnaaGreatDoor
namespace L
open Go.RowKit
def RecL (W w:World) (base:Nat) (v:Value) (l:List RI):Prop:=∃ l':List (RI×PV),Row ekR w base v l'∧l'.map Prod.fst=l∧∀ r∈l',RdL 1 YAt W r.2.v r.1.bytes∨Row ekY w base r.2.v r.1.bytes
theorem RecL.nil (W w:World) (base:Nat):RecL W w base (.slice none 0 0) []:=⟨[],Row.nil _ _ _,rfl,fun _ h=>by cases h⟩
theorem RecL.below {W w w':World}{base:Nat}{v:Value}{l:List RI}(h:RecL W w base v l) (hb:Below w.heap.size w w'):RecL W w' base v l:=by
 obtain⟨l',h1,h2,h3⟩:=h
 exact⟨l',h1.below hb,h2,fun r hr=>(h3 r hr).imp id fun k=>k.below hb⟩
theorem RecL.mono {W w:World}{base base':Nat}{v:Value}{l:List RI}(h:RecL W w base v l) (hb:base'≤base):RecL W w base' v l:=by
 obtain⟨l',h1,h2,h3⟩:=h
 exact⟨l',h1.mono hb,h2,fun r hr=>(h3 r hr).imp id fun k=>k.mono hb⟩
theorem RecL.rd {W w:World}{base:Nat}{v:Value}{l:List RI}(h:RecL W w base v l) (hW:Below W.heap.size W w):RdL 4 RAt w v l:=by
 obtain⟨l',h1,rfl,h3⟩:=h
 refine C8s (P:=fun w x (p:RI×PV)=>w.cell? x=some (.int .i64 p.1.number)∧w.cell? (x.add 1)=some (.int .i64 p.1.how)∧w.cell? (x.add 2)=some (.int .u64 (p.1.bits:Int))∧w.cell? (x.add 3)=some p.2.v) Prod.fst (h1.rd _ fun g i a hc=>?_) ?_
 ·refine⟨by simpa using hc 0 _ rfl,?_,?_,?_⟩ <;> rw[A0d]
  ·exact hc 1 _ rfl
  ·exact hc 2 _ rfl
  ·exact hc 3 _ rfl
 ·rintro x p hp ⟨e0,e1,e2,e3⟩
  exact⟨p.2.v,e0,e1,e2,e3,(h3 p hp).elim (fun k=>k.below YAt.stays hW) fun k=>k.rdY⟩
theorem RecL.shape {W w:World}{base:Nat}{v:Value}{l:List RI}(h:RecL W w base v l):∃ ao n cap,v = .slice ao n cap∧Hid (n=l.length):=by
 obtain⟨l',h1,rfl,_⟩:=h
 obtain⟨ao,n,cap,e,hn⟩:=h1.shape'
 exact⟨ao,n,cap,e,by show _=_;rw[hn.out];simp⟩
theorem RecL.own {W w:World}{base:Nat}{v:Value}{l:List RI}(h:RecL W w base v l):∀ k,v.ownBlock=some k→base≤k:=by
 obtain⟨l',h1,_,_⟩:=h
 exact fun k hk=>(h1.own k hk).1
theorem C8w {α:Type}{E:EK α}{w:World}{base:Nat}{ao:Option Addr}{n cap:Nat}{l:List α}(h:Row E w base (.slice ao n cap) l):l.length=n∧(ao=none→n=0∧cap=0)∧∀ ad,ao=some ad→∀ k y,l[k]?=some y→∀ j u,(E.enc y)[j]?=some u→w.cell? (ad.add (k*E.size+j))=some u:=by
 refine⟨h.len.symm,fun e=>?_,fun ad had k y hy j u hu=>?_⟩
 ·subst e
  rcases h.2 with⟨hv,hn⟩|⟨g,cap',cur,hv,_⟩
  ·simp at hv;exact⟨by rw[h.len];exact hn,hv.2⟩
  ·simp at hv
 ·obtain⟨g,hg,hc⟩:=h.get hy
  rw[had] at hg
  cases hg
  rw[A0d,Nat.zero_add]
  exact hc j u hu
theorem RecL.app {W w w':World}{base:Nat}{v v':Value}{l m:List RI}{l' m':List (RI×PV)}{o:Option Obj}(ac:Row ekR w base v l') (hl2:l'.map Prod.fst=l) (ag:∀ r∈l',RdL 1 YAt W r.2.v r.1.bytes∨Row ekY w base r.2.v r.1.bytes) (ah:m'.map Prod.fst=m) (aj:∀ r∈m',RdL 1 YAt W r.2.v r.1.bytes∨Row ekY w base r.2.v r.1.bytes) (hr:Row ekR w' base v' (l'++m')) (hg:w.grownBy w' v.ownBlock) (_:o=none):RecL W w' base v' (l++m):=by
 refine⟨l'++m',hr,by rw[List.map_append,hl2,ah],fun r ak=>?_⟩
 rcases List.mem_append.1 ak with h|h
 ·exact(ag r h).imp id fun k=>k.grown hg (k.ne ac (by decide))
 ·exact(aj r h).imp id fun k=>k.grown hg (k.ne ac (by decide))
theorem A9s {α β:Type}:∀ (l:List α) (Q:Nat→α→β→Prop),(∀ k a,l[k]?=some a→∃ b,Q k a b)→∃ l':List (α×β),l'.map Prod.fst=l∧∀ k p,l'[k]?=some p→Q k p.1 p.2
 | [],_,_=>⟨[],rfl,fun k p h=>by simp at h⟩
 | a::l,Q,h=>by
  obtain⟨b,hb⟩:=h 0 a rfl
  obtain⟨l',h1,h2⟩:=A9s l (fun k=>Q (k+1)) fun k x hx=>h (k+1) x (by simpa using hx)
  refine⟨(a,b)::l',by simp[h1],fun k p hp=>?_⟩
  cases k with
  | zero=>
   have hp:(a,b)=p:=by simpa using hp
   subst hp
   exact hb
  | succ k=>exact h2 k p (by simpa using hp)
theorem C8u {w:World}{ao:Option Addr}{n cap:Nat}{l:List RI}(h:RdL 4 RAt w (.slice ao n cap) l):∃ l':List (RI×PV),l'.map Prod.fst=l∧(∀ r∈l',RdL 1 YAt w r.2.v r.1.bytes)∧l'.length=n∧(ao=none→n=0∧cap=0)∧∀ ad,ao=some ad→∀ k y,l'[k]?=some y→∀ j u,(ekR.enc y)[j]?=some u→w.cell? (ad.add (k*ekR.size+j))=some u:=by
 obtain⟨ac,_,_⟩:=h.len
 have hnil:ao=none→n=0∧cap=0:=by obtain⟨ag,n',cap',e,_,_,_,h4,_⟩:=h;cases e;exact h4
 obtain⟨l',h1,h2⟩:=A9s l (fun k r (p:PV)=>∀ b off,ao=some ⟨b,off,none⟩→w.cell? ⟨b,off+k*4,none⟩=some (.int .i64 r.number)∧w.cell? ⟨b,off+k*4+1,none⟩=some (.int .i64 r.how)∧w.cell? ⟨b,off+k*4+2,none⟩=some (.int .u64 (r.bits:Int))∧w.cell? ⟨b,off+k*4+3,none⟩=some p.v∧RdL 1 YAt w p.v r.bytes) fun k a ha=>by
  obtain⟨b,off,e,hat⟩:=h.get RAt.plain ha
  obtain⟨v,s0,s1,s2,s3,hr⟩:=hat.at
  obtain⟨a3,n3,c3,rfl,_,_⟩:=hr.shape
  refine⟨(a3,n3,c3),fun b' off' e'=>?_⟩
  rw[e] at e'
  cases e'
  exact⟨s0,s1,s2,s3,hr⟩
 refine⟨l',h1,fun r hr=>?_,by rw[ac,←h1];simp,hnil,fun ad had k y hy j u hu=>?_⟩
 ·obtain⟨k,hk⟩:=List.mem_iff_getElem?.1 hr
  have ha:l[k]?=some r.1:=by rw[←h1,List.getElem?_map,hk];rfl
  obtain⟨b,off,e,_⟩:=h.get RAt.plain ha
  exact(h2 k r hk b off e).2.2.2.2
 ·have ha:l[k]?=some y.1:=by rw[←h1,List.getElem?_map,hy];rfl
  obtain⟨b,off,e,_⟩:=h.get RAt.plain ha
  obtain⟨s0,s1,s2,s3,_⟩:=h2 k y hy b off e
  rw[had] at e
  cases e
  rw[A0d]
  show w.cell? ⟨b,off+(k*4+j),none⟩=some u
  rw[←Nat.add_assoc]
  match j,hu with
  | 0,hu=>
   have hu:Value.int .i64 y.1.number=u:=by simpa [ekR,C7e] using hu
   rw[←hu]
   exact s0
  | 1,hu=>
   have hu:Value.int .i64 y.1.how=u:=by simpa [ekR,C7e] using hu
   rw[←hu]
   exact s1
  | 2,hu=>
   have hu:Value.int .u64 (y.1.bits:Int)=u:=by simpa [ekR,C7e] using hu
   rw[←hu]
   exact s2
  | 3,hu=>
   have hu:y.2.v=u:=by simpa [ekR,C7e] using hu
   rw[←hu]
   exact s3
  | j+4,hu=>simp[ekR,C7e] at hu
def A6g:List UInt8→List RI→List UInt8×Int
 | acc,[]=>(acc,0)
 | acc,r::rs=>if A1i r.number r.how r.bits r.bytes.length≠0 then([],A1i r.number r.how r.bits r.bytes.length) else if 4000 < (acc++B0s r.number r.how r.bits r.bytes).length then([],4) else A6g (acc++B0s r.number r.how r.bits r.bytes) rs
theorem C4h {l:List RI}{k:Nat}{r:RI}(h:l[k]?=some r) (acc:List UInt8):A6g acc (l.drop k)=if A1i r.number r.how r.bits r.bytes.length≠0 then([],A1i r.number r.how r.bits r.bytes.length) else if 4000 < (acc++B0s r.number r.how r.bits r.bytes).length then([],4) else A6g (acc++B0s r.number r.how r.bits r.bytes) (l.drop (k+1)):=by
 obtain⟨hk,rfl⟩:=List.getElem?_eq_some_iff.1 h
 rw[List.drop_eq_getElem_cons hk]
 rfl
theorem B9v {w:World}{v:Value}{l:List RI}(h:RdL 4 RAt w v l) (hs:∀ r∈l,r.bits≤18446744073709551615∧r.bytes.length≤100000000) :
  Calls Tryz.prog 38 #[v] w fun e w'=>∃ ao n cap bh,e = .returned (.tuple #[.slice ao n cap,.agg #[.int .i64 (A6g [] l).2,.int .i64 bh]])∧Row ekY w' w.heap.size (.slice ao n cap) (A6g [] l).1∧Below w.heap.size w w':=by
 obtain⟨a1,n1,c1,rfl,H1,cj⟩:=h.shape
 obtain⟨q,Hq⟩:∃ q,Hid (A6g [] l=q):=⟨_,rfl⟩
 rw[Hq.out]
 obtain⟨W0,aj⟩:∃ W0,Hid (W0=w.alloc (.cells #[.int .i64 0,.int .i64 0] 50)):=⟨_,rfl⟩
 have hb0:Below w.heap.size w W0:=by rw[aj.out];exact(Below.refl _ _).alloc (Nat.le_refl _) _
 have hz0:w.heap.size+1≤W0.heap.size:=by rw[aj.out];simp
 have x0:W0.heap[w.heap.size]?=some (.cells #[.int .i64 0,.int .i64 0] 50 (0,0)):=by rw[aj.out];exact heap_alloc_new _ _
 go_enter Tryz.func38,Tryz.ntmps38
 go_wp2_with fail
 rw[←aj.out]
 go_loopg [4,10] n1 (fun m u i wr=>∃ (k:Nat) (ao:Option Addr) (no co:Nat) (acc:List UInt8),k+m=n1∧i = .int .i64 k∧u = .slice ao no co∧Row ekY wr W0.heap.size (.slice ao no co) acc∧acc.length≤4000∧Hid (A6g acc (l.drop k)=q)∧Below W0.heap.size W0 wr)
 case atStart=>exact⟨0,none,0,0,[],by omega,rfl,rfl,Row.nil _ _ _,by simp,Hq,Below.refl _ _⟩
 case round=>
  obtain⟨k,ao,no,co,acc,hk,rfl,rfl,hr,bl,HK,hb⟩:=hrel
  have bc:Below w.heap.size w wr:=KBT hb0 hb
  have cu:=hb.size
  by_cases hlt:k < n1
  ·obtain⟨x,Hx⟩:∃ x,Hid (l[k]?=some x):=⟨l[k]'(by rw[←H1.out];exact hlt),List.getElem?_eq_getElem (by rw[←H1.out];exact hlt)⟩
   obtain⟨b,off,rfl,hat⟩:=(h.below RAt.stays bc).get RAt.plain Hx.out
   obtain⟨vx,s0,s1,s2,s3,bg⟩:=hat.at
   obtain⟨ax,nx,cx,rfl,ba,bv⟩:=bg.shape
   have cg:(k:Int) < (n1:Int):=by omega
   obtain⟨bn,hlx⟩:=hs x (List.mem_of_getElem? Hx.out)
   obtain⟨W1,ah⟩:∃ W1,Hid (W1=wr.alloc (.cells #[.int .i64 x.number,.int .i64 x.how,.int .u64 (x.bits:Int),.slice ax nx cx] 106)):=⟨_,rfl⟩
   have hb1:Below wr.heap.size wr W1:=by rw[ah.out];exact(Below.refl _ _).alloc (Nat.le_refl _) _
   have hz1:wr.heap.size+1≤W1.heap.size:=by rw[ah.out];simp
   have x1:W1.heap[wr.heap.size]?=some (.cells #[.int .i64 x.number,.int .i64 x.how,.int .u64 (x.bits:Int),.slice ax nx cx] 106 (0,0)):=by rw[ah.out];exact heap_alloc_new _ _
   have hwr:=A7q x.number x.how x.bits ax nx cx W1 bv
   rw[ba.out] at hwr
   have HS:=C4h Hx.out acc
   obtain⟨E,HE⟩:∃ E,Hid (A1i x.number x.how x.bits x.bytes.length=E):=⟨_,rfl⟩
   rw[HE.out] at hwr HS
   rw[←ba.out] at hwr
   clear hat
   by_cases hE:E=0
   ·have bk:(E != 0)=false:=by simp[hE]
    obtain⟨bp,br,bt⟩:=C3u (HE.out.trans hE)
    rw[if_neg (by simp[hE])] at HS
    have HS:Hid (A6g acc (l.drop k)=if 4000 < (acc++B0s x.number x.how x.bits x.bytes).length then([],4) else A6g (acc++B0s x.number x.how x.bits x.bytes) (l.drop (k+1))):=HS
    have bw:=B7a x.number x.how x.bits x.bytes
    clear hE
    go_wp2_with fail
    rw[←ah.out]
    refine hwr.mono ?_
    rintro e w2 ⟨rfl,hb2⟩
    obtain⟨t0,t1,t2,t3⟩:=C0i ((hb2.block _ (by omega)).trans x1)
    have ag:Below wr.heap.size wr w2:=KBT hb1 hb2
    have had:=C5g (bg.below YAt.stays ag) x.number x.how x.bits bn (by omega) (by omega) (by omega) (by omega) (by omega) (hr.below ag) (Nat.le_trans hb.size ag.size) (by omega)
    clear hwr hr
    go_wp2_with fail
    refine had.mono ?_
    rintro e w3 ⟨a3,n3,c3,rfl,hr3,hb3⟩
    have au:Below W0.heap.size W0 w3:=(KBT hb ag).trans hb3
    have aw:n3=(acc++B0s x.number x.how x.bits x.bytes).length:=hr3.len
    have ak:Hid (n3=(acc++B0s x.number x.how x.bits x.bytes).length):=aw
    have bu:n3≤1000000000:=by rw[aw,List.length_append];omega
    clear aw
    by_cases h4:4000 < n3
    ·have hi:(4000:Int) < (n3:Int):=by omega
     have ac:Hid (q=([],4)):=by
      show _=_;rw[←HK.out,HS.out,←ak.out,if_pos h4]
     have x3:=(au.block _ (by omega)).trans x0
     obtain⟨t0,t1⟩:=A0s x3
     have f0:=A0b x3
     clear HS
     go_wp2_with fail
     refine bodyPost_ret (v:=.tuple #[.slice none 0 0,.agg #[.int .i64 4,.int .i64 (k:Int)]]) (by simp[results,Tryz.results38,go_sem, *]) rfl ?_
     exact⟨none,0,0,(k:Int),by rw[ac.out],by rw[ac.out];exact Row.nil _ _ _,KB_set (KB_set (KBT hb0 au) (Nat.le_refl _)) (Nat.le_refl _)⟩
    ·have hi:¬ (4000:Int) < (n3:Int):=by omega
     have ac:Hid (A6g (acc++B0s x.number x.how x.bits x.bytes) (l.drop (k+1))=q):=by
      show _=_;rw[←HK.out,HS.out,←ak.out,if_neg h4]
     have bq:(acc++B0s x.number x.how x.bits x.bytes).length≤4000:=by rw[←ak.out];omega
     clear HS
     go_wp2_with fail
     go_roundg (n1 - (k+1))
     case measure=>omega
     case rel=>exact⟨k+1,a3,n3,c3,_,by omega,by go_num,rfl,hr3,bq,ac,au⟩
   ·have bk:(E != 0)=true:=by simpa using hE
    have ac:Hid (q=([],E)):=by
     show _=_;rw[←HK.out,HS,if_pos hE]
    clear hE HS
    go_wp2_with fail
    rw[←ah.out]
    refine hwr.mono ?_
    rintro e w2 ⟨rfl,hb2⟩
    have ag:Below W0.heap.size W0 w2:=KBT hb (KBT hb1 hb2)
    have x3:=(ag.block _ (by omega)).trans x0
    obtain⟨t0,t1⟩:=A0s x3
    have f0:=A0b x3
    go_wp2_with fail
    refine bodyPost_ret (v:=.tuple #[.slice none 0 0,.agg #[.int .i64 E,.int .i64 (k:Int)]]) (by simp[results,Tryz.results38,go_sem, *]) rfl ?_
    exact⟨none,0,0,(k:Int),by rw[ac.out],by rw[ac.out];exact Row.nil _ _ _,KB_set (KB_set (KBT hb0 ag) (Nat.le_refl _)) (Nat.le_refl _)⟩
  ·have ac:Hid (q=(acc,0)):=by
    show _=_;rw[←HK.out,List.drop_of_length_le (by rw[←H1.out];omega)];rfl
   have x3:=(hb.block _ (by omega)).trans x0
   obtain⟨t0,t1⟩:=A0s x3
   have f0:=A0b x3
   go_wp2_with fail
   refine bodyPost_ret (v:=.tuple #[.slice ao no co,.agg #[.int .i64 0,.int .i64 0]]) (by simp[results,Tryz.results38,go_sem, *]) rfl ?_
   exact⟨ao,no,co,0,by rw[ac.out],by rw[ac.out];exact((hr.low (by omega) 0 _).low (by omega) 1 _).mono (by omega),KB_set (KB_set bc (Nat.le_refl _)) (Nat.le_refl _)⟩
open Go.RowKit
def ZcAt (w:World) (x:Addr) (z:List UInt8×PV):Prop:=w.cell? x=some z.2.v
theorem ZcAt.stays:A3x ZcAt:=fun _ _ _ _ hb h=>A0c hb h
theorem ZcAt.plain:A6s ZcAt:=fun _ _ _ _ _ h=>A1l h
theorem Row.rdZc {w:World}{base:Nat}{v:Value}{l:List (List UInt8×PV)}(h:Row ekZ w base v l):RdL 1 ZcAt w v l:=h.rd ZcAt fun g i a hc=>by have:=hc 0 _ rfl;simpa [ZcAt] using this
theorem D1i {w:World}{v:Value}{l:List (List UInt8)}(h:RdL 1 ZAt w v l):∃ l':List (List UInt8×PV),l'.map Prod.fst=l∧RdL 1 ZcAt w v l'∧∀ z∈l',RdL 1 YAt w z.2.v z.1:=by
 obtain⟨ao,n,cap,rfl,h1,h2,h3,h4,h5⟩:=h
 obtain⟨l',e1,e2⟩:=A9s l (fun k z (p:PV)=>∀ x,ao=some x→w.cell? (x.add (k*1))=some p.v∧RdL 1 YAt w p.v z) fun k a ha=>by
  cases ao with
  | none=>have:=(h4 rfl).1;rw[List.eq_nil_of_length_eq_zero (h1.trans this)] at ha;simp at ha
  | some x=>
   obtain⟨v,c,r⟩:=h5 x rfl k a ha
   obtain⟨a3,n3,c3,rfl,_,_⟩:=r.shape
   exact⟨(a3,n3,c3),fun y hy=>by cases hy;exact⟨c,r⟩⟩
 refine⟨l',e1,⟨ao,n,cap,rfl,by rw[←h1,←e1];simp,h2,h3,h4,fun x hx k a ha=>(e2 k a ha x hx).1⟩,fun z hz=>?_⟩
 obtain⟨k,hk⟩:=List.mem_iff_getElem?.1 hz
 cases ao with
 | none=>
  have:=(h4 rfl).1
  have hl:l'.length=0:=by rw[←List.length_map (f:=Prod.fst),e1,h1];exact this
  rw[List.eq_nil_of_length_eq_zero hl] at hz
  cases hz
 | some x=>exact(e2 k z hk x rfl).2
theorem C9w (w:World) (r:RI) (a:Option Addr) (n c:Nat):∀ ad,some (⟨w.heap.size,0,none⟩:Addr)=some ad→∀ k y,[(r,((a,n,c):PV))][k]?=some y→∀ j u,(ekR.enc y)[j]?=some u→(w.alloc (.cells #[.int .i64 r.number,.int .i64 r.how,.int .u64 (r.bits:Int),.slice a n c] 106)).cell? (ad.add (k*ekR.size+j))=some u:=A8t ekR w (r,(a,n,c))
theorem A7v {W w:World}{base:Nat}{v:Value}{l:List (List UInt8×PV)}(h:RdL 1 ZcAt w v l) (hy:∀ z∈l,RdL 1 YAt W z.2.v z.1∨Row ekY w base z.2.v z.1) (hb0:base≤w.heap.size) (hl:l.length≤1048576) (num:Int) :
  Calls Tryz.prog 86 #[.int .i64 num,v] w fun e w'=>∃ ao n cap,e = .returned (.slice ao n cap)∧RecL W w' base (.slice ao n cap) (l.map fun z=>⟨num,2,0,z.1⟩)∧Below w.heap.size w w':=by
 obtain⟨a1,n1,c1,rfl,H1,_⟩:=h.shape
 have bc:n1≤1048576:=by rw[H1.out];exact hl
 obtain⟨R,HR⟩:∃ R:List (RI×PV),Hid (R=l.map fun z=>(⟨num,2,0,z.1⟩,z.2)):=⟨_,rfl⟩
 have au:R.length=l.length:=by rw[HR.out];simp
 go_enter Tryz.func86,Tryz.ntmps86
 go_wp2_with fail
 go_loopg [5,10] n1 (fun m u i wr=>∃ (k:Nat) (ao:Option Addr) (no co:Nat),k+m=n1∧i = .int .i64 k∧u = .slice ao no co∧Row ekR wr w.heap.size (.slice ao no co) (R.take k)∧Below w.heap.size w wr)
 case atStart=>exact⟨0,none,0,0,by omega,rfl,rfl,by rw[List.take_zero];exact Row.nil _ _ _,Below.refl _ _⟩
 case round=>
  obtain⟨k,ao,no,co,hk,rfl,rfl,hr,hb⟩:=hrel
  by_cases hlt:k < n1
  ·obtain⟨x,Hx⟩:∃ x,Hid (l[k]?=some x):=⟨l[k]'(by rw[←H1.out];exact hlt),List.getElem?_eq_getElem (by rw[←H1.out];exact hlt)⟩
   obtain⟨b,off,rfl,hat⟩:=(h.below ZcAt.stays hb).get ZcAt.plain Hx.out
   obtain⟨z,⟨az,nz,cz⟩⟩:=x
   have s0:wr.cell? ⟨b,off+k,none⟩=some (.slice az nz cz):=by simpa [ZcAt,PV.v] using hat
   have ba:(k:Int) < (n1:Int):=by omega
   have ak:R[k]?=some (⟨num,2,0,z⟩,(az,nz,cz)):=by rw[HR.out,List.getElem?_map,Hx.out];rfl
   have hlk:(R.take k).length≤1048576:=by rw[List.length_take];omega
   have aw:∀ k,(Value.slice ao no co).ownBlock=some k→w.heap.size≤k:=fun k hk=>(hr.own k hk).1
   clear hat
   go_wp2_with (at_builtin;refine A1n (by rfl) ekR _ _ (by rfl) w.heap.size (.slice ao no co) (R.take k) [(⟨num,2,0,z⟩,(az,nz,cz))] (by rfl) (hr.below ((Below.refl _ _).alloc (Nat.le_refl _) _)) (some ⟨wr.heap.size,0,none⟩) 1 1 (by rfl) (by rfl) (by intro e;cases e) (C9w wr ⟨num,2,0,z⟩ az nz cz) (by decide) ?d2 ?d3 ?_)
   case d2=>
    rw[show ekR.bytes=48 from rfl]
    simp only[List.length_cons,List.length_nil]
    omega
   case d3=>simp;have:=hb.size;omega
   intro v' w3 hr3 hg3
   obtain⟨a2,n2,c2,rfl,_⟩:=hr3.shape'
   have aj:Below w.heap.size w w3:=(hb.alloc hb.size _).grown hg3 (by simp;have:=hb.size;omega) aw
   have ag:Row ekR w3 w.heap.size (.slice a2 n2 c2) (R.take (k+1)):=by rw[A0w ak];exact hr3
   clear hr3
   go_wp2_with fail
   go_roundg (n1 - (k+1))
   case measure=>omega
   case rel=>exact⟨k+1,a2,n2,c2,by omega,by go_num,rfl,ag,aj⟩
  ·have hr1:Row ekR wr w.heap.size (.slice ao no co) R:=by
    rw[List.take_of_length_le (by rw[au,←H1.out];omega)] at hr;exact hr
   have ac:RecL W wr base (.slice ao no co) (l.map fun z=>⟨num,2,0,z.1⟩):=by
    refine⟨R,hr1.mono hb0,by rw[HR.out,List.map_map];rfl,fun r ah=>?_⟩
    rw[HR.out] at ah
    obtain⟨z,hz,rfl⟩:=List.mem_map.1 ah
    exact(hy z hz).imp id fun k=>k.below hb
   clear hr hr1
   go_wp2
   go_ret
   exact⟨ao,no,co,rfl,ac,hb⟩
open Go.RowKit
def VSm {β:Type}(Q : β→Prop) (v:VI β):Prop:=v.bits.length≤1048576∧(∀ n∈v.bits,n≤18446744073709551615)∧v.bytes.length≤1048576∧(∀ z∈v.bytes,z.length≤1048576)∧v.subs.length≤1048576∧∀ s∈v.subs,Q s
def KQ:(d:Nat)→World→Value→Value→BI d→Prop
 | 0=>fun _ _ _ _=>False
 | d+1=>fun w v0 v1 b=>BRd d w v0 v1 b
theorem KQ.below:∀ {d:Nat}{w w':World}{v0 v1:Value}{x:BI d},KQ d w v0 v1 x→Below w.heap.size w w'→KQ d w' v0 v1 x
 | 0,_,_,_,_,_,h,_=>h
 | _+1,_,_,_,_,_,h,hb=>BRd.below h hb
theorem BAt.kq:∀ {d:Nat}{w:World}{b o:Nat}{x:BI d},BAt d w ⟨b,o,none⟩ x→∃ v0 v1,w.cell? ⟨b,o,none⟩=some v0∧w.cell? ⟨b,o+1,none⟩=some v1∧KQ d w v0 v1 x
 | 0,_,_,_,_,h=>h.elim
 | _+1,_,_,_,_,h=>h.at
theorem KQ.shape:∀ {d:Nat}{w:World}{v0 v1:Value}{x:BI d},KQ d w v0 v1 x→∃ a0 n0 c0 a1 n1 c1,v0 = .slice a0 n0 c0∧v1 = .slice a1 n1 c1
 | 0,_,_,_,_,h=>h.elim
 | _+1,_,_,_,_,h=>by
  obtain⟨a0,n0,c0,e0,_,_⟩:=h.1.shape
  obtain⟨a1,n1,c1,e1,_,_⟩:=h.2.shape
  exact⟨a0,n0,c0,a1,n1,c1,e0,e1⟩
def KDeep (d:Nat) (W:World) (fn:Nat) (cap:Array Value) (next:Int) (f:BI d→List UInt8×Int) (x:BI d):Prop:=
 ∀ (V:World) (v0 v1:Value),Below W.heap.size W V→KQ d V v0 v1 x→Calls Tryz.prog fn (#[.int .i64 next,.agg #[v0,v1]]++cap) V fun e w'=>∃ ao n c,e = .returned (.tuple #[.slice ao n c,.int .i64 (f x).2])∧Row ekY w' V.heap.size (.slice ao n c) (f x).1∧Below V.heap.size V w'
theorem KDeep.below {d:Nat}{W W':World}{fn:Nat}{cap:Array Value}{next:Int}{f:BI d→List UInt8×Int}{x:BI d}(h:KDeep d W fn cap next f x) (hb:Below W.heap.size W W'):KDeep d W' fn cap next f x:=
 fun V v0 v1 hV=>h V v0 v1 (KBT hb hV)
open Go.RowKit
def CDeep (d:Nat) (W:World) (fn:Nat) (cap:Array Value) (name:List UInt8) (f:BI d→List UInt8×Int) (x:BI d):Prop:=
 ∀ (V:World) (v0 v1:Value),Below W.heap.size W V→KQ d V v0 v1 x→Calls Tryz.prog fn (#[.string (S name),.agg #[v0,v1]]++cap) V fun e w'=>∃ ao n c,e = .returned (.tuple #[.slice ao n c,.int .i64 (f x).2])∧Row ekY w' V.heap.size (.slice ao n c) (f x).1∧Below V.heap.size V w'
theorem CDeep.below {d:Nat}{W W':World}{fn:Nat}{cap:Array Value}{name:List UInt8}{f:BI d→List UInt8×Int}{x:BI d}(h:CDeep d W fn cap name f x) (hb:Below W.heap.size W W'):CDeep d W' fn cap name f x:=
 fun V v0 v1 hV=>h V v0 v1 (KBT hb hV)
def A5z {β:Type}(f : β→List UInt8×Int):List (List UInt8)→List β→List (List UInt8)×Int
 | acc,[]=>(acc,0)
 | acc,b::r=>if (f b).2≠0 then([],(f b).2) else A5z f (acc++[(f b).1]) r
theorem C6m {β:Type}{f : β→List UInt8×Int}{l:List β}{k:Nat}{b : β}(h:l[k]?=some b) (acc:List (List UInt8)):A5z f acc (l.drop k)=if (f b).2≠0 then([],(f b).2) else A5z f (acc++[(f b).1]) (l.drop (k+1)):=by
 obtain⟨hk,rfl⟩:=List.getElem?_eq_some_iff.1 h
 rw[List.drop_eq_getElem_cons hk]
 rfl
def C3x (num:Int) (b:List UInt8):RI:=⟨num,2,0,b⟩
theorem C9y (w:World) (z:List UInt8) (a:Option Addr) (n c:Nat):∀ ad,some (⟨w.heap.size,0,none⟩:Addr)=some ad→∀ k y,[(z,((a,n,c):PV))][k]?=some y→∀ j u,(ekZ.enc y)[j]?=some u→(w.alloc (.cells #[.slice a n c] 32)).cell? (ad.add (k*ekZ.size+j))=some u:=A8t ekZ w (z,(a,n,c))
theorem B0t (W:World){d:Nat}{w:World}{v:Value}{l:List (BI d)}(h:RdL 2 (BAt d) w v l) (hl:l.length≤1048576) (x:FI){fn:Nat}{cap:Array Value}(bv:∀ (args:Array Value) (w:World),(callFunc fn args).run Tryz.prog w = .ok (.enter fn args) w)
  {f:BI d→List UInt8×Int}(aj:∀ y∈l,CDeep d w fn cap x.type f y) :
  Calls Tryz.prog 85 #[fv x,v,.func (.func fn) #[] cap] w fun e w'=>∃ ao n c,e = .returned (.tuple #[.slice ao n c,.int .i64 (A5z f [] l).2])∧RecL W w' w.heap.size (.slice ao n c) ((A5z f [] l).1.map (C3x x.number))∧Below w.heap.size w w':=by
 obtain⟨a1,n1,c1,rfl,H1,_⟩:=h.shape
 have hn:n1≤1048576:=by rw[H1.out];exact hl
 obtain⟨q,Hq⟩:∃ q,Hid (A5z f [] l=q):=⟨_,rfl⟩
 rw[Hq.out]
 obtain⟨W0,au⟩:∃ W0,Hid (W0=w.alloc (.cells #[.string (S x.name),.int .i64 x.number,.int .i64 x.kind,.string (S x.type),.bool x.many,.int .i64 x.choice] 40)):=⟨_,rfl⟩
 have hb0:Below w.heap.size w W0:=by rw[au.out];exact(Below.refl _ _).alloc (Nat.le_refl _) _
 have hz0:w.heap.size+1≤W0.heap.size:=by rw[au.out];simp
 have x0:W0.heap[w.heap.size]?=some (.cells #[.string (S x.name),.int .i64 x.number,.int .i64 x.kind,.string (S x.type),.bool x.many,.int .i64 x.choice] 40 (0,0)):=by rw[au.out];exact heap_alloc_new _ _
 unfold fv
 go_enter Tryz.func85,Tryz.ntmps85
 go_wp2_with fail
 rw[←au.out]
 go_loopg [8,15] n1 (fun m u i wr=>∃ (k:Nat) (ao:Option Addr) (no co:Nat) (acc:List (List UInt8×PV)),k+m=n1∧i = .int .i64 k∧u = .slice ao no co∧Row ekZ wr W0.heap.size (.slice ao no co) acc∧(∀ z∈acc,Row ekY wr W0.heap.size z.2.v z.1)∧acc.length≤k∧Hid (A5z f (acc.map Prod.fst) (l.drop k)=q)∧Below W0.heap.size W0 wr)
 case atStart=>exact⟨0,none,0,0,[],by omega,rfl,rfl,Row.nil _ _ _,fun _ hz=>(List.not_mem_nil hz).elim,Nat.le_refl _,Hq,Below.refl _ _⟩
 case round=>
  obtain⟨k,ao,no,co,acc,hk,rfl,rfl,hr,bp,bt,HK,hb⟩:=hrel
  have ba:Below w.heap.size w wr:=KBT hb0 hb
  have cg:=hb.size
  by_cases hlt:k < n1
  ·obtain⟨y,Hx⟩:∃ x,Hid (l[k]?=some x):=⟨l[k]'(by rw[←H1.out];exact hlt),List.getElem?_eq_getElem (by rw[←H1.out];exact hlt)⟩
   obtain⟨b,off,rfl,hat⟩:=(h.below (BAt.stays d) ba).get (BAt.plain d) Hx.out
   obtain⟨v0,v1,s0,s1,hq⟩:=hat.kq
   obtain⟨e0,m0,p0,e1,m1,p1,rfl,rfl⟩:=hq.shape
   have cj:(k:Int) < (n1:Int):=by omega
   obtain⟨W1,aw⟩:∃ W1,Hid (W1=wr.alloc (.cells #[.slice e0 m0 p0,.slice e1 m1 p1] 29)):=⟨_,rfl⟩
   have hb1:Below wr.heap.size wr W1:=by rw[aw.out];exact(Below.refl _ _).alloc (Nat.le_refl _) _
   have hz1:wr.heap.size+1≤W1.heap.size:=by rw[aw.out];simp
   have hx:=aj y (List.mem_of_getElem? Hx.out) W1 _ _ (KBT ba hb1) (hq.below hb1)
   have HS:=C6m (f:=f) Hx.out (acc.map Prod.fst)
   obtain⟨B,E,HE⟩:∃ B E,Hid (f y=(B,E)):=⟨_,_,rfl⟩
   rw[HE.out] at hx HS
   obtain⟨t0,t1,t2,t3,t4,t5⟩:=A8g ((hb.block _ (by omega)).trans x0)
   have u4:(wr.alloc (.cells #[.slice e0 m0 p0,.slice e1 m1 p1] 29)).cell? ⟨w.heap.size,3,none⟩=some (.string (S x.type)):=A0c ((Below.refl _ _).alloc (Nat.le_refl _) _) t3
   clear hat
   by_cases hE:E=0
   ·have br:(E != 0)=false:=by simp[hE]
    have ac:Hid (A5z f (acc.map Prod.fst++[B]) (l.drop (k+1))=q):=by
     show _=_;rw[←HK.out,HS,if_neg (by simp[hE])]
    clear hE HS
    go_wp2_with fail
    rw[←aw.out]
    refine hx.mono ?_
    rintro e w2 ⟨a2,n2,c2,rfl,hr2,hb2⟩
    have ag:Below wr.heap.size wr w2:=KBT hb1 hb2
    have ah:Below W0.heap.size W0 w2:=KBT hb ag
    have bc:=hr.below ag
    have ak:Row ekY w2 W0.heap.size (PV.v (a2,n2,c2)) B:=hr2.mono (by omega)
    clear hx u4 hr hr2
    go_wp2_with (at_builtin;refine A1n (by rfl) ekZ _ _ (by rfl) W0.heap.size (.slice ao no co) acc [(B,(a2,n2,c2))] (by rfl) (bc.below ((Below.refl _ _).alloc (Nat.le_refl _) _)) (some ⟨w2.heap.size,0,none⟩) 1 1 (by rfl) (by rfl) (by intro e;cases e) (C9y w2 B a2 n2 c2) (by decide) ?d2 (A8o ah (Nat.le_refl _) _).size ?_)
    case d2=>
     rw[show ekZ.bytes=24 from rfl]
     simp only[List.length_cons,List.length_nil]
     omega
    intro v' w5 bl bg
    obtain⟨a5,n5,c5,rfl,_⟩:=bl.shape'
    have bq:Below W0.heap.size W0 w5:=C9v (A8o ah (Nat.le_refl _) _) (Nat.le_refl _) bg (fun k hk=>(bc.own k hk).1)
    have bw:∀ z∈acc++[(B,((a2,n2,c2):PV))],Row ekY w5 W0.heap.size z.2.v z.1:=fun z hz=>by
     have bk:Below w2.heap.size w2 (w2.alloc (.cells #[.slice a2 n2 c2] 32)):=(Below.refl _ _).alloc (Nat.le_refl _) _
     rcases List.mem_append.1 hz with hz|hz
     ·have h1:=(bp z hz).below ag
      exact(h1.below bk).grown bg (h1.ne bc (by decide))
     ·rw[List.mem_singleton] at hz
      subst hz
      exact(ak.below bk).grown bg (ak.ne bc (by decide))
    go_wp2_with fail
    go_roundg (n1 - (k+1))
    case measure=>omega
    case rel=>exact⟨k+1,a5,n5,c5,_,by omega,by go_num,rfl,bl,bw,by rw[List.length_append];simp;omega,by show _=_;rw[List.map_append];exact ac.out,bq⟩
   ·have br:(E != 0)=true:=by simpa using hE
    have ac:Hid (q=([],E)):=by
     show _=_;rw[←HK.out,HS,if_pos hE]
    clear hE HS
    go_wp2_with fail
    rw[←aw.out]
    refine hx.mono ?_
    rintro e w2 ⟨a2,n2,c2,rfl,hr2,hb2⟩
    have ag:Below w.heap.size w w2:=KBT ba (KBT hb1 hb2)
    go_wp2
    go_ret2
    exact⟨none,0,0,by rw[ac.out];rfl,by rw[ac.out];exact RecL.nil _ _ _,ag⟩
  ·have ac:Hid (q=(acc.map Prod.fst,0)):=by
    show _=_;rw[←HK.out,List.drop_of_length_le (by rw[←H1.out];omega)];rfl
   have hsz:=A7v (W:=W) hr.rdZc (fun z hz=>.inr (bp z hz)) cg (by omega) x.number
   obtain⟨t0,t1,t2,t3,t4,t5⟩:=A8g ((hb.block _ (by omega)).trans x0)
   go_wp2_with fail
   refine hsz.mono ?_
   rintro e w6 ⟨a6,n6,c6,rfl,bn,bu⟩
   have bh:RecL W w6 w.heap.size (.slice a6 n6 c6) (q.1.map (C3x x.number)):=by
    rw[ac.out,List.map_map];exact bn.mono (by omega)
   clear hsz bn
   go_wp2
   go_ret2
   exact⟨a6,n6,c6,by rw[ac.out];rfl,bh,KBT ba bu⟩
open Go.RowKit
theorem B9g (how:Int) (l:List Nat):(A2k how l).length≤l.length*10:=by
 unfold A2k
 split
 ·exact C0z fun n _=>A9l how n
 ·simp
theorem B3a (w:World) (o o':Obj):Below w.heap.size w ((w.alloc o).alloc o'):=((Below.refl _ _).alloc (Nat.le_refl _) _).alloc (by simp) _
end L
end Go.Proofs.YtgaoojpakjjdnaaGreatDoor
