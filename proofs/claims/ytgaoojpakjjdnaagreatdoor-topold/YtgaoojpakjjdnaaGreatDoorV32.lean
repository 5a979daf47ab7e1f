import Derived.Test.YtgaoojpakjjdnaaGreatDoorV31
set_option maxHeartbeats 32000000
set_option maxRecDepth 100000
namespace Go.Proofs.YtgaoojpakjjdnaaGreatDoor
namespace L
open Go.RowKit
def ZcAt (w:World)(x:Addr)(z:List UInt8×PV):Prop:=w.cell? x=some z.2.v
theorem ZcAt.stays:A5g ZcAt:=fun _ _ _ _ hb h=>A0c hb h
theorem ZcAt.plain:A8s ZcAt:=fun _ _ _ _ _ h=>A1z h
theorem Row.rdZc {w:World}{base:Nat}{v:Value}{l:List (List UInt8×PV)}(h:Row ekZ w base v l):RdL 1 ZcAt w v l:=h.rd ZcAt fun g i a hc=>by have:=hc 0 _ rfl;simpa [ZcAt] using this
theorem D9f {w:World}{v:Value}{l:List (List UInt8)}(h:RdL 1 ZAt w v l):∃ l':List (List UInt8×PV),l'.map Prod.fst=l∧RdL 1 ZcAt w v l'∧∀ z∈l',RdL 1 YAt w z.2.v z.1:=by
 obtain⟨ao,n,cap,rfl,h1,h2,h3,h4,h5⟩:=h
 obtain⟨l',e1,e2⟩:=B3e l (fun k z (p:PV)=>∀ x,ao=some x→w.cell? (x.add (k*1))=some p.v∧RdL 1 YAt w p.v z) fun k a ha=>by
  cases ao with
  | none=>have:=(h4 rfl).1;rw[List.eq_nil_of_length_eq_zero (h1.trans this)] at ha;simp at ha
  | some x=>
   obtain⟨v,c,r⟩:=h5 x rfl k a ha
   obtain⟨a3,n3,c3,rfl,_,_⟩:=r.shape
   exact⟨(a3,n3,c3),fun y hy=>by cases hy;exact⟨c,r⟩⟩
 refine⟨l',e1,⟨ao,n,cap,rfl,by rw[←h1,←e1];simp,h2,h3,h4,fun x hx k a ha=>(e2 k a ha x hx).1⟩,fun z hz=>?_⟩
 obtain⟨k,hk⟩:=List.mem_iff_getElem?.1 hz
 cases ao with
 | none=>
  have:=(h4 rfl).1
  have hl:l'.length=0:=by rw[←List.length_map (f:=Prod.fst),e1,h1];exact this
  rw[List.eq_nil_of_length_eq_zero hl] at hz
  cases hz
 | some x=>exact(e2 k z hk x rfl).2
theorem D7l (w:World)(r:RI)(a:Option Addr)(n c:Nat):∀ ad,some (⟨w.heap.size,0,none⟩:Addr)=some ad→∀ k y,[(r,((a,n,c):PV))][k]?=some y→∀ j u,(ekR.enc y)[j]?=some u→(w.alloc (.cells #[.int .i64 r.number,.int .i64 r.how,.int .u64 (r.bits:Int),.slice a n c] 106)).cell? (ad.add (k*ekR.size+j))=some u:=B1s ekR w (r,(a,n,c))
theorem B0i {W w:World}{base:Nat}{v:Value}{l:List (List UInt8×PV)}(h:RdL 1 ZcAt w v l)(hy:∀ z∈l,RdL 1 YAt W z.2.v z.1∨Row ekY w base z.2.v z.1)(hb0:base≤w.heap.size)(hl:l.length≤1048576)(num:Int) :
  Calls Tryz.prog 86 #[.int .i64 num,v] w fun e w'=>∃ ao n cap,e = .returned (.slice ao n cap)∧RecL W w' base (.slice ao n cap) (l.map fun z=>⟨num,2,0,z.1⟩)∧Below w.heap.size w w':=by
 obtain⟨a1,n1,c1,rfl,H1,_⟩:=h.shape
 have bc:n1≤1048576:=by rw[H1.out];exact hl
 obtain⟨R,HR⟩:∃ R:List (RI×PV),Hid (R=l.map fun z=>(⟨num,2,0,z.1⟩,z.2)):=⟨_,rfl⟩
 have au:R.length=l.length:=by rw[HR.out];simp
 go_enter Tryz.func86,Tryz.ntmps86
 go_wp2_with fail
 go_loopg [5,10] n1 (fun m u i wr=>∃ (k:Nat) (ao:Option Addr) (no co:Nat),k+m=n1∧i = .int .i64 k∧u = .slice ao no co∧Row ekR wr w.heap.size (.slice ao no co) (R.take k)∧Below w.heap.size w wr)
 case atStart=>exact⟨0,none,0,0,by omega,rfl,rfl,by rw[List.take_zero];exact Row.nil _ _ _,Below.refl _ _⟩
 case round=>
  obtain⟨k,ao,no,co,hk,rfl,rfl,hr,hb⟩:=hrel
  by_cases hlt:k<n1
  ·obtain⟨x,Hx⟩:∃ x,Hid (l[k]?=some x):=⟨l[k]'(by rw[←H1.out];exact hlt),List.getElem?_eq_getElem (by rw[←H1.out];exact hlt)⟩
   obtain⟨b,off,rfl,hat⟩:=(h.below ZcAt.stays hb).get ZcAt.plain Hx.out
   obtain⟨z,⟨az,nz,cz⟩⟩:=x
   have s0:wr.cell? ⟨b,off+k,none⟩=some (.slice az nz cz):=by simpa [ZcAt,PV.v] using hat
   have ba:(k:Int)<(n1:Int):=by omega
   have ak:R[k]?=some (⟨num,2,0,z⟩,(az,nz,cz)):=by rw[HR.out,List.getElem?_map,Hx.out];rfl
   have hlk:(R.take k).length≤1048576:=by rw[List.length_take];omega
   have aw:∀ k,(Value.slice ao no co).ownBlock=some k→w.heap.size≤k:=fun k hk=>(hr.own k hk).1
   clear hat
   go_wp2_with (at_builtin;refine A2f (by rfl) ekR _ _ (by rfl) w.heap.size (.slice ao no co) (R.take k) [(⟨num,2,0,z⟩,(az,nz,cz))] (by rfl) (hr.below ((Below.refl _ _).alloc (Nat.le_refl _) _)) (some ⟨wr.heap.size,0,none⟩) 1 1 (by rfl) (by rfl) (by intro e;cases e) (D7l wr ⟨num,2,0,z⟩ az nz cz) (by decide) ?d2 ?d3 ?_)
   case d2=>
    rw[show ekR.bytes=48 from rfl]
    simp only[List.length_cons,List.length_nil]
    omega
   case d3=>simp;have:=hb.size;omega
   intro v' w3 hr3 hg3
   obtain⟨a2,n2,c2,rfl,_⟩:=hr3.shape'
   have aj:Below w.heap.size w w3:=(hb.alloc hb.size _).grown hg3 (by simp;have:=hb.size;omega) aw
   have ag:Row ekR w3 w.heap.size (.slice a2 n2 c2) (R.take (k+1)):=by rw[A0z ak];exact hr3
   clear hr3
   go_wp2_with fail
   go_roundg (n1-(k+1))
   case measure=>omega
   case rel=>exact⟨k+1,a2,n2,c2,by omega,by go_num,rfl,ag,aj⟩
  ·have hr1:Row ekR wr w.heap.size (.slice ao no co) R:=by
    rw[List.take_of_length_le (by rw[au,←H1.out];omega)] at hr;exact hr
   have ac:RecL W wr base (.slice ao no co) (l.map fun z=>⟨num,2,0,z.1⟩):=by
    refine⟨R,hr1.mono hb0,by rw[HR.out,List.map_map];rfl,fun r ah=>?_⟩
    rw[HR.out] at ah
    obtain⟨z,hz,rfl⟩:=List.mem_map.1 ah
    exact(hy z hz).imp id fun k=>k.below hb
   clear hr hr1
   go_wp2
   go_ret
   exact⟨ao,no,co,rfl,ac,hb⟩
def VSm {β:Type}(Q : β→Prop)(v:VI β):Prop:=v.bits.length≤1048576∧(∀ n∈v.bits,n≤18446744073709551615)∧v.bytes.length≤1048576∧(∀ z∈v.bytes,z.length≤1048576)∧v.subs.length≤1048576∧∀ s∈v.subs,Q s
def KQ:(d:Nat)→World→Value→Value→BI d→Prop
 | 0=>fun _ _ _ _=>False
 | d+1=>fun w v0 v1 b=>BRd d w v0 v1 b
theorem KQ.below:∀ {d:Nat}{w w':World}{v0 v1:Value}{x:BI d},KQ d w v0 v1 x→Below w.heap.size w w'→KQ d w' v0 v1 x
 | 0,_,_,_,_,_,h,_=>h
 | _+1,_,_,_,_,_,h,hb=>BRd.below h hb
theorem BAt.kq:∀ {d:Nat}{w:World}{b o:Nat}{x:BI d},BAt d w ⟨b,o,none⟩ x→∃ v0 v1,w.cell? ⟨b,o,none⟩=some v0∧w.cell? ⟨b,o+1,none⟩=some v1∧KQ d w v0 v1 x
 | 0,_,_,_,_,h=>h.elim
 | _+1,_,_,_,_,h=>h.at
theorem KQ.shape:∀ {d:Nat}{w:World}{v0 v1:Value}{x:BI d},KQ d w v0 v1 x→∃ a0 n0 c0 a1 n1 c1,v0 = .slice a0 n0 c0∧v1 = .slice a1 n1 c1
 | 0,_,_,_,_,h=>h.elim
 | _+1,_,_,_,_,h=>by
  obtain⟨a0,n0,c0,e0,_,_⟩:=h.1.shape
  obtain⟨a1,n1,c1,e1,_,_⟩:=h.2.shape
  exact⟨a0,n0,c0,a1,n1,c1,e0,e1⟩
def KDeep (d:Nat)(W:World)(fn:Nat)(cap:Array Value)(next:Int)(f:BI d→List UInt8×Int)(x:BI d):Prop:=
 ∀ (V:World) (v0 v1:Value),Below W.heap.size W V→KQ d V v0 v1 x→Calls Tryz.prog fn (#[.int .i64 next,.agg #[v0,v1]]++cap) V fun e w'=>∃ ao n c,e = .returned (.tuple #[.slice ao n c,.int .i64 (f x).2])∧Row ekY w' V.heap.size (.slice ao n c) (f x).1∧Below V.heap.size V w'
theorem KDeep.below {d:Nat}{W W':World}{fn:Nat}{cap:Array Value}{next:Int}{f:BI d→List UInt8×Int}{x:BI d}(h:KDeep d W fn cap next f x)(hb:Below W.heap.size W W'):KDeep d W' fn cap next f x:=
 fun V v0 v1 hV=>h V v0 v1 (KBT hb hV)
def CDeep (d:Nat)(W:World)(fn:Nat)(cap:Array Value)(name:List UInt8)(f:BI d→List UInt8×Int)(x:BI d):Prop:=
 ∀ (V:World) (v0 v1:Value),Below W.heap.size W V→KQ d V v0 v1 x→Calls Tryz.prog fn (#[.string (S name),.agg #[v0,v1]]++cap) V fun e w'=>∃ ao n c,e = .returned (.tuple #[.slice ao n c,.int .i64 (f x).2])∧Row ekY w' V.heap.size (.slice ao n c) (f x).1∧Below V.heap.size V w'
theorem CDeep.below {d:Nat}{W W':World}{fn:Nat}{cap:Array Value}{name:List UInt8}{f:BI d→List UInt8×Int}{x:BI d}(h:CDeep d W fn cap name f x)(hb:Below W.heap.size W W'):CDeep d W' fn cap name f x:=
 fun V v0 v1 hV=>h V v0 v1 (KBT hb hV)
def A4c {β:Type}(f : β→List UInt8×Int):List (List UInt8)→List β→List (List UInt8)×Int
 | acc,[]=>(acc,0)
 | acc,b::r=>if (f b).2≠0 then([],(f b).2) else A4c f (acc++[(f b).1]) r
theorem D3r {β:Type}{f : β→List UInt8×Int}{l:List β}{k:Nat}{b : β}(h:l[k]?=some b)(acc:List (List UInt8)):A4c f acc (l.drop k)=if (f b).2≠0 then([],(f b).2) else A4c f (acc++[(f b).1]) (l.drop (k+1)):=by
 obtain⟨hk,rfl⟩:=List.getElem?_eq_some_iff.1 h
 rw[List.drop_eq_getElem_cons hk]
 rfl
def B1k (num:Int)(b:List UInt8):RI:=⟨num,2,0,b⟩
theorem D7o (w:World)(z:List UInt8)(a:Option Addr)(n c:Nat):∀ ad,some (⟨w.heap.size,0,none⟩:Addr)=some ad→∀ k y,[(z,((a,n,c):PV))][k]?=some y→∀ j u,(ekZ.enc y)[j]?=some u→(w.alloc (.cells #[.slice a n c] 32)).cell? (ad.add (k*ekZ.size+j))=some u:=B1s ekZ w (z,(a,n,c))
theorem B4b (W:World){d:Nat}{w:World}{v:Value}{l:List (BI d)}(h:RdL 2 (BAt d) w v l)(hl:l.length≤1048576)(x:FI){fn:Nat}{cap:Array Value}(bw:∀ (args:Array Value) (w:World),(callFunc fn args).run Tryz.prog w = .ok (.enter fn args) w)
  {f:BI d→List UInt8×Int}(aj:∀ y∈l,CDeep d w fn cap x.type f y) :
  Calls Tryz.prog 85 #[fv x,v,.func (.func fn) #[] cap] w fun e w'=>∃ ao n c,e = .returned (.tuple #[.slice ao n c,.int .i64 (A4c f [] l).2])∧RecL W w' w.heap.size (.slice ao n c) ((A4c f [] l).1.map (B1k x.number))∧Below w.heap.size w w':=by
 obtain⟨a1,n1,c1,rfl,H1,_⟩:=h.shape
 have hn:n1≤1048576:=by rw[H1.out];exact hl
 obtain⟨q,Hq⟩:∃ q,Hid (A4c f [] l=q):=⟨_,rfl⟩
 rw[Hq.out]
 obtain⟨W0,au⟩:∃ W0,Hid (W0=w.alloc (.cells #[.string (S x.name),.int .i64 x.number,.int .i64 x.kind,.string (S x.type),.bool x.many,.int .i64 x.choice] 40)):=⟨_,rfl⟩
 have hb0:Below w.heap.size w W0:=by rw[au.out];exact(Below.refl _ _).alloc (Nat.le_refl _) _
 have hz0:w.heap.size+1≤W0.heap.size:=by rw[au.out];simp
 have x0:W0.heap[w.heap.size]?=some (.cells #[.string (S x.name),.int .i64 x.number,.int .i64 x.kind,.string (S x.type),.bool x.many,.int .i64 x.choice] 40 (0,0)):=by rw[au.out];exact heap_alloc_new _ _
 unfold fv
 go_enter Tryz.func85,Tryz.ntmps85
 go_wp2_with fail
 rw[←au.out]
 go_loopg [8,15] n1 (fun m u i wr=>∃ (k:Nat) (ao:Option Addr) (no co:Nat) (acc:List (List UInt8×PV)),k+m=n1∧i = .int .i64 k∧u = .slice ao no co∧Row ekZ wr W0.heap.size (.slice ao no co) acc∧(∀ z∈acc,Row ekY wr W0.heap.size z.2.v z.1)∧acc.length≤k∧Hid (A4c f (acc.map Prod.fst) (l.drop k)=q)∧Below W0.heap.size W0 wr)
 case atStart=>exact⟨0,none,0,0,[],by omega,rfl,rfl,Row.nil _ _ _,fun _ hz=>(List.not_mem_nil hz).elim,Nat.le_refl _,Hq,Below.refl _ _⟩
 case round=>
  obtain⟨k,ao,no,co,acc,hk,rfl,rfl,hr,bq,bu,HK,hb⟩:=hrel
  have ba:Below w.heap.size w wr:=KBT hb0 hb
  have cj:=hb.size
  by_cases hlt:k<n1
  ·obtain⟨y,Hx⟩:∃ x,Hid (l[k]?=some x):=⟨l[k]'(by rw[←H1.out];exact hlt),List.getElem?_eq_getElem (by rw[←H1.out];exact hlt)⟩
   obtain⟨b,off,rfl,hat⟩:=(h.below (BAt.stays d) ba).get (BAt.plain d) Hx.out
   obtain⟨v0,v1,s0,s1,hq⟩:=hat.kq
   obtain⟨e0,m0,p0,e1,m1,p1,rfl,rfl⟩:=hq.shape
   have cu:(k:Int)<(n1:Int):=by omega
   obtain⟨W1,aw⟩:∃ W1,Hid (W1=wr.alloc (.cells #[.slice e0 m0 p0,.slice e1 m1 p1] 29)):=⟨_,rfl⟩
   have hb1:Below wr.heap.size wr W1:=by rw[aw.out];exact(Below.refl _ _).alloc (Nat.le_refl _) _
   have hz1:wr.heap.size+1≤W1.heap.size:=by rw[aw.out];simp
   have hx:=aj y (List.mem_of_getElem? Hx.out) W1 _ _ (KBT ba hb1) (hq.below hb1)
   have HS:=D3r (f:=f) Hx.out (acc.map Prod.fst)
   obtain⟨B,E,HE⟩:∃ B E,Hid (f y=(B,E)):=⟨_,_,rfl⟩
   rw[HE.out] at hx HS
   obtain⟨t0,t1,t2,t3,t4,t5⟩:=B0h ((hb.block _ (by omega)).trans x0)
   have u4:(wr.alloc (.cells #[.slice e0 m0 p0,.slice e1 m1 p1] 29)).cell? ⟨w.heap.size,3,none⟩=some (.string (S x.type)):=A0c ((Below.refl _ _).alloc (Nat.le_refl _) _) t3
   clear hat
   by_cases hE:E=0
   ·have bt:(E != 0)=false:=by simp[hE]
    have ac:Hid (A4c f (acc.map Prod.fst++[B]) (l.drop (k+1))=q):=by
     show _=_;rw[←HK.out,HS,if_neg (by simp[hE])]
    clear hE HS
    go_wp2_with fail
    rw[←aw.out]
    refine hx.mono ?_
    rintro e w2 ⟨a2,n2,c2,rfl,hr2,hb2⟩
    have ag:Below wr.heap.size wr w2:=KBT hb1 hb2
    have ah:Below W0.heap.size W0 w2:=KBT hb ag
    have bc:=hr.below ag
    have ak:Row ekY w2 W0.heap.size (PV.v (a2,n2,c2)) B:=hr2.mono (by omega)
    clear hx u4 hr hr2
    go_wp2_with (at_builtin;refine A2f (by rfl) ekZ _ _ (by rfl) W0.heap.size (.slice ao no co) acc [(B,(a2,n2,c2))] (by rfl) (bc.below ((Below.refl _ _).alloc (Nat.le_refl _) _)) (some ⟨w2.heap.size,0,none⟩) 1 1 (by rfl) (by rfl) (by intro e;cases e) (D7o w2 B a2 n2 c2) (by decide) ?d2 (B1m ah (Nat.le_refl _) _).size ?_)
    case d2=>
     rw[show ekZ.bytes=24 from rfl]
     simp only[List.length_cons,List.length_nil]
     omega
    intro v' w5 bn bg
    obtain⟨a5,n5,c5,rfl,_⟩:=bn.shape'
    have br:Below W0.heap.size W0 w5:=D7k (B1m ah (Nat.le_refl _) _) (Nat.le_refl _) bg (fun k hk=>(bc.own k hk).1)
    have cg:∀ z∈acc++[(B,((a2,n2,c2):PV))],Row ekY w5 W0.heap.size z.2.v z.1:=fun z hz=>by
     have bk:Below w2.heap.size w2 (w2.alloc (.cells #[.slice a2 n2 c2] 32)):=(Below.refl _ _).alloc (Nat.le_refl _) _
     rcases List.mem_append.1 hz with hz|hz
     ·have h1:=(bq z hz).below ag
      exact(h1.below bk).grown bg (h1.ne bc (by decide))
     ·rw[List.mem_singleton] at hz
      subst hz
      exact(ak.below bk).grown bg (ak.ne bc (by decide))
    go_wp2_with fail
    go_roundg (n1-(k+1))
    case measure=>omega
    case rel=>exact⟨k+1,a5,n5,c5,_,by omega,by go_num,rfl,bn,cg,by rw[List.length_append];simp;omega,by show _=_;rw[List.map_append];exact ac.out,br⟩
   ·have bt:(E != 0)=true:=by simpa using hE
    have ac:Hid (q=([],E)):=by
     show _=_;rw[←HK.out,HS,if_pos hE]
    clear hE HS
    go_wp2_with fail
    rw[←aw.out]
    refine hx.mono ?_
    rintro e w2 ⟨a2,n2,c2,rfl,hr2,hb2⟩
    have ag:Below w.heap.size w w2:=KBT ba (KBT hb1 hb2)
    go_wp2
    go_ret2
    exact⟨none,0,0,by rw[ac.out];rfl,by rw[ac.out];exact RecL.nil _ _ _,ag⟩
  ·have ac:Hid (q=(acc.map Prod.fst,0)):=by
    show _=_;rw[←HK.out,List.drop_of_length_le (by rw[←H1.out];omega)];rfl
   have hsz:=B0i (W:=W) hr.rdZc (fun z hz=>.inr (bq z hz)) cj (by omega) x.number
   obtain⟨t0,t1,t2,t3,t4,t5⟩:=B0h ((hb.block _ (by omega)).trans x0)
   go_wp2_with fail
   refine hsz.mono ?_
   rintro e w6 ⟨a6,n6,c6,rfl,bp,bv⟩
   have bh:RecL W w6 w.heap.size (.slice a6 n6 c6) (q.1.map (B1k x.number)):=by
    rw[ac.out,List.map_map];exact bp.mono (by omega)
   clear hsz bp
   go_wp2
   go_ret2
   exact⟨a6,n6,c6,by rw[ac.out];rfl,bh,KBT ba bv⟩
theorem B4s (how:Int)(l:List Nat):(packedN how l).length≤l.length*10:=by
 unfold packedN
 split
 ·exact C7m fun n _=>B2x how n
 ·simp
theorem B7r (w:World)(o o':Obj):Below w.heap.size w ((w.alloc o).alloc o'):=((Below.refl _ _).alloc (Nat.le_refl _) _).alloc (by simp) _
def A1a {β:Type}(deep:List UInt8→β→List UInt8×Int)(x:FI)(v:VI β):List RI×Int:=
 if x.kind=10 then((A4c (deep x.type) [] v.subs).1.map (B1k x.number),(A4c (deep x.type) [] v.subs).2)
 else if A3z x.kind=2 then(v.bytes.map (B1k x.number),0)
 else if x.many=true then([B1k x.number (packedN (A3z x.kind) (v.bits.map (A5t x.kind)))],0)
 else([⟨x.number,A3z x.kind,A5t x.kind (v.bits.headD 0),[]⟩],0)
theorem D8b (w:World)(b:List UInt8)(ao:Option Addr)(n cap:Nat):RdL 1 ZcAt (w.alloc (.cells #[.slice ao n cap] 32)) (.slice (some ⟨w.heap.size,0,none⟩) 1 1) [(b,((ao,n,cap):PV))]:=by
 refine⟨_,1,1,rfl,rfl,Nat.le_refl _,by unfold maxLen;omega,(fun e=>by cases e),fun x hx k a ha=>?_⟩
 cases hx
 cases k with
 | succ k=>simp at ha
 | zero=>
  have ha:(b,((ao,n,cap):PV))=a:=by simpa using ha
  subst ha
  rw[A0e]
  exact A0a (heap_alloc_new w _) 0 _ rfl
theorem C1d {d:Nat}{W w:World}(hW:Below W.heap.size W w){v1 v2 v3:Value}{v:VI (BI d)}{Q:BI d→Prop}(h1:RdL 1 UAt w v1 v.bits)(h2:RdL 1 ZAt W v2 v.bytes)(h3:RdL 2 (BAt d) w v3 v.subs)(hv:VSm Q v)(x:FI)(ah:x.kind≠10→A3z x.kind≠2→x.many=false→v.bits≠[]){fn:Nat}{cap:Array Value}(bp:∀ (args:Array Value) (w:World),(callFunc fn args).run Tryz.prog w = .ok (.enter fn args) w)
  {deep:List UInt8→BI d→List UInt8×Int}(ag:x.kind=10→∀ y∈v.subs,CDeep d w fn cap x.type (deep x.type) y) :
  Calls Tryz.prog 36 #[fv x,.agg #[.int .i64 v.number,v1,v2,v3],.func (.func fn) #[] cap] w fun e w'=>∃ ao n c,e = .returned (.tuple #[.slice ao n c,.int .i64 (A1a deep x v).2])∧RecL W w' w.heap.size (.slice ao n c) (A1a deep x v).1∧Below w.heap.size w w':=by
 obtain⟨dg,hv2,hv3,hv4,dh,dl⟩:=hv
 obtain⟨a1,n1,c1,rfl,H1,_⟩:=h1.shape
 obtain⟨a2,n2,c2,rfl,H2,_⟩:=h2.shape
 obtain⟨a3,n3,c3,rfl,H3,_⟩:=h3.shape
 obtain⟨q,Hq⟩:∃ q,Hid (A1a deep x v=q):=⟨_,rfl⟩
 rw[Hq.out]
 obtain⟨W0,bc⟩:∃ W0,Hid (W0=(w.alloc (.cells #[.string (S x.name),.int .i64 x.number,.int .i64 x.kind,.string (S x.type),.bool x.many,.int .i64 x.choice] 40)).alloc (.cells #[.int .i64 v.number,.slice a1 n1 c1,.slice a2 n2 c2,.slice a3 n3 c3] 62)):=⟨_,rfl⟩
 have hb0:Below w.heap.size w W0:=by rw[bc.out];exact B7r _ _ _
 have hz0:w.heap.size+2≤W0.heap.size:=by rw[bc.out];simp
 have x0:W0.heap[w.heap.size]?=some (.cells #[.string (S x.name),.int .i64 x.number,.int .i64 x.kind,.string (S x.type),.bool x.many,.int .i64 x.choice] 40 (0,0)):=by rw[bc.out];exact A0o _ _ _
 have x1:W0.heap[w.heap.size+1]?=some (.cells #[.int .i64 v.number,.slice a1 n1 c1,.slice a2 n2 c2,.slice a3 n3 c3] 62 (0,0)):=by rw[bc.out];exact A0j _ _ _
 obtain⟨Hw,ba⟩:∃ Hw,Hid (Hw=A3z x.kind):=⟨_,rfl⟩
 have bq:=B5y x.kind
 rw[←ba.out] at bq ah
 have hcb:∀ V,Below W0.heap.size W0 V→Calls Tryz.prog 84 #[.int .i64 x.kind,.slice a1 n1 c1] V fun e w'=>∃ ao n cap,e = .returned (.slice ao n cap)∧Row ekU w' V.heap.size (.slice ao n cap) (v.bits.map (A5t x.kind))∧Below V.heap.size V w':=fun V hV=>D1b (h1.below UAt.stays (KBT hb0 hV)) hv2 (by omega) x.kind
 have hle:∀ y∈v.bits.map (A5t x.kind),y≤18446744073709551615:=fun y hy=>by
  obtain⟨n,hn,rfl⟩:=List.mem_map.1 hy
  exact B0g _ _ (hv2 n hn)
 have cj:(v.bits.map (A5t x.kind)).length≤1048576:=by rw[List.length_map];exact dg
 obtain⟨L,HL⟩:∃ L,Hid (L=v.bits.map (A5t x.kind)):=⟨_,rfl⟩
 rw[←HL.out] at hcb hle cj
 have au:∀ V,Below W0.heap.size W0 V→Below W0.heap.size W0 V∧(V.cell? ⟨w.heap.size,0,none⟩=some (.string (S x.name))∧V.cell? ⟨w.heap.size,1,none⟩=some (.int .i64 x.number)∧V.cell? ⟨w.heap.size,2,none⟩=some (.int .i64 x.kind)∧V.cell? ⟨w.heap.size,3,none⟩=some (.string (S x.type))∧V.cell? ⟨w.heap.size,4,none⟩=some (.bool x.many)∧V.cell? ⟨w.heap.size,5,none⟩=some (.int .i64 x.choice))∧V.cell? ⟨w.heap.size+1,0,none⟩=some (.int .i64 v.number)∧V.cell? ⟨w.heap.size+1,1,none⟩=some (.slice a1 n1 c1)∧V.cell? ⟨w.heap.size+1,2,none⟩=some (.slice a2 n2 c2)∧V.cell? ⟨w.heap.size+1,3,none⟩=some (.slice a3 n3 c3):=fun V hV=>⟨hV,B0h ((hV.block _ (by omega)).trans x0),C6u ((hV.block _ (by omega)).trans x1)⟩
 have hd:Below W0.heap.size W0 W0.drew:=(Below.refl _ _).drew
 have bu:=hcb W0.drew hd
 unfold fv
 go_enter Tryz.func36,Tryz.ntmps36
 go_wp2_with fail
 rw[←bc.out]
 go_cut [8,9] from 10 to 17 (fun s8 s9 wc=>∃ (ab:Option Addr) (nb cb:Nat),s8 = .int .i64 Hw∧s9 = .slice ab nb cb∧Row ekU wc W0.heap.size (.slice ab nb cb) L∧Below W0.heap.size W0 wc)
 case first=>
  go_region_held3 (fun V=>Below W0.heap.size W0 V∧(V.cell? ⟨w.heap.size,0,none⟩=some (.string (S x.name))∧V.cell? ⟨w.heap.size,1,none⟩=some (.int .i64 x.number)∧V.cell? ⟨w.heap.size,2,none⟩=some (.int .i64 x.kind)∧V.cell? ⟨w.heap.size,3,none⟩=some (.string (S x.type))∧V.cell? ⟨w.heap.size,4,none⟩=some (.bool x.many)∧V.cell? ⟨w.heap.size,5,none⟩=some (.int .i64 x.choice))∧V.cell? ⟨w.heap.size+1,0,none⟩=some (.int .i64 v.number)∧V.cell? ⟨w.heap.size+1,1,none⟩=some (.slice a1 n1 c1)∧V.cell? ⟨w.heap.size+1,2,none⟩=some (.slice a2 n2 c2)∧V.cell? ⟨w.heap.size+1,3,none⟩=some (.slice a3 n3 c3)) ((with_reducible refine au _ ?_;with_reducible (first|exact hd|exact ak))) ((first|(go_at_call 83;refine(bq _).mono ?_;rintro e wm ⟨rfl,rfl⟩)|(go_at_call 84;refine bu.mono ?_;rintro e w1 ⟨ab,nb,cb,rfl,hr1,hb1⟩;have ak:=KBT hd hb1)))
  all_goals
   go_wp2_with fail
   go_meet
  all_goals exact⟨ab,nb,cb,rfl,rfl,hr1,ak⟩
 case rest=>
  obtain⟨ab,nb,cb,rfl,rfl,br,ak⟩:=hcut
  have ac:Below w.heap.size w wc:=KBT hb0 ak
  obtain⟨_,⟨t0,t1,t2,t3,t4,t5⟩,t6,t7,t8,t9⟩:=au wc ak
  have hz1:=ak.size
  clear bu hcb bq
  by_cases e10:x.kind=10
  ·have bw:(x.kind==10)=true:=by simp[e10]
   have HN:Hid (q=((A4c (deep x.type) [] v.subs).1.map (B1k x.number),(A4c (deep x.type) [] v.subs).2)):=by show _=_;rw[←Hq.out,A1a,if_pos e10]
   have hc:=B4b W (h3.below (BAt.stays d) ac) dh x bp (cap:=cap) (f:=deep x.type) (fun y hy=>(ag e10 y hy).below ac)
   unfold fv at hc
   clear e10 ag ah au
   go_wp2_with fail
   refine hc.mono ?_
   rintro e w2 ⟨a,m,c,rfl,hr,hb⟩
   go_wp2
   go_ret2
   exact⟨a,m,c,by rw[HN.out];rfl,by rw[HN.out];exact hr.mono ac.size,KBT ac hb⟩
  ·have bw:(x.kind==10)=false:=by simp[e10]
   by_cases e2:Hw=2
   ·have b2:(Hw==2)=true:=by simp[e2]
    have HN:Hid (q=(v.bytes.map (B1k x.number),0)):=by show _=_;rw[←Hq.out,A1a,if_neg e10,if_pos (by rw[←ba.out];exact e2)]
    obtain⟨l',k1,k2,k3⟩:=D9f h2
    have hc:=B0i (W:=W) (base:=w.heap.size) ((k2.below ZcAt.stays hW).below ZcAt.stays ac) (fun z hz=>.inl (k3 z hz)) ac.size (by rw[←List.length_map (f:=Prod.fst),k1];exact hv3) x.number
    clear e10 ag ah au e2
    go_wp2_with fail
    refine hc.mono ?_
    rintro e w2 ⟨a,m,c,rfl,hr,hb⟩
    have df:RecL W w2 w.heap.size (.slice a m c) (v.bytes.map (B1k x.number)):=by rw[←k1,List.map_map];exact hr
    go_wp2
    go_ret2
    exact⟨a,m,c,by rw[HN.out];rfl,by rw[HN.out];exact df,KBT ac hb⟩
   ·have b2:(Hw==2)=false:=by simp[e2]
    by_cases aw:x.many=true
    ·have HN:Hid (q=([B1k x.number (packedN Hw L)],0)):=by show _=_;rw[←Hq.out,A1a,if_neg e10,if_neg (by rw[←ba.out];exact e2),if_pos aw,←ba.out,←HL.out]
     have bv:∀ V,Below wc.heap.size wc V→Calls Tryz.prog 87 #[.int .i64 Hw,.slice ab nb cb] V fun e w'=>∃ ao n cap,e = .returned (.slice ao n cap)∧Row ekY w' V.heap.size (.slice ao n cap) (packedN Hw L)∧Below V.heap.size V w':=fun V hV=>C5k (br.below hV).rdU hle (by omega) Hw
     have hsz:∀ (V:World) (a:Option Addr) (m c B:Nat),w.heap.size≤B→B≤V.heap.size→Row ekY V B (.slice a m c) (packedN Hw L)→Calls Tryz.prog 86 #[.int .i64 x.number,.slice (some ⟨V.heap.size,0,none⟩) 1 1] (V.alloc (.cells #[.slice a m c] 32)) fun e w'=>∃ ao n cap,e = .returned (.slice ao n cap)∧RecL W w' w.heap.size (.slice ao n cap) [B1k x.number (packedN Hw L)]∧Below (V.alloc (.cells #[.slice a m c] 32)).heap.size (V.alloc (.cells #[.slice a m c] 32)) w':=fun V a m c B ak bg hr=>by
      have:=B0i (W:=W) (base:=w.heap.size) (D8b V (packedN Hw L) a m c) (fun z hz=>by
       rw[List.mem_singleton] at hz;subst hz
       exact .inr ((hr.mono ak).below ((Below.refl _ _).alloc (Nat.le_refl _) _))) (by simp;omega) (by simp) x.number
      exact this
     have bn:∀ V,Below wc.heap.size wc V→Below wc.heap.size wc V∧V.cell? ⟨w.heap.size,1,none⟩=some (.int .i64 x.number):=fun V hV=>⟨hV,(au V (KBT ak hV)).2.1.2.1⟩
     have bh:Below wc.heap.size wc wc.drew:=(Below.refl _ _).drew
     have cw:=bv wc.drew bh
     rw[aw] at t4
     clear e10 ag ah au e2 bv
     go_wp2_with fail
     go_region_held3 (fun V=>Below wc.heap.size wc V∧V.cell? ⟨w.heap.size,1,none⟩=some (.int .i64 x.number)) ((with_reducible refine bn _ ?_;with_reducible (first|exact bh|exact bg|exact B1m bg (Nat.le_refl _) _|exact bt))) ((first|(go_at_call 87;refine cw.mono ?_;rintro e w2 ⟨ap,np,cp,rfl,hr2,hb2⟩;have bg:=KBT bh hb2)|(go_at_call 86;refine(hsz w2 ap np cp _ (Nat.le_trans ac.size bh.size) hb2.size hr2).mono ?_;rintro e w3 ⟨az,nz,cz,rfl,hr3,hb3⟩;have bt:=KBT (B1m bg (Nat.le_refl _) _) hb3)))
     all_goals
      clear hr2
      go_wp2
      go_ret2
      exact⟨az,nz,cz,by rw[HN.out];rfl,by rw[HN.out];exact hr3,KBT ac bt⟩
    ·have aw:x.many=false:=by simpa using aw
     have hne:=ah e10 e2 aw
     obtain⟨b0,bs,aj⟩:∃ b0 bs,v.bits=b0::bs:=by
      cases hbx:v.bits with
      | nil=>exact absurd hbx hne
      | cons b0 bs=>exact⟨b0,bs,rfl⟩
     have HN:Hid (q=([⟨x.number,Hw,A5t x.kind b0,[]⟩],0)):=by show _=_;rw[←Hq.out,A1a,if_neg e10,if_neg (by rw[←ba.out];exact e2),if_neg (by simp[aw]),←ba.out,aj];rfl
     have bk:L[0]?=some (A5t x.kind b0):=by rw[HL.out,aj];rfl
     obtain⟨gb,rfl,hcb⟩:=br.get bk
     have s0:wc.cell? ⟨gb,0,none⟩=some (.int .u64 ((A5t x.kind b0:Nat):Int)):=by simpa [ekU,D8q] using hcb 0 _ rfl
     have di:0<nb:=by rw[br.len];exact(List.getElem?_eq_some_iff.1 bk).1
     have cu:(0:Int)<(nb:Int):=by omega
     obtain⟨y,Hy⟩:∃ y,Hid (A5t x.kind b0=y):=⟨_,rfl⟩
     rw[Hy.out] at s0 HN
     rw[aw] at t4
     clear e10 ag ah au e2 hcb bk aj hne
     have hrow:RecL W (wc.alloc (.cells #[.int .i64 x.number,.int .i64 Hw,.int .u64 (y:Int),.slice none 0 0] 106)).drew w.heap.size (.slice (some ⟨wc.heap.size,0,none⟩) 1 1) [⟨x.number,Hw,y,[]⟩]:=by
      refine⟨[(⟨x.number,Hw,y,[]⟩,(none,0,0))],(Row.one ekR wc (⟨x.number,Hw,y,[]⟩,(none,0,0)) ac.size).keep fun _ _ _=>rfl,rfl,fun r hr=>?_⟩
      rw[List.mem_singleton] at hr
      subst hr
      exact .inl (RdL.nil _ _ _)
     have cg:Below w.heap.size w (wc.alloc (.cells #[.int .i64 x.number,.int .i64 Hw,.int .u64 (y:Int),.slice none 0 0] 106)).drew:=(KBT ac ((Below.refl _ _).alloc (Nat.le_refl _) _)).drew
     go_wp2_with fail
     go_region
     all_goals
      go_wp2_with fail
      go_ret2
      exact⟨_,_,_,by rw[HN.out];rfl,by rw[HN.out];exact hrow,cg⟩
def A2i {β:Type}(deep:List UInt8→β→List UInt8×Int)(fs:List FI):List RI→List (VI β)→List RI×Int
 | acc,[]=>(acc,0)
 | acc,v::r=>if (A1a deep (A0l fs v.number) v).2≠0 then([],(A1a deep (A0l fs v.number) v).2) else A2i deep fs (acc++(A1a deep (A0l fs v.number) v).1) r
theorem C9l {β:Type}{deep:List UInt8→β→List UInt8×Int}{fs:List FI}{l:List (VI β)}{k:Nat}{v:VI β}(h:l[k]?=some v)(acc:List RI):A2i deep fs acc (l.drop k)=if (A1a deep (A0l fs v.number) v).2≠0 then([],(A1a deep (A0l fs v.number) v).2) else A2i deep fs (acc++(A1a deep (A0l fs v.number) v).1) (l.drop (k+1)):=by
 obtain⟨hk,rfl⟩:=List.getElem?_eq_some_iff.1 h
 rw[List.drop_eq_getElem_cons hk]
 rfl
def B4d {β:Type}(deep:List UInt8→β→List UInt8×Int)(m:MI)(b:BO β):List UInt8×Int:=
 if (A2i deep m.fields [] b.vals).2≠0 then([],(A2i deep m.fields [] b.vals).2) else A3n [] ((A2i deep m.fields [] b.vals).1++b.unk)
def D6z:MI:=⟨[],[],[]⟩
def A2j (g:GI)(t:List UInt8):MI:=(g.msgs.find? fun m=>decide (m.name=t)).getD D6z
def A0x (g:GI):(d:Nat)→MI→BI d→List UInt8×Int
 | 0,_,_=>([],0)
 | d+1,m,b=>B4d (fun t x=>A0x g d (A2j g t) x) m b
def D9v {β:Type}(g:GI)(Q:List UInt8→β→Prop)(m:MI)(v:VI β):Prop:=
 (∃ f∈m.fields,f.number=v.number)∧
 ((A0l m.fields v.number).kind≠10→A3z (A0l m.fields v.number).kind≠2→(A0l m.fields v.number).many=false→v.bits≠[])∧
 ((A0l m.fields v.number).kind=10→(∃ mm∈g.msgs,mm.name=(A0l m.fields v.number).type)∧∀ s∈v.subs,Q (A0l m.fields v.number).type s)
def D9h {β:Type}(g:GI)(Q:List UInt8→β→Prop)(m:MI)(b:BO β):Prop:=b.vals.length≤1048576∧∀ v∈b.vals,D9v g Q m v
def D6x (g:GI):(d:Nat)→MI→BI d→Prop
 | 0,_,_=>True
 | d+1,m,b=>D9h g (fun t x=>D6x g d (A2j g t) x) m b
theorem B7l:∀ (l:List RI) (acc:List UInt8),acc.length≤4000→(A3n acc l).1.length≤4000
 | [],acc,h=>h
 | r::l,acc,_=>by
  rw[A3n]
  split
  ·simp
  ·split
   ·simp
   ·exact B7l l _ (by omega)
theorem B0c (g:GI):∀ (d:Nat) (m:MI) (b:BI d),(A0x g d m b).1.length≤4000
 | 0,_,_=>by simp[A0x]
 | _+1,m,b=>by
  show(B4d _ m b).1.length≤4000
  unfold B4d
  split
  ·simp
  ·exact B7l _ _ (by simp)
theorem C1j {β:Type}(f : β→List UInt8×Int)(hf:∀ x,(f x).1.length≤4000):∀ (l:List β) (acc:List (List UInt8)),(∀ z∈acc,z.length≤4000)→(∀ z∈(A4c f acc l).1,z.length≤4000)∧(A4c f acc l).1.length≤acc.length+l.length
 | [],acc,h=>⟨h,by simp[A4c]⟩
 | b::r,acc,h=>by
  rw[A4c]
  split
  ·exact⟨(fun z hz=>by cases hz),by simp⟩
  ·have:=C1j f hf r (acc++[(f b).1]) fun z hz=>by
    rcases List.mem_append.1 hz with hz|hz
    ·exact h z hz
    ·rw[List.mem_singleton] at hz;subst hz;exact hf b
   refine⟨this.1,?_⟩
   have h2:=this.2
   rw[List.length_append] at h2
   simp only[List.length_cons,List.length_nil] at h2 ⊢
   omega
def RSm (r:RI):Prop:=r.bits≤18446744073709551615∧r.bytes.length≤100000000
theorem C2t {β:Type}{Q : β→Prop}(deep:List UInt8→β→List UInt8×Int)(hf:∀ t x,(deep t x).1.length≤4000)(x:FI)(v:VI β)(hv:VSm Q v):(∀ r∈(A1a deep x v).1,RSm r)∧(A1a deep x v).1.length≤1048576:=by
 obtain⟨h1,h2,h3,h4,h5,_⟩:=hv
 unfold A1a
 split
 ·have:=C1j (deep x.type) (hf x.type) v.subs [] (fun z hz=>by cases hz)
  refine⟨fun r hr=>?_,?_⟩
  ·obtain⟨z,hz,rfl⟩:=List.mem_map.1 hr
   have:=this.1 z hz
   exact⟨Nat.zero_le _,by show z.length≤_;omega⟩
  ·rw[List.length_map];have:=this.2;simp only[List.length_nil] at this;omega
 ·split
  ·refine⟨fun r hr=>?_,by rw[List.length_map];exact h3⟩
   obtain⟨z,hz,rfl⟩:=List.mem_map.1 hr
   have:=h4 z hz
   exact⟨Nat.zero_le _,by show z.length≤_;omega⟩
  ·split
   ·refine⟨fun r hr=>?_,by simp⟩
    rw[List.mem_singleton] at hr
    subst hr
    have:=B4s (A3z x.kind) (v.bits.map (A5t x.kind))
    rw[List.length_map] at this
    exact⟨Nat.zero_le _,by show(packedN _ _).length≤_;omega⟩
   ·refine⟨fun r hr=>?_,by simp⟩
    rw[List.mem_singleton] at hr
    subst hr
    refine⟨?_,by simp⟩
    show A5t x.kind (v.bits.headD 0)≤_
    cases hb:v.bits with
    | nil=>exact B0g _ _ (by simp)
    | cons a r=>exact B0g _ _ (h2 a (by rw[hb];simp))
theorem B8w {β:Type}{Q : β→Prop}(deep:List UInt8→β→List UInt8×Int)(hf:∀ t x,(deep t x).1.length≤4000)(fs:List FI):∀ (l:List (VI β)) (acc:List RI),(∀ v∈l,VSm Q v)→(∀ r∈acc,RSm r)→(∀ r∈(A2i deep fs acc l).1,RSm r)∧(A2i deep fs acc l).1.length≤acc.length+l.length*1048576
 | [],acc,_,h=>⟨h,by simp[A2i]⟩
 | v::r,acc,hv,h=>by
  rw[A2i]
  split
  ·exact⟨(fun z hz=>by cases hz),by simp⟩
  ·have h0:=C2t deep hf (A0l fs v.number) v (hv v (by simp))
   have:=B8w deep hf fs r (acc++(A1a deep (A0l fs v.number) v).1) (fun v hv'=>hv v (List.mem_cons_of_mem _ hv')) fun z hz=>by
    rcases List.mem_append.1 hz with hz|hz
    ·exact h z hz
    ·exact h0.1 z hz
   refine⟨this.1,?_⟩
   have h2:=this.2
   rw[List.length_append] at h2
   have h3:=h0.2
   rw[List.length_cons,Nat.succ_mul]
   omega
theorem C8h {l:List MI}{t:List UInt8}(h:∃ m∈l,m.name=t):∃ k:Nat,A0k (fun m=>decide (m.name=t)) l=(k:Int)∧l[k]?=some ((l.find? fun m=>decide (m.name=t)).getD D6z)∧((l.find? fun m=>decide (m.name=t)).getD D6z).name=t∧(l.find? fun m=>decide (m.name=t)).getD D6z∈l:=by
 unfold A0k
 induction l with
 | nil=>obtain⟨f,hf,_⟩:=h;cases hf
 | cons a r ih=>
  by_cases ha:a.name=t
  ·refine⟨0,?_,?_,?_,?_⟩ <;> simp[List.findIdx?_cons,ha]
  ·have h':∃ f∈r,f.name=t:=by
    obtain⟨f,hf,hn⟩:=h
    rcases List.mem_cons.1 hf with rfl|hf
    ·exact absurd hn ha
    ·exact⟨f,hf,hn⟩
   obtain⟨k,h1,h2,h3,h4⟩:=ih h'
   have e:(a::r).find? (fun f=>decide (f.name=t))=r.find? fun f=>decide (f.name=t):=by simp[ha]
   rw[e]
   refine⟨k+1,?_,by simpa using h2,h3,List.mem_cons_of_mem _ h4⟩
   rw[List.findIdx?_cons]
   simp only[ha,decide_false,Bool.false_eq_true,if_false]
   cases hx:r.findIdx? (fun f=>decide (f.name=t)) with
   | none=>rw[hx] at h1;simp at h1
   | some j=>rw[hx] at h1;simp at h1 ⊢;omega
theorem D7q {g:GI}{t:List UInt8}(h:∃ m∈g.msgs,m.name=t):∃ k:Nat,A0k (fun m=>decide (m.name=t)) g.msgs=(k:Int)∧g.msgs[k]?=some (A2j g t)∧(A2j g t).name=t∧A2j g t∈g.msgs:=C8h h
def OSw {β:Type}(Q : β→Prop)(b:BO β):Prop:=(∀ v∈b.vals,VSm Q v)∧b.unk.length*48≤reachBytes∧∀ r∈b.unk,r.bits≤18446744073709551615∧r.bytes.length≤1048576
def BSw:(d:Nat)→BI d→Prop
 | 0=>fun _=>True
 | d+1=>fun b=>OSw (BSw d) b
def B1n (g:GI)(d:Nat):Prop:=∀ (w:World) (vm ve vf vb v0 v1:Value) (m:MI) (b:BI d),GRd w vm ve g→RdL 6 FAt w vf m.fields→RdL 1 NAt w vb m.barred→KQ d w v0 v1 b→BSw d b→D6x g d m b→
 Calls Tryz.prog 19 #[.agg #[vm,ve],.agg #[.string (S m.name),vf,vb],.agg #[v0,v1]] w fun e w'=>∃ ao n c,e = .returned (.tuple #[.slice ao n c,.int .i64 (A0x g d m b).2])∧Row ekY w' w.heap.size (.slice ao n c) (A0x g d m b).1∧Below w.heap.size w w'
end L
end Go.Proofs.YtgaoojpakjjdnaaGreatDoor
