import Derived.Test.YtgaoojpakjjdnaaGreatDoorX31
set_option maxHeartbeats 32000000
set_option maxRecDepth 100000
namespace Go.Proofs.YtgaoojpakjjdnaaGreatDoor
namespace L
open Go.RowKit
def A2v {β:Type}(deep:List UInt8→β→List UInt8×Int)(fs:List FI):List RI→List (VI β)→List RI×Int
 | acc,[]=>(acc,0)
 | acc,v::r=>if (A3e deep (A0h fs v.number) v).2≠0 then([],(A3e deep (A0h fs v.number) v).2) else A2v deep fs (acc++(A3e deep (A0h fs v.number) v).1) r
def A9c {β:Type}(deep:List UInt8→β→List UInt8×Int)(m:MI)(b:BO β):List UInt8×Int:=
 if (A2v deep m.fields [] b.vals).2≠0 then([],(A2v deep m.fields [] b.vals).2) else A9f [] ((A2v deep m.fields [] b.vals).1++b.unk)
def E0m:MI:=⟨[],[],[]⟩
def A4f (g:GI)(t:List UInt8):MI:=(g.msgs.find? fun m=>decide (m.name=t)).getD E0m
def A1t (g:GI):(d:Nat)→MI→BI d→List UInt8×Int
 | 0,_,_=>([],0)
 | d+1,m,b=>A9c (fun t x=>A1t g d (A4f g t) x) m b
theorem B8a:∀ (l:List RI) (acc:List UInt8),acc.length≤4000→(A9f acc l).1.length≤4000
 | [],acc,h=>h
 | r::l,acc,_=>by
  rw[A9f]
  split
  ·simp
  ·split
   ·simp
   ·exact B8a l _ (by omega)
theorem C0c (g:GI):∀ (d:Nat) (m:MI) (b:BI d),(A1t g d m b).1.length≤4000
 | 0,_,_=>by simp[A1t]
 | _+1,m,b=>by
  show(A9c _ m b).1.length≤4000
  unfold A9c
  split
  ·simp
  ·exact B8a _ _ (by simp)
theorem D1t {β:Type}(f : β→List UInt8×Int)(hf:∀ x,(f x).1.length≤4000):∀ (l:List β) (acc:List (List UInt8)),(∀ z∈acc,z.length≤4000)→(∀ z∈(A5q f acc l).1,z.length≤4000)∧(A5q f acc l).1.length≤acc.length+l.length
 | [],acc,h=>⟨h,by simp[A5q]⟩
 | b::r,acc,h=>by
  rw[A5q]
  split
  ·exact⟨(fun z hz=>by cases hz),by simp⟩
  ·have:=D1t f hf r (acc++[(f b).1]) fun z hz=>by
    rcases List.mem_append.1 hz with hz|hz
    ·exact h z hz
    ·rw[List.mem_singleton] at hz;subst hz;exact hf b
   refine⟨this.1,?_⟩
   have h2:=this.2
   rw[List.length_append] at h2
   simp only[List.length_cons,List.length_nil] at h2 ⊢
   omega
theorem D8v {l:List MI}{t:List UInt8}(h:∃ m∈l,m.name=t):∃ k:Nat,A0g (fun m=>decide (m.name=t)) l=(k:Int)∧l[k]?=some ((l.find? fun m=>decide (m.name=t)).getD E0m)∧((l.find? fun m=>decide (m.name=t)).getD E0m).name=t∧(l.find? fun m=>decide (m.name=t)).getD E0m∈l:=by
 unfold A0g
 induction l with
 | nil=>obtain⟨f,hf,_⟩:=h;cases hf
 | cons a r ih=>
  by_cases ha:a.name=t
  ·refine⟨0,?_,?_,?_,?_⟩ <;> simp[List.findIdx?_cons,ha]
  ·have h':∃ f∈r,f.name=t:=by
    obtain⟨f,hf,hn⟩:=h
    rcases List.mem_cons.1 hf with rfl|hf
    ·exact absurd hn ha
    ·exact⟨f,hf,hn⟩
   obtain⟨k,h1,h2,h3,h4⟩:=ih h'
   have e:(a::r).find? (fun f=>decide (f.name=t))=r.find? fun f=>decide (f.name=t):=by simp[ha]
   rw[e]
   refine⟨k+1,?_,by simpa using h2,h3,List.mem_cons_of_mem _ h4⟩
   rw[List.findIdx?_cons]
   simp only[ha,decide_false,Bool.false_eq_true,if_false]
   cases hx:r.findIdx? (fun f=>decide (f.name=t)) with
   | none=>rw[hx] at h1;simp at h1
   | some j=>rw[hx] at h1;simp at h1 ⊢;omega
theorem D7f {g:GI}{t:List UInt8}(h:∃ m∈g.msgs,m.name=t):∃ k:Nat,A0g (fun m=>decide (m.name=t)) g.msgs=(k:Int)∧g.msgs[k]?=some (A4f g t)∧(A4f g t).name=t∧A4f g t∈g.msgs:=D8v h
theorem E1x (x:FI):A3d x=4↔x.kind=10:=by
 unfold A3d
 constructor
 ·intro h
  split at h
  ·assumption
  ·split at h
   ·cases h
   ·split at h <;> cases h
 ·intro h
  rw[if_pos h]
def tv (s:TI):Value:=.agg #[.int .i64 s.kind,.int .i64 s.number,.int .i64 s.how,.int .i64 s.field,.int .i64 s.next]
def E2o (s:TI):List Value:=[.int .i64 s.kind,.int .i64 s.number,.int .i64 s.how,.int .i64 s.field,.int .i64 s.next]
def ekP:EK TI where
 elem:=122
 slice:=76
 size:=5
 bytes:=40
 zero:=.agg #[.int .i64 0,.int .i64 0,.int .i64 0,.int .i64 0,.int .i64 0]
 enc:=E2o
 under:=Tryz.underlying76
 info:=by kernel_rfl
 zs:=rfl
 pos:=by decide
 small:=by decide
 len:=fun _=>rfl
 one:=by intro a u hu;simp only[E2o,List.mem_cons,List.mem_nil_iff,or_false] at hu;rcases hu with rfl|rfl|rfl|rfl|rfl <;> rfl
abbrev KV:=Option Addr×Nat×Nat
def KV.v (p:KV):Value:=.slice p.1 p.2.1 p.2.2
def E2p (p:List TI×KV):List Value:=[p.2.v]
def ekQ:EK (List TI×KV) where
 elem:=76
 slice:=48
 size:=1
 bytes:=24
 zero:=.slice none 0 0
 enc:=E2p
 under:=Tryz.underlying48
 info:=by kernel_rfl
 zs:=rfl
 pos:=by decide
 small:=by decide
 len:=fun _=>rfl
 one:=by intro a u hu;simp only[E2p,List.mem_singleton] at hu;subst hu;rfl
def StAt (w:World)(x:Addr)(s:TI):Prop:=w.cell? x=some (.int .i64 s.kind)∧w.cell? (x.add 1)=some (.int .i64 s.number)∧w.cell? (x.add 2)=some (.int .i64 s.how)∧w.cell? (x.add 3)=some (.int .i64 s.field)∧w.cell? (x.add 4)=some (.int .i64 s.next)
def PrAt (w:World)(x:Addr)(p:List TI):Prop:=∃ v,w.cell? x=some v∧RdL 5 StAt w v p
theorem StAt.stays:A4p StAt:=fun _ _ _ _ hb h=>⟨A0c hb h.1,A0c hb h.2.1,A0c hb h.2.2.1,A0c hb h.2.2.2.1,A0c hb h.2.2.2.2⟩
theorem PrAt.stays:A4p PrAt:=fun _ _ _ _ hb ⟨v,h,r⟩=>⟨v,A0c hb h,r.below StAt.stays hb⟩
theorem StAt.plain:A8j StAt:=fun _ _ _ _ _ h=>A1n h.1
theorem PrAt.plain:A8j PrAt:=fun _ _ _ _ _ ⟨_,h,_⟩=>A1n h
theorem StAt.at {w:World}{b o:Nat}{s:TI}(h:StAt w ⟨b,o,none⟩ s):w.cell? ⟨b,o,none⟩=some (.int .i64 s.kind)∧w.cell? ⟨b,o+1,none⟩=some (.int .i64 s.number)∧w.cell? ⟨b,o+2,none⟩=some (.int .i64 s.how)∧w.cell? ⟨b,o+3,none⟩=some (.int .i64 s.field)∧w.cell? ⟨b,o+4,none⟩=some (.int .i64 s.next):=by
 simp only[StAt,A0d] at h;exact h
theorem Row.rdP {w:World}{base:Nat}{v:Value}{l:List TI}(h:Row ekP w base v l):RdL 5 StAt w v l:=h.rd StAt fun g i a hc=>by
 have h0:=hc 0 _ rfl
 refine⟨by simpa using h0,?_,?_,?_,?_⟩
 ·rw[A0d];exact hc 1 _ rfl
 ·rw[A0d];exact hc 2 _ rfl
 ·rw[A0d];exact hc 3 _ rfl
 ·rw[A0d];exact hc 4 _ rfl
structure OwnQ (w:World) (base:Nat) (v:Value) (l:List (List TI×KV)):Prop where
 row:Row ekQ w base v l
 each:∀ p∈l,Row ekP w base p.2.v p.1
theorem OwnQ.below {w w':World}{base:Nat}{v:Value}{l:List (List TI×KV)}(h:OwnQ w base v l)(hb:Below w.heap.size w w'):OwnQ w' base v l:=⟨h.row.below hb,fun p hp=>(h.each p hp).below hb⟩
theorem OwnQ.mono {w:World}{base base':Nat}{v:Value}{l:List (List TI×KV)}(h:OwnQ w base v l)(hb:base'≤base):OwnQ w base' v l:=⟨h.row.mono hb,fun p hp=>(h.each p hp).mono hb⟩
theorem OwnQ.rd {w:World}{base:Nat}{v:Value}{l:List (List TI×KV)}(h:OwnQ w base v l):RdL 1 PrAt w v (l.map Prod.fst):=by
 refine D0u (P:=fun w x (p:List TI×KV)=>w.cell? x=some p.2.v) Prod.fst (h.row.rd _ fun g i a hc=>?_) ?_
 ·have:=hc 0 _ rfl
  simpa using this
 ·intro x p hp h0
  exact⟨p.2.v,h0,(h.each p hp).rdP⟩
theorem OwnQ.low {w:World}{base g:Nat}{v:Value}{l:List (List TI×KV)}(h:OwnQ w base v l)(hg:g<base)(i:Nat)(x:Value):OwnQ (w.setCell ⟨g,i,none⟩ x) base v l:=⟨h.row.low hg i x,fun p hp=>(h.each p hp).low hg i x⟩
theorem B3m {w:World}{v:Value}{ls:List (List UInt8)}(h:RdL 1 ZAt w v ls)(num:Int)(bh:0≤num)(bk:num≤536870912)(hl:(A2a num ls).length≤5000000000000) :
  Calls Tryz.prog 202 #[.int .i64 num,v] w fun e w'=>∃ ao n cap,e = .returned (.slice ao n cap)∧Row ekY w' w.heap.size (.slice ao n cap) (A2a num ls)∧Below w.heap.size w w':=by
 obtain⟨a1,n1,c1,rfl,H1,_⟩:=h.shape
 obtain⟨f,Hf⟩:∃ f:List UInt8→List UInt8,Hid (f=fun b=>ktagN num 2++A6l b.length++b):=⟨_,rfl⟩
 have HS:Hid (A2a num ls=ls.flatMap f):=by show _=_;rw[Hf.out];rfl
 have bp:(ls.flatMap f).length≤5000000000000:=by rw[←HS.out];exact hl
 go_enter Tryz.func202,Tryz.ntmps202
 go_wp2_with fail
 go_loopg [5,10] n1 (fun m u i wr=>∃ (k:Nat) (ao:Option Addr) (no co:Nat),k+m=n1∧i = .int .i64 k∧u = .slice ao no co∧Row ekY wr w.heap.size (.slice ao no co) ((ls.take k).flatMap f)∧Below w.heap.size w wr)
 case atStart=>exact⟨0,none,0,0,by omega,rfl,rfl,by rw[List.take_zero];exact Row.nil _ _ _,Below.refl _ _⟩
 case round=>
  obtain⟨k,ao,no,co,hk,rfl,rfl,hr,hb⟩:=hrel
  by_cases hlt:k<n1
  ·obtain⟨x,Hx⟩:∃ x,Hid (ls[k]?=some x):=⟨ls[k]'(by rw[←H1.out];exact hlt),List.getElem?_eq_getElem (by rw[←H1.out];exact hlt)⟩
   obtain⟨b,off,rfl,hat⟩:=h.get ZAt.plain Hx.out
   obtain⟨vx,a8,ah⟩:=hat.at
   have s0:=A0c hb a8
   obtain⟨ax,nx,cx,rfl,aj,bt⟩:=ah.shape
   have bv:wr.cell? ⟨b,off+k,none⟩=some (.slice ax nx cx):=by simpa using s0
   have br:(k:Int)<(n1:Int):=by omega
   have bu:=B1d f ls k
   have au:=B1d f ls (k+1)
   rw[A6e Hx.out,List.length_append] at au
   have bq:(f x).length=(ktagN num 2).length+(A6l x.length).length+x.length:=by rw[Hf.out];simp[Nat.add_assoc]
   have aw:=B6n w.heap.size _ _ num 2 wr hr hb.size bh bk (by decide) (by decide) (by omega)
   clear s0 hat a8
   go_wp2_with fail
   refine aw.mono ?_
   rintro e w2 ⟨v2,rfl,hr2,hb2⟩
   obtain⟨a2,n2,c2,rfl,_⟩:=hr2.shape'
   have ag:Below w.heap.size w w2:=hb.trans hb2
   have hput:=B1s w.heap.size _ _ x.length w2 hr2 ag.size (by rw[←aj.out];omega) (by rw[List.length_append];omega)
   rw[←aj.out] at hput
   clear aw hr
   go_wp2_with fail
   refine hput.mono ?_
   rintro e w3 ⟨v3,rfl,hr3,hb3⟩
   obtain⟨a3,n3,c3,rfl,_⟩:=hr3.shape'
   have ac:Below w.heap.size w w3:=ag.trans hb3
   obtain⟨q1,q2,q3⟩:=C1e (ah.below YAt.stays ac)
   clear hput hr2
   go_wp2_with (at_builtin;refine A1o (by rfl) ekY _ _ (by rfl) w.heap.size (.slice a3 n3 c3) _ x (by rfl) hr3 ax nx cx (by rfl) q1 q2 q3 (by decide) ?d2 ac.size ?_)
   case d2=>
    rw[show ekY.bytes=1 from rfl,Nat.mul_one,aj.out]
    simp only[List.length_append]
    omega
   intro v' w4 hr4 hg4
   obtain⟨a4,n4,c4,rfl,_⟩:=hr4.shape'
   have bg:Below w.heap.size w w4:=ac.grown hg4 ac.size (fun k hk=>(hr3.own k hk).1)
   have ak:Row ekY w4 w.heap.size (.slice a4 n4 c4) ((ls.take (k+1)).flatMap f):=by
    rw[A6e Hx.out,Hf.out]
    rw[Hf.out] at hr4
    simp only[List.append_assoc] at hr4 ⊢
    rw[aj.out] at hr4
    exact hr4
   clear hr4
   go_wp2_with fail
   go_roundg (n1-(k+1))
   case measure=>omega
   case rel=>exact⟨k+1,a4,n4,c4,by omega,by go_num,rfl,ak,bg⟩
  ·have hr1:Row ekY wr w.heap.size (.slice ao no co) (A2a num ls):=by
    rw[List.take_of_length_le (by rw[←H1.out];omega)] at hr;rw[HS.out];exact hr
   clear hr
   go_wp2
   go_ret
   exact⟨ao,no,co,rfl,hr1,hb⟩
theorem C6y {w:World}{v:Value}{l:List Nat}(h:RdL 1 UAt w v l)(hm:∀ n∈l,n≤18446744073709551615)(hl:l.length≤10000000000)(s:TI)(cj:0≤s.number)(cu:s.number≤536870912)(bv:0≤s.how)(bw:s.how≤7) :
  Calls Tryz.prog 201 #[tv s,v] w fun e w'=>∃ ao n cap,e = .returned (.slice ao n cap)∧Row ekY w' w.heap.size (.slice ao n cap) (A8x s l)∧Below w.heap.size w w':=by
 obtain⟨a1,n1,c1,rfl,H1,_⟩:=h.shape
 obtain⟨W0,ah⟩:∃ W0,Hid (W0=w.alloc (.cells #[.int .i64 s.kind,.int .i64 s.number,.int .i64 s.how,.int .i64 s.field,.int .i64 s.next] 122)):=⟨_,rfl⟩
 have hb0:Below w.heap.size w W0:=by rw[ah.out];exact(Below.refl _ _).alloc (Nat.le_refl _) _
 have hz0:w.heap.size+1≤W0.heap.size:=by rw[ah.out];simp
 have x0:W0.heap[w.heap.size]?=some (.cells #[.int .i64 s.kind,.int .i64 s.number,.int .i64 s.how,.int .i64 s.field,.int .i64 s.next] 122 (0,0)):=by rw[ah.out];exact heap_alloc_new _ _
 have bk:=C2l (h.below UAt.stays hb0) hm (by omega) s.field
 obtain⟨f,Hf⟩:∃ f:Nat→List UInt8,Hid (f=fun y=>ktagN s.number s.how++packedN s.how [y]):=⟨_,rfl⟩
 have HS:Hid (A8x s l=(l.map (A4o s.field)).flatMap f):=by
  show _=_;rw[Hf.out,List.flatMap_map];rfl
 have bt:∀ y,(f y).length≤20:=fun y=>by
  rw[Hf.out,List.length_append]
  have:=A5g s.number s.how
  have:=A8t s.how y
  omega
 unfold tv
 go_enter Tryz.func201,Tryz.ntmps201
 go_wp2_with fail
 rw[←ah.out]
 refine bk.mono ?_
 rintro e W1 ⟨ab,nb,cb,rfl,aj,hb1⟩
 have ac:Hid (nb=(l.map (A4o s.field)).length):=aj.len
 have dg:nb≤10000000000:=by rw[ac.out,List.length_map];exact hl
 have aw:Below w.heap.size w W1:=KBT hb0 hb1
 have hz1:=hb1.size
 have x1:=(hb1.block _ (by omega)).trans x0
 have hle:∀ y∈l.map (A4o s.field),y≤18446744073709551615:=fun y hy=>by
  obtain⟨n,hn,rfl⟩:=List.mem_map.1 hy
  exact B2f _ _ (hm n hn)
 obtain⟨L,HL⟩:∃ L,Hid (L=l.map (A4o s.field)):=⟨_,rfl⟩
 rw[←HL.out] at aj ac hle HS
 have cw:=aj.rdU
 clear bk aj
 go_wp2_with fail
 go_loopg [5,13] nb (fun m u i wr=>∃ (k:Nat) (ao:Option Addr) (no co:Nat),k+m=nb∧i = .int .i64 k∧u = .slice ao no co∧Row ekY wr W1.heap.size (.slice ao no co) ((L.take k).flatMap f)∧Below W1.heap.size W1 wr)
 case atStart=>exact⟨0,none,0,0,by omega,rfl,rfl,by rw[List.take_zero];exact Row.nil _ _ _,Below.refl _ _⟩
 case round=>
  obtain⟨k,ao,no,co,hk,rfl,rfl,hr,hb⟩:=hrel
  by_cases hlt:k<nb
  ·obtain⟨x,Hx⟩:∃ x,Hid (L[k]?=some x):=⟨L[k]'(by rw[←ac.out];exact hlt),List.getElem?_eq_getElem (by rw[←ac.out];exact hlt)⟩
   obtain⟨b,off,rfl,hat⟩:=(cw.below UAt.stays hb).get UAt.plain Hx.out
   have s0:wr.cell? ⟨b,off+k,none⟩=some (.int .u64 (x:Int)):=by simpa [UAt] using hat
   have df:(k:Int)<(nb:Int):=by omega
   have hlk:((L.take k).flatMap f).length≤200000000000:=by
    have:=B2r (l:=L.take k) (f:=f) (c:=20) fun a _=>bt a
    rw[List.length_take] at this
    omega
   obtain⟨t0,t1,t2,t3,t4⟩:=C4r ((hb.block _ (by omega)).trans x1)
   have bq:=B6n W1.heap.size _ _ s.number s.how wr hr hb.size cj cu bv bw (by omega)
   clear hat
   go_wp2_with fail
   refine bq.mono ?_
   rintro e w2 ⟨v2,rfl,hr2,hb2⟩
   obtain⟨a2,n2,c2,rfl,_⟩:=hr2.shape'
   have bh:Below W1.heap.size W1 w2:=hb.trans hb2
   obtain⟨p0,p1,p2,p3,p4⟩:=C4r ((bh.block _ (by omega)).trans x1)
   obtain⟨W3,ak⟩:∃ W3,Hid (W3=w2.alloc (.cells #[.int .u64 (x:Int)] 63)):=⟨_,rfl⟩
   have hb3:Below w2.heap.size w2 W3:=by rw[ak.out];exact(Below.refl _ _).alloc (Nat.le_refl _) _
   have bp:=B4v (w:=W3) (l:=[x]) (by rw[ak.out];exact E0j w2 x) (fun n hn=>by rw[List.mem_singleton] at hn;subst hn;exact hle _ (List.mem_of_getElem? Hx.out)) (by simp) s.how
   have cg:((L.take k).flatMap f++ktagN s.number s.how).length≤200000000010:=by rw[List.length_append];have:=A5g s.number s.how;omega
   clear bq hr t0 t1 t2 t3 t4
   go_wp2_with fail
   rw[←ak.out]
   refine bp.mono ?_
   rintro e w4 ⟨a4,n4,c4,rfl,hr4,hb4⟩
   have au:Below W1.heap.size W1 w4:=KBT (KBT bh hb3) hb4
   have ag:Row ekY w4 W1.heap.size (.slice a2 n2 c2) ((L.take k).flatMap f++ktagN s.number s.how):=(hr2.below hb3).below hb4
   obtain⟨q1,q2,q3⟩:=C1e hr4.rdY
   have dh:=A8t s.how x
   clear bp hr2
   go_wp2_with (at_builtin;refine A1o (by rfl) ekY _ _ (by rfl) W1.heap.size (.slice a2 n2 c2) _ (packedN s.how [x]) (by rfl) ag a4 n4 c4 (by rfl) q1 q2 q3 (by decide) ?d2 au.size ?_)
   case d2=>
    rw[show ekY.bytes=1 from rfl,Nat.mul_one]
    omega
   intro v' w5 a8 bu
   obtain⟨a5,n5,c5,rfl,_⟩:=a8.shape'
   have br:Below W1.heap.size W1 w5:=au.grown bu au.size (fun k hk=>(ag.own k hk).1)
   have bg:Row ekY w5 W1.heap.size (.slice a5 n5 c5) ((L.take (k+1)).flatMap f):=by
    rw[A6e Hx.out]
    have e:f x=ktagN s.number s.how++packedN s.how [x]:=by rw[Hf.out]
    rw[e]
    exact a8
   clear a8
   go_wp2_with fail
   go_roundg (nb-(k+1))
   case measure=>omega
   case rel=>exact⟨k+1,a5,n5,c5,by omega,by go_num,rfl,bg,br⟩
  ·have hr1:Row ekY wr W1.heap.size (.slice ao no co) (A8x s l):=by
    rw[List.take_of_length_le (by rw[←ac.out];omega)] at hr;rw[HS.out];exact hr
   clear hr
   go_wp2
   go_ret
   exact⟨ao,no,co,rfl,hr1.mono (by omega),KBT aw (by exact hb)⟩
theorem C2e {w:World}{v:Value}{l:List RI}(h:RdL 4 RAt w v l)(hl:l.length≤1048576)(hs:∀ r∈l,r.bits≤18446744073709551615∧r.bytes.length≤1048576) :
  Calls Tryz.prog 66 #[v] w fun e w'=>∃ ao n cap,e = .returned (.tuple #[.slice ao n cap,.int .i64 (A4n [] l).2])∧Row ekY w' w.heap.size (.slice ao n cap) (A4n [] l).1∧Below w.heap.size w w':=by
 obtain⟨a1,n1,c1,rfl,H1,_⟩:=h.shape
 have bu:n1≤1048576:=by rw[H1.out];exact hl
 obtain⟨q,Hq⟩:∃ q,Hid (A4n [] l=q):=⟨_,rfl⟩
 rw[Hq.out]
 go_enter Tryz.func66,Tryz.ntmps66
 go_wp2_with fail
 go_loopg [4,10] n1 (fun m u i wr=>∃ (k:Nat) (ao:Option Addr) (no co:Nat) (acc:List UInt8),k+m=n1∧i = .int .i64 k∧u = .slice ao no co∧Row ekY wr w.heap.size (.slice ao no co) acc∧acc.length≤k*1048600∧Hid (A4n acc (l.drop k)=q)∧Below w.heap.size w wr)
 case atStart=>exact⟨0,none,0,0,[],by omega,rfl,rfl,Row.nil _ _ _,by simp,Hq,Below.refl _ _⟩
 case round=>
  obtain⟨k,ao,no,co,acc,hk,rfl,rfl,hr,a8,HK,hb⟩:=hrel
  by_cases hlt:k<n1
  ·obtain⟨x,Hx⟩:∃ x,Hid (l[k]?=some x):=⟨l[k]'(by rw[←H1.out];exact hlt),List.getElem?_eq_getElem (by rw[←H1.out];exact hlt)⟩
   obtain⟨b,off,rfl,hat⟩:=(h.below RAt.stays hb).get RAt.plain Hx.out
   obtain⟨vx,s0,s1,s2,s3,ak⟩:=hat.at
   obtain⟨ax,nx,cx,rfl,aj,bq⟩:=ak.shape
   have bt:(k:Int)<(n1:Int):=by omega
   obtain⟨bg,hlx⟩:=hs x (List.mem_of_getElem? Hx.out)
   obtain⟨W1,ah⟩:∃ W1,Hid (W1=wr.alloc (.cells #[.int .i64 x.number,.int .i64 x.how,.int .u64 (x.bits:Int),.slice ax nx cx] 106)):=⟨_,rfl⟩
   have hb1:Below wr.heap.size wr W1:=by rw[ah.out];exact(Below.refl _ _).alloc (Nat.le_refl _) _
   have hz1:wr.heap.size+1≤W1.heap.size:=by rw[ah.out];simp
   have x1:W1.heap[wr.heap.size]?=some (.cells #[.int .i64 x.number,.int .i64 x.how,.int .u64 (x.bits:Int),.slice ax nx cx] 106 (0,0)):=by rw[ah.out];exact heap_alloc_new _ _
   have hwr:=B0g x.number x.how x.bits ax nx cx W1 bq
   rw[aj.out] at hwr
   have HS:=D6g Hx.out acc
   obtain⟨E,HE⟩:∃ E,Hid (A1c x.number x.how x.bits x.bytes.length=E):=⟨_,rfl⟩
   rw[HE.out] at hwr HS
   rw[←aj.out] at hwr
   clear hat
   by_cases hE:E=0
   ·have aw:(E != 0)=false:=by simp[hE]
    obtain⟨bh,bk,bp⟩:=D2s (HE.out.trans hE)
    have ac:Hid (A4n (acc++recN x.number x.how x.bits x.bytes) (l.drop (k+1))=q):=by
     show _=_;rw[←HK.out,HS,if_neg (by simp[hE])]
    have br:=B7a x.number x.how x.bits x.bytes
    clear hE HS
    go_wp2_with fail
    rw[←ah.out]
    refine hwr.mono ?_
    rintro e w2 ⟨rfl,hb2⟩
    obtain⟨t0,t1,t2,t3⟩:=D3c ((hb2.block _ (by omega)).trans x1)
    have ag:Below wr.heap.size wr w2:=KBT hb1 hb2
    have had:=D4h (ak.below YAt.stays ag) x.number x.how x.bits bg (by omega) (by omega) (by omega) (by omega) (by omega) (hr.below ag) (Nat.le_trans hb.size ag.size) (by omega)
    clear hwr hr
    go_wp2_with fail
    refine had.mono ?_
    rintro e w3 ⟨a3,n3,c3,rfl,hr3,hb3⟩
    have au:Below w.heap.size w w3:=(KBT hb ag).trans hb3
    go_wp2_with fail
    go_roundg (n1-(k+1))
    case measure=>omega
    case rel=>exact⟨k+1,a3,n3,c3,_,by omega,by go_num,rfl,hr3,by rw[List.length_append];omega,ac,au⟩
   ·have aw:(E != 0)=true:=by simpa using hE
    have ac:Hid (q=([],E)):=by
     show _=_;rw[←HK.out,HS,if_pos hE]
    clear hE HS
    go_wp2_with fail
    rw[←ah.out]
    refine hwr.mono ?_
    rintro e w2 ⟨rfl,hb2⟩
    have ag:Below w.heap.size w w2:=KBT hb (KBT hb1 hb2)
    go_wp2
    go_ret2
    exact⟨none,0,0,by rw[ac.out];rfl,by rw[ac.out];exact Row.nil _ _ _,ag⟩
  ·have ac:Hid (q=(acc,0)):=by
    show _=_;rw[←HK.out,List.drop_of_length_le (by rw[←H1.out];omega)];rfl
   go_wp2
   go_ret2
   exact⟨ao,no,co,by rw[ac.out];rfl,by rw[ac.out];exact hr,hb⟩
theorem C1a (k:Int)(w:World):Calls Tryz.prog 83 #[.int .i64 k] w fun e w'=>e = .returned (.int .i64 (A2e k))∧w=w':=by
 by_cases h:k=6∨k=7∨k=8∨k=9∨k=10
 ·rcases h with rfl|rfl|rfl|rfl|rfl
  all_goals
   go_enter Tryz.func83,Tryz.ntmps83
   go_wp2
   go_ret
   exact⟨rfl,rfl⟩
 ·have e:A2e k=0:=by unfold A2e;rw[if_neg (by omega),if_neg (by omega),if_neg (by omega)]
  rw[e]
  have b6:(k==6)=false:=beq_eq_false_iff_ne.2 (by omega)
  have b7:(k==7)=false:=beq_eq_false_iff_ne.2 (by omega)
  have b8:(k==8)=false:=beq_eq_false_iff_ne.2 (by omega)
  have b9:(k==9)=false:=beq_eq_false_iff_ne.2 (by omega)
  have ac:(k==10)=false:=beq_eq_false_iff_ne.2 (by omega)
  clear e h
  go_enter Tryz.func83,Tryz.ntmps83
  go_wp2
  go_ret
  exact⟨rfl,rfl⟩
theorem C5w (x:FI)(w:World):Calls Tryz.prog 139 #[fv x] w fun e w'=>e = .returned (.int .i64 (A3d x))∧Below w.heap.size w w':=by
 have ac:=(Below.refl w.heap.size w).alloc (Nat.le_refl _) (.cells #[.string (S x.name),.int .i64 x.number,.int .i64 x.kind,.string (S x.type),.bool x.many,.int .i64 x.choice] 40)
 unfold fv
 by_cases h10:x.kind=10
 ·have HN:Hid (A3d x=4):=by show _=_;unfold A3d;rw[if_pos h10]
  have hk:(x.kind==10)=true:=by simp[h10]
  clear h10
  go_enter Tryz.func139,Tryz.ntmps139
  go_wp2
  go_ret
  exact⟨by rw[HN.out];rfl,ac⟩
 ·have hk:(x.kind==10)=false:=by simp[h10]
  have hh:=C1a x.kind
  by_cases h2:A2e x.kind=2
  ·have HN:Hid (A3d x=3):=by show _=_;unfold A3d;rw[if_neg h10,if_pos h2]
   clear h10
   rw[h2] at hh
   clear h2
   go_enter Tryz.func139,Tryz.ntmps139
   go_wp2_with fail
   refine(hh _).mono ?_
   rintro e w1 ⟨rfl,rfl⟩
   go_wp2
   go_ret
   exact⟨by rw[HN.out];rfl,ac⟩
  ·obtain⟨y,Hy⟩:∃ y,Hid (A2e x.kind=y):=⟨_,rfl⟩
   have hy:(y==2)=false:=by rw[←Hy.out];simp[h2]
   rw[Hy.out] at hh
   by_cases hm:x.many=true
   rotate_right
   focus
    have HN:Hid (A3d x=1):=by show _=_;unfold A3d;rw[if_neg h10,if_neg h2,if_neg hm]
    have hm:x.many=false:=by simpa using hm
   rotate_right
   focus
    have HN:Hid (A3d x=2):=by show _=_;unfold A3d;rw[if_neg h10,if_neg h2,if_pos hm]
   all_goals
    rw[hm] at ac
    clear h10 h2
    go_enter Tryz.func139,Tryz.ntmps139
    go_wp2_with fail
    refine(hh _).mono ?_
    rintro e w1 ⟨rfl,rfl⟩
    go_wp2
    go_ret
    exact⟨by rw[HN.out];rfl,ac⟩
theorem C1k (s:TI)(w:World):Calls Tryz.prog 199 #[tv s] w fun e w'=>e = .returned (.bool (D7e s))∧Below w.heap.size w w':=by
 have ac:=(Below.refl w.heap.size w).alloc (Nat.le_refl _) (.cells #[.int .i64 s.kind,.int .i64 s.number,.int .i64 s.how,.int .i64 s.field,.int .i64 s.next] 122)
 have ah:=C1a s.field
 obtain⟨y,Hy⟩:∃ y,Hid (A2e s.field=y):=⟨_,rfl⟩
 rw[Hy.out] at ah
 obtain⟨q3,ak⟩:∃ q,(s.kind==3)=q:=⟨_,rfl⟩
 obtain⟨q4,aj⟩:∃ q,(s.kind==4)=q:=⟨_,rfl⟩
 obtain⟨q2,a8⟩:∃ q,(s.how==2)=q:=⟨_,rfl⟩
 obtain⟨q1,aw⟩:∃ q,(s.field==10)=q:=⟨_,rfl⟩
 obtain⟨q0,au⟩:∃ q,(s.how != y)=q:=⟨_,rfl⟩
 have HN:Hid (D7e s=(q0||(((q3||q4) != q2)||(q4 != q1)))):=by
  have e3:decide (s.kind=3)=(s.kind==3):=by rw[Bool.eq_iff_iff];simp
  have e4:decide (s.kind=4)=(s.kind==4):=by rw[Bool.eq_iff_iff];simp
  have e2:decide (s.how=2)=(s.how==2):=by rw[Bool.eq_iff_iff];simp
  have e1:decide (s.field=10)=(s.field==10):=by rw[Bool.eq_iff_iff];simp
  have e0:decide (s.how≠A2e s.field)=(s.how != y):=by rw[Bool.eq_iff_iff,←Hy.out];simp
  show _=_;unfold D7e;rw[e3,e4,e2,e1,e0,ak,aj,a8,aw,au]
 have ag:∀ W,Calls Tryz.prog 83 #[.int .i64 s.field] W fun e w'=>e = .returned (.int .i64 y)∧w'=W:=fun W=>(ah W).mono fun _ _ ⟨a,b⟩=>⟨a,b.symm⟩
 clear ah
 unfold tv
 cases q3
 ·cases q4
  rotate_right
  rotate_right
  all_goals
   cases q0
   ·cases q2
    all_goals
     go_enter Tryz.func199,Tryz.ntmps199
     go_wp2_with fail
     go_quiet (exact Calls.quiet_of_same (ag _))
     go_wp2
     go_ret
     exact⟨by rw[HN.out];cases q1 <;> rfl,A6q ac _⟩
   ·go_enter Tryz.func199,Tryz.ntmps199
    go_wp2_with fail
    go_quiet (exact Calls.quiet_of_same (ag _))
    go_wp2
    go_ret
    exact⟨by rw[HN.out];cases q1 <;> rfl,A6q ac _⟩
 ·have h4:(s.kind==4)=false:=by have:=eq_of_beq ak;simp;omega
  rw[h4] at aj
  subst aj
  cases q0
  ·cases q2
   all_goals
    go_enter Tryz.func199,Tryz.ntmps199
    go_wp2_with fail
    go_quiet (exact Calls.quiet_of_same (ag _))
    go_wp2
    go_ret
    exact⟨by rw[HN.out];cases q1 <;> rfl,A6q ac _⟩
  ·go_enter Tryz.func199,Tryz.ntmps199
   go_wp2_with fail
   go_quiet (exact Calls.quiet_of_same (ag _))
   go_wp2
   go_ret
   exact⟨by rw[HN.out];cases q1 <;> rfl,A6q ac _⟩
theorem C1n (s:TI)(n:Nat)(w:World)(_hn:n≤9223372036854775807):Calls Tryz.prog 200 #[tv s,.int .i64 (n:Int)] w fun e w'=>e = .returned (.bool (C1m s n))∧Below w.heap.size w w':=by
 have ac:=(Below.refl w.heap.size w).alloc (Nat.le_refl _) (.cells #[.int .i64 s.kind,.int .i64 s.number,.int .i64 s.how,.int .i64 s.field,.int .i64 s.next] 122)
 unfold tv
 by_cases h4:s.kind=4
 ·have hk:(s.kind==4)=true:=by simp[h4]
  by_cases h0:s.next<0
  ·have HN:Hid (C1m s n=true):=by show _=_;unfold C1m;rw[if_pos h4];simp[h0]
   clear h4
   go_enter Tryz.func200,Tryz.ntmps200
   go_wp2
   go_ret
   exact⟨by rw[HN.out];rfl,ac⟩
  ·by_cases h1:(n:Int)≤s.next
   ·have HN:Hid (C1m s n=true):=by show _=_;unfold C1m;rw[if_pos h4];simp[h1]
    clear h4
    go_enter Tryz.func200,Tryz.ntmps200
    go_wp2
    go_ret
    exact⟨by rw[HN.out];rfl,ac⟩
   ·have HN:Hid (C1m s n=false):=by show _=_;unfold C1m;rw[if_pos h4];simp[h0,h1]
    clear h4
    go_enter Tryz.func200,Tryz.ntmps200
    go_wp2
    go_ret
    exact⟨by rw[HN.out];rfl,ac⟩
 ·have hk:(s.kind==4)=false:=by simp[h4]
  obtain⟨q,hq⟩:∃ q,(s.next != -1)=q:=⟨_,rfl⟩
  have HN:Hid (C1m s n=q):=by
   show _=_;unfold C1m;rw[if_neg h4,←hq,Bool.eq_iff_iff];simp
  clear h4
  cases q
  all_goals go_enter Tryz.func200,Tryz.ntmps200
  all_goals go_wp2
  all_goals go_ret
  all_goals exact⟨by rw[HN.out];rfl,ac⟩
end L
end Go.Proofs.YtgaoojpakjjdnaaGreatDoor
