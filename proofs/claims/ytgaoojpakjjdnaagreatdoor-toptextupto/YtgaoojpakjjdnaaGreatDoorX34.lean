import Derived.Test.YtgaoojpakjjdnaaGreatDoorX33
set_option maxHeartbeats 32000000
set_option maxRecDepth 100000
namespace Go.Proofs.YtgaoojpakjjdnaaGreatDoor
namespace L
open Go.RowKit
theorem C5p {β:Type}{x:List (VI β)}{n:Int}:(x.find? (fun v=>decide (v.number=n))=none∧A0g (fun v:VI β=>decide (v.number=n)) x = -1)∨(∃ (j:Nat) (v:VI β),x.find? (fun v=>decide (v.number=n))=some v∧A0g (fun v:VI β=>decide (v.number=n)) x=(j:Int)∧x[j]?=some v):=by
 induction x with
 | nil=>left;exact⟨rfl,rfl⟩
 | cons a r ih=>
  by_cases ha:a.number=n
  ·right
   exact⟨0,a,by simp[ha],by simp[A0g,List.findIdx?_cons,ha],rfl⟩
  ·have e:(a::r).find? (fun v=>decide (v.number=n))=r.find? fun v=>decide (v.number=n):=by simp[ha]
   rw[e]
   rcases ih with⟨h1,h2⟩|⟨j,v,h1,h2,h3⟩
   ·left
    refine⟨h1,?_⟩
    unfold A0g at h2 ⊢
    rw[List.findIdx?_cons]
    simp only[ha,decide_false,Bool.false_eq_true,if_false]
    cases hx:r.findIdx? (fun f:VI β=>decide (f.number=n)) with
    | none=>rfl
    | some j=>rw[hx] at h2;simp at h2
   ·right
    refine⟨j+1,v,h1,?_,by simpa using h3⟩
    unfold A0g at h2 ⊢
    rw[List.findIdx?_cons]
    simp only[ha,decide_false,Bool.false_eq_true,if_false]
    cases hx:r.findIdx? (fun f:VI β=>decide (f.number=n)) with
    | none=>rw[hx] at h2;simp at h2
    | some i=>rw[hx] at h2;simp at h2 ⊢;omega
theorem E0c {acc B:List UInt8}{k c:Nat}(h:acc.length≤k*c)(hB:B.length≤c):(acc++B).length≤(k+1)*c:=by
 rw[List.length_append,Nat.succ_mul];omega
theorem D7z {acc B:List UInt8}{k c n:Nat}(h:acc.length≤k*c)(hB:B.length≤c)(hk:k<n):acc.length+B.length≤n*c:=by
 have:(k+1)*c≤n*c:=Nat.mul_le_mul_right _ hk
 rw[Nat.succ_mul] at this
 omega
theorem C7j {d n:Nat}{w:World}{vp v0 v1:Value}{p:List TI}{b:BO (BI d)}{Q:BI d→Prop}(hp:RdL 5 StAt w vp p)(hpl:p.length≤16)(hb':BRd d w v0 v1 b)(hv:∀ v∈b.vals,VSm Q v)(hs:∀ s∈p,E1d n s){fn:Nat}{cap:Array Value}(bq:∀ (args:Array Value) (w:World),(callFunc fn args).run Tryz.prog w = .ok (.enter fn args) w)
  {deep:TI→BI d→List UInt8×Int}(aw:∀ s∈p,s.kind=4→∀ v∈b.vals,∀ x∈v.subs,KDeep d w fn cap s.next (deep s) x) (hlen:∀ s x,(deep s x).1.length≤4001) :
  Calls Tryz.prog 65 #[vp,.agg #[v0,v1],.func (.func fn) #[] cap] w fun e w'=>∃ ao n c,e = .returned (.tuple #[.slice ao n c,.int .i64 (A3f deep b.vals [] p).2])∧Row ekY w' w.heap.size (.slice ao n c) (A3f deep b.vals [] p).1∧Below w.heap.size w w':=by
 obtain⟨ap,np,cp,rfl,bh,_⟩:=hp.shape
 obtain⟨a0,n0,c0,rfl,H0,dr⟩:=hb'.1.shape
 obtain⟨a1,n1,c1,rfl,H1,_⟩:=hb'.2.shape
 have dh:np≤16:=by rw[bh.out];exact hpl
 obtain⟨q,Hq⟩:∃ q,Hid (A3f deep b.vals [] p=q):=⟨_,rfl⟩
 rw[Hq.out]
 obtain⟨W0,bg⟩:∃ W0,Hid (W0=w.alloc (.cells #[.slice a0 n0 c0,.slice a1 n1 c1] 29)):=⟨_,rfl⟩
 have hb0:Below w.heap.size w W0:=by rw[bg.out];exact(Below.refl _ _).alloc (Nat.le_refl _) _
 have hz0:w.heap.size+1≤W0.heap.size:=by rw[bg.out];simp
 have x0:W0.heap[w.heap.size]?=some (.cells #[.slice a0 n0 c0,.slice a1 n1 c1] 29 (0,0)):=by rw[bg.out];exact heap_alloc_new _ _
 go_enter Tryz.func65,Tryz.ntmps65
 go_wp2_with fail
 rw[←bg.out]
 go_loopg [8,16] np (fun m u i wr=>∃ (k:Nat) (ao:Option Addr) (no co:Nat) (acc:List UInt8),k+m=np∧i = .int .i64 k∧u = .slice ao no co∧Row ekY wr W0.heap.size (.slice ao no co) acc∧acc.length≤k*5000000000000∧Hid (A3f deep b.vals acc (p.drop k)=q)∧Below W0.heap.size W0 wr)
 case atStart=>exact⟨0,none,0,0,[],by omega,rfl,rfl,Row.nil _ _ _,by simp,Hq,Below.refl _ _⟩
 case round=>
  obtain⟨k,ao,no,co,acc,hk,rfl,rfl,hr,ag,HK,hb⟩:=hrel
  have bp:Below w.heap.size w wr:=KBT hb0 hb
  have dt:=hb.size
  by_cases hlt:k<np
  ·obtain⟨s,Hs⟩:∃ s,Hid (p[k]?=some s):=⟨p[k]'(by rw[←bh.out];exact hlt),List.getElem?_eq_getElem (by rw[←bh.out];exact hlt)⟩
   have hsm:=List.mem_of_getElem? Hs.out
   obtain⟨g,off,rfl,hat⟩:=(hp.below StAt.stays bp).get StAt.plain Hs.out
   obtain⟨s0,s1,s2,s3,s4⟩:=hat.at
   have dp:(k:Int)<(np:Int):=by omega
   obtain⟨W1,ah⟩:∃ W1,Hid (W1=wr.alloc (.cells #[.int .i64 s.kind,.int .i64 s.number,.int .i64 s.how,.int .i64 s.field,.int .i64 s.next] 122)):=⟨_,rfl⟩
   have hb1:Below wr.heap.size wr W1:=by rw[ah.out];exact(Below.refl _ _).alloc (Nat.le_refl _) _
   have hz1:wr.heap.size+1≤W1.heap.size:=by rw[ah.out];simp
   have x1:W1.heap[wr.heap.size]?=some (.cells #[.int .i64 s.kind,.int .i64 s.number,.int .i64 s.how,.int .i64 s.field,.int .i64 s.next] 122 (0,0)):=by rw[ah.out];exact heap_alloc_new _ _
   have ak:Below w.heap.size w W1:=KBT bp hb1
   obtain⟨t0,t1⟩:=A0r ((hb.block _ (by omega)).trans x0)
   obtain⟨t2,t3⟩:=A0r ((hb1.block _ (by omega)).trans ((hb.block _ (by omega)).trans x0))
   rw[ah.out] at t2 t3
   have a8:=B3q (BAt.stays d) (hb'.below ak).1 ⟨a1,n1,c1,rfl⟩ s.number
   have HS:=D2l (deep:=deep) (x:=b.vals) Hs.out acc
   clear hat
   rcases C5p (x:=b.vals) (n:=s.number) with⟨hf1,hf2⟩|⟨j,v,hf1,hf2,hf3⟩
   ·rw[hf2] at a8
    have ac:Hid (A3f deep b.vals acc (p.drop (k+1))=q):=by
     show _=_;rw[←HK.out,HS,hf1]
    clear HS hf1 hf2
    go_wp2_with fail
    rw[←ah.out]
    refine a8.mono ?_
    rintro e w2 ⟨rfl,hb2⟩
    go_wp2_with fail
    go_roundg (np-(k+1))
    case measure=>omega
    case rel=>exact⟨k+1,ao,no,co,acc,by omega,by go_num,rfl,(hr.below hb1).below hb2,Nat.le_trans ag (Nat.mul_le_mul_right _ (Nat.le_succ _)),ac,KBT (KBT hb hb1) hb2⟩
   ·rw[hf2] at a8
    obtain⟨gv,ov,rfl,bw⟩:=hb'.1.get VAt.plain hf3
    obtain⟨y1,y2,y3,z0,z1,z2,z3,r1,r2,r3⟩:=bw.at
    obtain⟨b1,m1,d1,rfl,_,_⟩:=r1.shape
    obtain⟨b2,m2,d2,rfl,_,_⟩:=r2.shape
    obtain⟨b3,m3,d3,rfl,_,_⟩:=r3.shape
    have bt:=List.mem_of_getElem? hf3
    have dn:j<n0:=by rw[H0.out];exact(List.getElem?_eq_some_iff.1 hf3).1
    have dm:(j:Int)<(n0:Int):=by omega
    have dl:¬ (j:Int)<0:=by omega
    obtain⟨B,E,HE⟩:∃ B E,Hid (A3p deep s v=(B,E)):=⟨_,_,rfl⟩
    have bu:Hid (A3f deep b.vals acc (p.drop k)=if E≠0 then([],E) else A3f deep b.vals (acc++B) (p.drop (k+1))):=by
     show _=_;rw[HS,hf1];simp only[HE.out]
    have hBl:B.length≤5000000000000:=by have:=B9r deep hlen s v (hv v bt);rw[HE.out] at this;exact this
    clear HS hf1 hf2 hf3 bw
    have hwr:∀ V,Below w.heap.size w V→Calls Tryz.prog 141 #[.agg #[.int .i64 s.kind,.int .i64 s.number,.int .i64 s.how,.int .i64 s.field,.int .i64 s.next],.agg #[.int .i64 v.number,.slice b1 m1 d1,.slice b2 m2 d2,.slice b3 m3 d3],.func (.func fn) #[] cap] V fun e w'=>∃ ao n c,e = .returned (.tuple #[.slice ao n c,.int .i64 E])∧Row ekY w' V.heap.size (.slice ao n c) B∧Below V.heap.size V w':=fun V hV=>by
     have:=C2h (r1.below UAt.stays hV) (r2.below ZAt.stays hV) (r3.below (BAt.stays d) hV) (hv v bt) s (hs s hsm) bq (cap:=cap) (deep:=deep) (fun e4 x hx=>(aw s hsm e4 v bt x hx).below hV) (hlen s)
     rw[HE.out] at this
     exact this
    go_wp2_with fail
    rw[←ah.out]
    refine a8.mono ?_
    rintro e w2 ⟨rfl,hb2⟩
    have bv:Below wr.heap.size wr w2:=KBT hb1 hb2
    have au:Below w.heap.size w w2:=KBT ak hb2
    have hr2:Row ekY w2 W0.heap.size (.slice ao no co) acc:=(hr.below hb1).below hb2
    have cg:∀ V,Below w2.heap.size w2 V→Below w2.heap.size w2 V∧(V.cell? ⟨wr.heap.size,0,none⟩=some (.int .i64 s.kind)∧V.cell? ⟨wr.heap.size,1,none⟩=some (.int .i64 s.number)∧V.cell? ⟨wr.heap.size,2,none⟩=some (.int .i64 s.how)∧V.cell? ⟨wr.heap.size,3,none⟩=some (.int .i64 s.field)∧V.cell? ⟨wr.heap.size,4,none⟩=some (.int .i64 s.next))∧(V.cell? ⟨w.heap.size,0,none⟩=some (.slice (some ⟨gv,ov,none⟩) n0 c0)∧V.cell? ⟨w.heap.size,1,none⟩=some (.slice a1 n1 c1))∧V.cell? ⟨gv,ov+j*4,none⟩=some (.int .i64 v.number)∧V.cell? ⟨gv,ov+j*4+1,none⟩=some (.slice b1 m1 d1)∧V.cell? ⟨gv,ov+j*4+2,none⟩=some (.slice b2 m2 d2)∧V.cell? ⟨gv,ov+j*4+3,none⟩=some (.slice b3 m3 d3):=fun V hV=>by
     have hV1:Below w.heap.size w V:=KBT au hV
     have hz2:=hb2.size
     exact⟨hV,C4r ((hV.block _ (by omega)).trans ((hb2.block _ (by omega)).trans x1)),A0r ((hV.block _ (by omega)).trans ((bv.block _ (by omega)).trans ((hb.block _ (by omega)).trans x0))),A0c hV1 z0,A0c hV1 z1,A0c hV1 z2,A0c hV1 z3⟩
    have hd:Below w2.heap.size w2 w2.drew:=(Below.refl _ _).drew
    have hwd:=hwr w2.drew (KBT au hd)
    obtain⟨_,⟨g0,g1,g2,g3,g4⟩,⟨g5,g6⟩,g7⟩:=cg w2 (Below.refl _ _)
    clear a8 hr hwr s0 s1 s2 s3 s4 t0 t1 t2 t3 z0 z1 z2 z3 r1 r2 r3
    go_wp2_with fail
    go_cut [12,13] from 26 to 43 (fun s12 di wc=>∃ (a5:Option Addr) (n5 c5:Nat),s12 = .slice a5 n5 c5∧di = .int .i64 E∧Row ekY wc w2.heap.size (.slice a5 n5 c5) B∧Below w2.heap.size w2 wc)
    case first=>
     go_region_held3 (fun V=>Below w2.heap.size w2 V∧(V.cell? ⟨wr.heap.size,0,none⟩=some (.int .i64 s.kind)∧V.cell? ⟨wr.heap.size,1,none⟩=some (.int .i64 s.number)∧V.cell? ⟨wr.heap.size,2,none⟩=some (.int .i64 s.how)∧V.cell? ⟨wr.heap.size,3,none⟩=some (.int .i64 s.field)∧V.cell? ⟨wr.heap.size,4,none⟩=some (.int .i64 s.next))∧(V.cell? ⟨w.heap.size,0,none⟩=some (.slice (some ⟨gv,ov,none⟩) n0 c0)∧V.cell? ⟨w.heap.size,1,none⟩=some (.slice a1 n1 c1))∧V.cell? ⟨gv,ov+j*4,none⟩=some (.int .i64 v.number)∧V.cell? ⟨gv,ov+j*4+1,none⟩=some (.slice b1 m1 d1)∧V.cell? ⟨gv,ov+j*4+2,none⟩=some (.slice b2 m2 d2)∧V.cell? ⟨gv,ov+j*4+3,none⟩=some (.slice b3 m3 d3)) ((with_reducible refine cg _ ?_;with_reducible (first|exact hd|exact aj))) ((go_at_call 141;refine hwd.mono ?_;rintro e w3 ⟨a5,n5,c5,rfl,br,df⟩;have aj:=KBT hd df))
     all_goals
      go_wp2_with fail
      go_meet
     all_goals exact⟨a5,n5,c5,rfl,rfl,br,aj⟩
    case rest=>
     obtain⟨a5,n5,c5,rfl,rfl,br,aj⟩:=hcut
     have bk:Below W0.heap.size W0 wc:=KBT (KBT hb bv) aj
     by_cases hE:E=0
     ·have cw:(E != 0)=false:=by simp[hE]
      have ac:Hid (A3f deep b.vals (acc++B) (p.drop (k+1))=q):=by
       show _=_;rw[←HK.out,bu.out,if_neg (by simp[hE])]
      have hr3:=hr2.below aj
      obtain⟨q1,q2,q3⟩:=C1e br.rdY
      clear hE hr2
      go_wp2_with (at_builtin;refine A1o (by rfl) ekY _ _ (by rfl) W0.heap.size (.slice ao no co) _ B (by rfl) hr3 a5 n5 c5 (by rfl) q1 q2 q3 (by decide) ?d2 bk.size ?_)
      case d2=>
       rw[show ekY.bytes=1 from rfl,Nat.mul_one]
       exact Nat.le_trans (D7z ag hBl (Nat.lt_of_lt_of_le hlt dh)) (by decide)
      intro v' w6 cj dg
      obtain⟨a6,n6,c6,rfl,_⟩:=cj.shape'
      have cu:Below W0.heap.size W0 w6:=bk.grown dg bk.size (fun k hk=>(hr3.own k hk).1)
      go_wp2_with fail
      go_roundg (np-(k+1))
      case measure=>omega
      case rel=>exact⟨k+1,a6,n6,c6,_,by omega,by go_num,rfl,cj,E0c ag hBl,ac,cu⟩
     ·have cw:(E != 0)=true:=by simpa using hE
      have ac:Hid (q=([],E)):=by
       show _=_;rw[←HK.out,bu.out,if_pos hE]
      clear hE
      go_wp2
      go_ret2
      exact⟨none,0,0,by rw[ac.out];rfl,by rw[ac.out];exact Row.nil _ _ _,KBT hb0 bk⟩
  ·have ac:Hid (q=(acc,0)):=by
    show _=_;rw[←HK.out,List.drop_of_length_le (by rw[←bh.out];omega)];rfl
   go_wp2
   go_ret2
   exact⟨ao,no,co,by rw[ac.out];rfl,by rw[ac.out];exact hr.mono (by omega),bp⟩
theorem C5g {w:World}{base:Nat}{ao:Option Addr}{n cap:Nat}{l:List UInt8}(h:Row ekY w base (.slice ao n cap) l) :
  Calls Tryz.prog 67 #[.slice ao n cap] w fun e w'=>∃ m,e = .returned (.slice ao m cap)∧Row ekY w' base (.slice ao m cap) (l.take 4001)∧w=w':=by
 have hl:n=l.length:=by obtain⟨x,c,e⟩:=h.shape;cases e;rfl
 have hc:n≤cap∧(ao=none→n=0∧cap=0):=by
  rcases h.2 with⟨hv,hn⟩|⟨g,c,cur,hv,hbg,hg,hn,hmx,hsz,ht⟩
  ·cases hv;exact⟨Nat.le_refl _,fun _=>⟨rfl,rfl⟩⟩
  ·cases hv;exact⟨by omega,fun e=>by cases e⟩
 by_cases hn:n≤4001
 ·have h1:=h.short (Nat.le_refl n)
  rw[List.take_of_length_le (by omega)] at h1
  have hi:(n:Int)≤4001:=by omega
  have h2:min (n:Int) 4001=(n:Int):=by omega
  rw[List.take_of_length_le (by omega)]
  clear h hl
  go_enter Tryz.func67,Tryz.ntmps67
  go_wp2
  go_ret
  exact⟨n,rfl,h1,rfl⟩
 ·have h1:=h.short (m:=4001) (by omega)
  have hi:¬ (n:Int)≤4001:=by omega
  have h2:min (n:Int) 4001=4001:=by omega
  clear h hl
  go_enter Tryz.func67,Tryz.ntmps67
  go_wp2
  go_ret
  exact⟨4001,rfl,h1,rfl⟩
def D5t {β:Type}(deep:TI→β→List UInt8×Int)(p:List TI)(k:Int)(b:BO β):List UInt8×Int:=
 if 12<k then([],10) else if (A3f deep b.vals [] p).2≠0 then([],(A3f deep b.vals [] p).2) else if (A4n [] b.unk).2≠0 then([],(A4n [] b.unk).2)
 else(((A3f deep b.vals [] p).1++(A4n [] b.unk).1).take 4001,0)
def C1z (ps:List (List TI)):(d:Nat)→Int→Int→BI d→List UInt8×Int
 | 0,_,_,_=>([],0)
 | d+1,p,k,b=>D5t (fun s x=>C1z ps d s.next (k+1) x) (ps.getD p.toNat []) k b
theorem D5u {β:Type}(deep:TI→β→List UInt8×Int)(p:List TI)(k:Int)(b:BO β):(D5t deep p k b).1.length≤4001:=by
 unfold D5t
 split
 ·simp
 ·split
  ·simp
  ·split
   ·simp
   ·rw[List.length_take];omega
theorem D1i {β:Type}(deep:TI→β→List UInt8×Int)(p:List TI)(b:BO β){k:Int}(h:12<k):D5t deep p k b=([],10):=by unfold D5t;rw[if_pos h]
theorem D1j {β:Type}(deep:TI→β→List UInt8×Int)(p:List TI)(b:BO β){k:Int}(h:¬ 12<k):D5t deep p k b=if (A3f deep b.vals [] p).2≠0 then([],(A3f deep b.vals [] p).2) else if (A4n [] b.unk).2≠0 then([],(A4n [] b.unk).2)
 else(((A3f deep b.vals [] p).1++(A4n [] b.unk).1).take 4001,0):=by unfold D5t;rw[if_neg h]
theorem B7j {β:Type}{Q : β→Prop}(deep:TI→β→List UInt8×Int)(hf:∀ s x,(deep s x).1.length≤4001)(x:List (VI β))(hx:∀ v∈x,VSm Q v):∀ (p:List TI) (acc:List UInt8),(A3f deep x acc p).1.length≤acc.length+p.length*5000000000000
 | [],acc=>by simp[A3f]
 | s::r,acc=>by
  rw[A3f,List.length_cons,Nat.succ_mul]
  cases hfd:x.find? (fun v=>decide (v.number=s.number)) with
  | none=>
   have:=B7j deep hf x hx r acc
   exact Nat.le_trans this (by omega)
  | some v=>
   simp only
   split
   ·exact Nat.zero_le _
   ·have h1:=B7j deep hf x hx r (acc++(A3p deep s v).1)
    have h2:=B9r deep hf s v (hx v (List.mem_of_find?_eq_some hfd))
    rw[List.length_append] at h1
    omega
theorem D2d:∀ (l:List RI) (acc:List UInt8),(∀ r∈l,r.bytes.length≤1048576)→(A4n acc l).1.length≤acc.length+l.length*1048596
 | [],acc,_=>by simp[A4n]
 | r::l,acc,h=>by
  rw[A4n,List.length_cons,Nat.succ_mul]
  split
  ·simp
  ·have h1:=D2d l (acc++recN r.number r.how r.bits r.bytes) fun x hx=>h x (List.mem_cons_of_mem _ hx)
   have h2:=B7a r.number r.how r.bits r.bytes
   have h3:=h r (by simp)
   rw[List.length_append] at h1
   omega
theorem B7c (ps:List (List TI)):∀ (d:Nat) (p k:Int) (b:BI d),(C1z ps d p k b).1.length≤4001
 | 0,_,_,_=>by simp[C1z]
 | _+1,_,_,_=>D5u _ _ _ _
def E1c (ps:List (List TI)):Prop:=ps.length≤10∧∀ p∈ps,p.length≤16∧∀ s∈p,E1d ps.length s
def B5o (ps:List (List TI))(d:Nat):Prop:=∀ (w:World) (vl v0 v1:Value) (p k:Int) (b:BI d),RdL 1 PrAt w vl ps→0≤p→p<ps.length→1≤k→k≤13→KQ d w v0 v1 b→BSm d b→
 Calls Tryz.prog 28 #[vl,.int .i64 p,.agg #[v0,v1],.int .i64 k] w fun e w'=>∃ ao n c,e = .returned (.tuple #[.slice ao n c,.int .i64 (C1z ps d p k b).2])∧Row ekY w' w.heap.size (.slice ao n c) (C1z ps d p k b).1∧Below w.heap.size w w'
theorem D5s {ps:List (List TI)}{d:Nat}(ih:B5o ps d){W:World}{vl:Value}{cl ck:Nat}{k:Int}(hl:RdL 1 PrAt W vl ps)(xl:W.heap[cl]?=some (.cells #[vl] 48 (0,0)))(xk:W.heap[ck]?=some (.cells #[.int .i64 k] 3 (0,0)))(ak:0≤k)(hk2:k≤12){next:Int}(ah:0≤next)(aj:next<ps.length){x:BI d}(hx:BSm d x) :
  KDeep d W 64 #[.pointer (some ⟨cl,0,none⟩),.pointer (some ⟨ck,0,none⟩)] next (fun y=>C1z ps d next (k+1) y) x:=by
 intro V v0 v1 hV hq
 show Calls Tryz.prog 64 #[.int .i64 next,.agg #[v0,v1],.pointer (some ⟨cl,0,none⟩),.pointer (some ⟨ck,0,none⟩)] V _
 obtain⟨e0,m0,p0,e1,m1,p1,rfl,rfl⟩:=hq.shape
 obtain⟨al,nl,kl,rfl,_,_⟩:=hl.shape
 have ag:=(Array.getElem?_eq_some_iff.1 xl).1
 have ac:=(Array.getElem?_eq_some_iff.1 xk).1
 have t0:V.cell? ⟨cl,0,none⟩=some (.slice al nl kl):=A0a ((hV.block _ ag).trans xl) 0 _ rfl
 have t1:V.cell? ⟨ck,0,none⟩=some (.int .i64 k):=A0a ((hV.block _ ac).trans xk) 0 _ rfl
 have hb1:Below V.heap.size V (V.alloc (.cells #[.slice e0 m0 p0,.slice e1 m1 p1] 29)):=(Below.refl _ _).alloc (Nat.le_refl _) _
 have u0:=A0c hb1 t0
 have u1:=A0c hb1 t1
 have hc:=ih (V.alloc (.cells #[.slice e0 m0 p0,.slice e1 m1 p1] 29)) _ _ _ next (k+1) x ((hl.below PrAt.stays hV).below PrAt.stays hb1) ah aj (by omega) (by omega) (hq.below hb1) hx
 clear t0 t1 hq
 go_enter Tryz.func64,Tryz.ntmps64
 go_wp2_with fail
 refine hc.mono ?_
 rintro e w1 ⟨a,m,c,rfl,hr,hb⟩
 go_wp2
 go_ret2
 exact⟨a,m,c,rfl,hr.mono (by simp),KBT hb1 hb⟩
theorem D8l {ps:List (List TI)}{p:Int}(h0:0≤p)(h1:p<ps.length):ps[p.toNat]?=some (ps.getD p.toNat []):=by
 have:p.toNat<ps.length:=by omega
 simp[List.getD,this]
theorem D5w {ps:List (List TI)}(d9:E1c ps){d:Nat}(ih:B5o ps d):B5o ps (d+1):=by
 intro w vl v0 v1 p k b hl dh dz eu hk2 hq hsm
 have hq:BRd d w v0 v1 b:=hq
 obtain⟨hv,a8,dl⟩:OSm (BSm d) b:=hsm
 obtain⟨al,nl,cl,rfl,dn,_⟩:=hl.shape
 obtain⟨a0,n0,c0,rfl,H0,_⟩:=hq.1.shape
 obtain⟨a1,n1,c1,rfl,H1,_⟩:=hq.2.shape
 obtain⟨pn,rfl⟩:=Int.eq_ofNat_of_zero_le dh
 have fd:pn<nl:=by rw[dn.out];omega
 obtain⟨R,HR⟩:∃ R,Hid (C1z ps (d+1) (pn:Int) k b=R):=⟨_,rfl⟩
 rw[HR.out]
 obtain⟨W0,ak⟩:∃ W0,Hid (W0=((w.alloc (.cells #[.slice al nl cl] 48)).alloc (.cells #[.slice a0 n0 c0,.slice a1 n1 c1] 29)).alloc (.cells #[.int .i64 k] 3)):=⟨_,rfl⟩
 have hb0:Below w.heap.size w W0:=by rw[ak.out];exact(((Below.refl _ _).alloc (Nat.le_refl _) _).alloc (by simp) _).alloc (by simp;omega) _
 have hz0:w.heap.size+3≤W0.heap.size:=by rw[ak.out];simp
 obtain⟨x3,x2,x1⟩:=B7u w (.cells #[.slice al nl cl] 48) (.cells #[.slice a0 n0 c0,.slice a1 n1 c1] 29) (.cells #[.int .i64 k] 3)
 rw[←ak.out] at x1 x2 x3
 by_cases h12:12<k
 ·have HN:Hid (R=([],10)):=by show _=_;rw[←HR.out];exact D1i _ _ _ h12
  go_enter Tryz.func28,Tryz.ntmps28
  go_wp2_with fail
  rw[←ak.out]
  go_ret2
  exact⟨none,0,0,by rw[HN.out];rfl,by rw[HN.out];exact Row.nil _ _ _,hb0⟩
 obtain⟨P,HP⟩:∃ P,Hid (P=ps.getD ((pn:Int)).toNat []):=⟨_,rfl⟩
 have hP:=D8l dh dz
 rw[←HP.out] at hP
 obtain⟨au,ah⟩:=d9.2 P (List.mem_of_getElem? hP)
 obtain⟨V0,bk⟩:∃ q,Hid (A3f (fun s x=>C1z ps d s.next (k+1) x) b.vals [] P=q):=⟨_,rfl⟩
 obtain⟨U0,bh⟩:∃ q,Hid (A4n [] b.unk=q):=⟨_,rfl⟩
 have ac:Hid (R=if V0.2≠0 then([],V0.2) else if U0.2≠0 then([],U0.2) else((V0.1++U0.1).take 4001,0)):=by
  show _=_
  rw[←HR.out]
  refine(D1j (β:=BI d) (fun s x=>C1z ps d s.next (k+1) x) (ps.getD ((pn:Int)).toNat []) b h12).trans ?_
  rw[←HP.out,bk.out,bh.out]
 obtain⟨bl,ol,rfl,hat⟩:=hl.get PrAt.plain hP
 obtain⟨vp,hc0,di⟩:=hat
 obtain⟨ap,np,cp,rfl,et,_⟩:=di.shape
 have bq:w.cell? ⟨bl,ol+pn,none⟩=some (.slice ap np cp):=by simpa using hc0
 have fc:(pn:Int)<(nl:Int):=by omega
 have ew:=A4s
 have dm:∀ V,Below W0.heap.size W0 V→Calls Tryz.prog 65 #[.slice ap np cp,.agg #[.slice a0 n0 c0,.slice a1 n1 c1],.func (.func 64) #[] #[.pointer (some ⟨w.heap.size,0,none⟩),.pointer (some ⟨w.heap.size+1+1,0,none⟩)]] V fun e w'=>∃ ao n c,e = .returned (.tuple #[.slice ao n c,.int .i64 V0.2])∧Row ekY w' V.heap.size (.slice ao n c) V0.1∧Below V.heap.size V w':=fun V hV=>by
  have df:=KBT hb0 hV
  have:=C7j (n:=ps.length) (di.below StAt.stays df) au (hq.below df) hv ah (enters_of Tryz.func64 (by kernel_rfl) rfl) (deep:=fun s x=>C1z ps d s.next (k+1) x) (fun s hs h4 v eh x hx=>(D5s ih (hl.below PrAt.stays hb0) x1 x3 (by omega) (by omega) ((ah s hs).2.2.2.2.2.2 h4).1 ((ah s hs).2.2.2.2.2.2 h4).2 ((hv v eh).2.2.2.2.2 x hx)).below hV) (fun s x=>B7c ps d _ _ x)
  rw[bk.out] at this
  exact this
 have cj:∀ V,Below W0.heap.size W0 V→Calls Tryz.prog 66 #[.slice a1 n1 c1] V fun e w'=>∃ ao n cap,e = .returned (.tuple #[.slice ao n cap,.int .i64 U0.2])∧Row ekY w' V.heap.size (.slice ao n cap) U0.1∧Below V.heap.size V w':=fun V hV=>by
  have:=C2e ((hq.below (KBT hb0 hV)).2) a8 dl
  rw[bh.out] at this
  exact this
 have br:∀ V,Below W0.heap.size W0 V→Below W0.heap.size W0 V∧V.cell? ⟨w.heap.size,0,none⟩=some (.slice (some ⟨bl,ol,none⟩) nl cl)∧(V.cell? ⟨w.heap.size+1,0,none⟩=some (.slice a0 n0 c0)∧V.cell? ⟨w.heap.size+1,1,none⟩=some (.slice a1 n1 c1))∧V.cell? ⟨bl,ol+pn,none⟩=some (.slice ap np cp):=fun V hV=>⟨hV,A0a ((hV.block _ (by omega)).trans x1) 0 _ rfl,A0r ((hV.block _ (by omega)).trans x2),A0c (KBT hb0 hV) bq⟩
 have hd:Below W0.heap.size W0 W0.drew:=(Below.refl _ _).drew
 obtain⟨_,g1,⟨g2,g3⟩,g4⟩:=br W0 (Below.refl _ _)
 have hwd:=dm W0.drew hd
 clear hc0 ih dm
 go_enter Tryz.func28,Tryz.ntmps28
 go_wp2_with fail
 rw[←ak.out]
 go_cut [11,12] from 17 to 30 (fun ei s12 wc=>∃ (a5:Option Addr) (n5 c5:Nat),ei = .slice a5 n5 c5∧s12 = .int .i64 V0.2∧Row ekY wc W0.heap.size (.slice a5 n5 c5) V0.1∧Below W0.heap.size W0 wc)
 case first=>
  go_region_held3 (fun V=>Below W0.heap.size W0 V∧V.cell? ⟨w.heap.size,0,none⟩=some (.slice (some ⟨bl,ol,none⟩) nl cl)∧(V.cell? ⟨w.heap.size+1,0,none⟩=some (.slice a0 n0 c0)∧V.cell? ⟨w.heap.size+1,1,none⟩=some (.slice a1 n1 c1))∧V.cell? ⟨bl,ol+pn,none⟩=some (.slice ap np cp)) ((with_reducible refine br _ ?_;with_reducible (first|exact hd|exact ag))) ((go_at_call 65;refine hwd.mono ?_;rintro e w3 ⟨a5,n5,c5,rfl,aw,dv⟩;have ag:=KBT hd dv))
  all_goals
   go_wp2_with fail
   go_meet
  all_goals exact⟨a5,n5,c5,rfl,rfl,aw,ag⟩
 case rest=>
  obtain⟨a5,n5,c5,rfl,rfl,aw,ag⟩:=hcut
  obtain⟨E1,cu⟩:∃ E1,Hid (V0.2=E1):=⟨_,rfl⟩
  obtain⟨E2,cw⟩:∃ E2,Hid (U0.2=E2):=⟨_,rfl⟩
  have ac:=ac.out
  rw[cu.out,cw.out] at ac
  have cg:=cj wc ag
  rw[cw.out] at cg
  rw[cu.out]
  obtain⟨_,g1,⟨g2,g3⟩,g4⟩:=br wc ag
  by_cases hE:E1=0
  ·have dr:(E1 != 0)=false:=by simp[hE]
   rw[if_neg (by simp[hE])] at ac
   have ac:Hid (R=if E2≠0 then([],E2) else((V0.1++U0.1).take 4001,0)):=ac
   have dt:V0.1.length≤80000000000000:=by
    have:=B7j (fun s x=>C1z ps d s.next (k+1) x) (fun s x=>B7c ps d _ _ x) b.vals hv P []
    rw[bk.out] at this
    simp only[List.length_nil,Nat.zero_add] at this
    have h5:P.length*5000000000000≤16*5000000000000:=Nat.mul_le_mul_right _ au
    exact Nat.le_trans this (Nat.le_trans h5 (by decide))
   have hL2:U0.1.length≤1099532599296:=by
    have:=D2d b.unk [] fun r hr=>(dl r hr).2
    rw[bh.out] at this
    simp only[List.length_nil,Nat.zero_add] at this
    have h5:(BO.unk b).length*1048596≤1048576*1048596:=Nat.mul_le_mul_right _ a8
    exact Nat.le_trans this (Nat.le_trans h5 (by decide))
   have bt:n5=V0.1.length:=aw.len
   have ej:Hid (n5=V0.1.length):=bt
   have dx:n5≤80000000000000:=by rw[bt];exact dt
   clear hE bt
   go_wp2_with fail
   refine cg.mono ?_
   rintro e w4 ⟨a6,n6,c6,rfl,bv,dg⟩
   have bg:Below W0.heap.size W0 w4:=KBT ag dg
   have bu:n6=U0.1.length:=bv.len
   have eo:Hid (n6=U0.1.length):=bu
   have dy:n6≤1099532599296:=by rw[bu];exact hL2
   clear bu cg
   by_cases hE2:E2=0
   ·have bp:(E2 != 0)=false:=by simp[hE2]
    have HF:Hid (R=((V0.1++U0.1).take 4001,0)):=by
     show _=_;rw[ac.out,if_neg (by simp[hE2])]
    have aj:=aw.below dg
    obtain⟨q1,q2,q3⟩:=C1e bv.rdY
    clear hE2 aw
    go_wp2_with (at_builtin;refine A1o (by rfl) ekY _ _ (by rfl) W0.heap.size (.slice a5 n5 c5) _ U0.1 (by rfl) aj a6 n6 c6 (by rfl) q1 q2 q3 (by decide) ?d2 bg.size ?_)
    case d2=>
     rw[show ekY.bytes=1 from rfl,Nat.mul_one]
     omega
    intro v' w7 bw dw
    obtain⟨a7,n7,c7,rfl,_⟩:=bw.shape'
    have dp:Below W0.heap.size W0 w7:=bg.grown dw bg.size (fun k hk=>(aj.own k hk).1)
    have hen:=C5g bw
    clear bw aj bv
    go_wp2_with fail
    refine hen.mono ?_
    rintro e w8 ⟨m,rfl,ee,rfl⟩
    go_wp2
    go_ret2
    exact⟨a7,m,c7,by rw[HF.out];rfl,by rw[HF.out];exact ee.mono (by omega),KBT hb0 dp⟩
   ·have bp:(E2 != 0)=true:=by simpa using hE2
    have HF:Hid (R=([],E2)):=by
     show _=_;rw[ac.out,if_pos hE2]
    clear hE2
    go_wp2
    go_ret2
    exact⟨none,0,0,by rw[HF.out];rfl,by rw[HF.out];exact Row.nil _ _ _,KBT hb0 bg⟩
  ·have dr:(E1 != 0)=true:=by simpa using hE
   rw[if_pos hE] at ac
   have ac:Hid (R=([],E1)):=ac
   clear hE
   go_wp2
   go_ret2
   exact⟨none,0,0,by rw[ac.out];rfl,by rw[ac.out];exact Row.nil _ _ _,KBT hb0 ag⟩
theorem D1k {ps:List (List TI)}(ac:E1c ps):∀ d,B5o ps d
 | 0=>fun _ _ _ _ _ _ _ _ _ _ _ _ hq _=>hq.elim
 | d+1=>D5w ac (D1k ac d)
theorem B5i {n:Nat}:∀ (l:List (List TI)) (i:Nat),(A5m n i l).1=0→∀ p∈l,A3y p n=0
 | [],_,_,_,hp=>by cases hp
 | q::l,i,h,p,hp=>by
  rw[A5m] at h
  split at h
  ·rename_i h0;exact absurd h h0
  ·rename_i h0
   rcases List.mem_cons.1 hp with rfl|hp
   ·simpa using h0
   ·exact B5i l _ h p hp
theorem B5j {n:Nat}:∀ (l:List TI) (a:Int),A5n n l a=0→∀ s∈l,∃ a,A3c s a n=0
 | [],_,_,_,hp=>by cases hp
 | q::l,a,h,s,hs=>by
  rw[A5n] at h
  split at h
  ·rename_i h0;exact absurd h h0
  ·rename_i h0
   rcases List.mem_cons.1 hs with rfl|hs
   ·exact⟨a,by simpa using h0⟩
   ·exact B5j l _ h s hs
theorem D8s (k:Int):0≤A2e k∧A2e k≤7:=by
 unfold A2e;split
 ·omega
 ·split
  ·omega
  ·split <;> omega
theorem D2t {s:TI}{a:Int}{n:Nat}(h:A3c s a n=0):E1d n s:=by
 unfold A3c at h
 split at h
 ·cases h
 ·split at h
  ·cases h
  ·split at h
   ·cases h
   ·split at h
    ·cases h
    ·split at h
     ·cases h
     ·rename_i h1 h2 h3 h4 h5
      have h6:s.how=A2e s.field:=by
       simp only[D7e,Bool.not_eq_true,Bool.or_eq_false_iff,decide_eq_false_iff_not,ne_eq,Decidable.not_not] at h4
       exact h4.1
      have hb:=D8s s.field
      refine⟨by omega,by omega,by omega,by omega,by omega,by omega,fun e4=>?_⟩
      simp only[C1m,e4,if_true,Bool.not_eq_true,Bool.or_eq_false_iff,decide_eq_false_iff_not] at h5
      omega
theorem D2r {l:List (List TI)}(h:(A3x l).1=0):E1c l:=by
 unfold A3x at h
 split at h
 ·cases h
 ·rename_i h1
  refine⟨by omega,fun p hp=>?_⟩
  have h2:=B5i l _ h p hp
  unfold A3y at h2
  split at h2
  ·cases h2
  ·refine⟨by omega,fun s hs=>?_⟩
   obtain⟨a,ha⟩:=B5j p _ h2 s hs
   exact D2t ha
def C1l (r:List UInt8×Int):List UInt8×Int:=if r.2≠0 then([],r.2) else if 4000<r.1.length then([],4) else(r.1,0)
def D2u (ps:List (List TI))(p:Int)(d:Nat)(b:BO (BI d)):List UInt8×Int:=
 if (A3x ps).1≠0 then([],(A3x ps).1) else if p<0∨(ps.length:Int)≤p then([],6) else C1l (C1z ps (d+1) p 1 b)
theorem D7y {ps:List (List TI)}{d:Nat}{w:World}{vl v0 v1:Value}{p:Int}{b:BO (BI d)}(hl:RdL 1 PrAt w vl ps)(hq:BRd d w v0 v1 b)(hsm:OSm (BSm d) b) :
  Calls Tryz.prog 14 #[vl,.int .i64 p,.agg #[v0,v1]] w fun e w'=>∃ ao n c,e = .returned (.tuple #[.slice ao n c,.int .i64 (D2u ps p d b).2])∧Row ekY w' w.heap.size (.slice ao n c) (D2u ps p d b).1∧Below w.heap.size w w':=by
 obtain⟨al,nl,cl,rfl,aj,bk⟩:=hl.shape
 obtain⟨a0,n0,c0,rfl,H0,_⟩:=hq.1.shape
 obtain⟨a1,n1,c1,rfl,H1,_⟩:=hq.2.shape
 obtain⟨R,HR⟩:∃ R,Hid (D2u ps p d b=R):=⟨_,rfl⟩
 rw[HR.out]
 obtain⟨W0,ah⟩:∃ W0,Hid (W0=w.alloc (.cells #[.slice a0 n0 c0,.slice a1 n1 c1] 29)):=⟨_,rfl⟩
 have hb0:Below w.heap.size w W0:=by rw[ah.out];exact(Below.refl _ _).alloc (Nat.le_refl _) _
 have hz0:w.heap.size+1≤W0.heap.size:=by rw[ah.out];simp
 have x0:W0.heap[w.heap.size]?=some (.cells #[.slice a0 n0 c0,.slice a1 n1 c1] 29 (0,0)):=by rw[ah.out];exact heap_alloc_new _ _
 have hwr:=B4d (hl.below PrAt.stays hb0)
 obtain⟨E,I,HE⟩:∃ E I,Hid (A3x ps=(E,I)):=⟨_,_,rfl⟩
 rw[HE.out] at hwr
 go_enter Tryz.func14,Tryz.ntmps14
 go_wp2_with fail
 rw[←ah.out]
 refine hwr.mono ?_
 rintro e w1 ⟨rfl,hb1⟩
 obtain⟨W2,ag⟩:∃ W2,Hid (W2=w1.alloc (.cells #[.int .i64 E,.int .i64 (I:Int)] 50)):=⟨_,rfl⟩
 have hb2:Below w1.heap.size w1 W2:=by rw[ag.out];exact(Below.refl _ _).alloc (Nat.le_refl _) _
 have hz1:=hb1.size
 have ac:Below w.heap.size w W2:=KBT (KBT hb0 hb1) hb2
 have x2:W2.heap[w1.heap.size]?=some (.cells #[.int .i64 E,.int .i64 (I:Int)] 50 (0,0)):=by rw[ag.out];exact heap_alloc_new _ _
 obtain⟨t0,t1⟩:=A0r x2
 clear hwr
 by_cases hE:E=0
 ·subst hE
  obtain⟨u0,u1⟩:=A0r ((hb2.block _ (by omega)).trans ((hb1.block _ (by omega)).trans x0))
  rw[ag.out] at u0 u1
  have aw:E1c ps:=D2r (by rw[HE.out])
  by_cases hp:p<0∨(ps.length:Int)≤p
  ·have HF:Hid (R=([],6)):=by
    show _=_;rw[←HR.out,D2u,HE.out,if_neg (by simp),if_pos hp]
   by_cases a8:p<0
   rotate_right
   focus
    have bg:(nl:Int)≤p:=by rw[aj.out];omega
   rotate_right
   all_goals
    clear hp
    go_wp2_with fail
    rw[←ag.out]
    go_ret2
    exact⟨none,0,0,by rw[HF.out];rfl,by rw[HF.out];exact Row.nil _ _ _,ac⟩
  ·have HF:Hid (R=C1l (C1z ps (d+1) p 1 b)):=by
    show _=_;rw[←HR.out,D2u,HE.out,if_neg (by simp),if_neg hp]
   have a8:¬ p<0:=by omega
   have bg:¬ (nl:Int)≤p:=by rw[aj.out];omega
   have hc:=D1k aw (d+1) W2 _ _ _ p 1 b (hl.below PrAt.stays ac) (by omega) (by omega) (by omega) (by omega) (hq.below ac) hsm
   have au:=B7c ps (d+1) p 1 b
   obtain⟨L,E,HL⟩:∃ L E,Hid (C1z ps (d+1) p 1 b=(L,E)):=⟨_,_,rfl⟩
   rw[HL.out] at hc au
   have HF:Hid (R=if E≠0 then([],E) else if 4000<L.length then([],4) else(L,0)):=by
    show _=_;rw[HF.out,HL.out];rfl
   clear hp
   go_wp2_with fail
   rw[←ag.out]
   refine hc.mono ?_
   rintro e w3 ⟨a,m,c,rfl,hr,hb3⟩
   have hm:m=L.length:=hr.len
   have Hm:Hid (m=L.length):=hm
   have bh:m≤4001:=by rw[hm];exact au
   have hB:=KBT ac hb3
   clear hm hc
   by_cases hE:E=0
   ·have ak:(E != 0)=false:=by simp[hE]
    by_cases h4:4000<m
    ·have HF:Hid (R=([],4)):=by show _=_;rw[HF.out,if_neg (by simp[hE]),if_pos (by rw[←Hm.out];exact h4)]
     have hi:(4000:Int)<(m:Int):=by omega
     clear hE
     go_wp2
     go_ret2
     exact⟨none,0,0,by rw[HF.out];rfl,by rw[HF.out];exact Row.nil _ _ _,hB⟩
    ·have HF:Hid (R=(L,0)):=by show _=_;rw[HF.out,if_neg (by simp[hE]),if_neg (by rw[←Hm.out];exact h4)]
     have hi:¬ (4000:Int)<(m:Int):=by omega
     clear hE
     go_wp2
     go_ret2
     exact⟨a,m,c,by rw[HF.out];rfl,by rw[HF.out];exact hr.mono ac.size,hB⟩
   ·have ak:(E != 0)=true:=by simpa using hE
    have HF:Hid (R=([],E)):=by show _=_;rw[HF.out,if_pos hE]
    clear hE
    go_wp2
    go_ret2
    exact⟨none,0,0,by rw[HF.out];rfl,by rw[HF.out];exact Row.nil _ _ _,hB⟩
 ·have ak:(E != 0)=true:=by simpa using hE
  have HF:Hid (R=([],E)):=by
   show _=_;rw[←HR.out,D2u,HE.out,if_pos hE]
  have hd:Below w.heap.size w W2.drew:=ac.drew
  clear hE
  go_wp2_with fail
  rw[←ag.out]
  go_region
  all_goals
   go_wp2_with fail
   go_ret2
   exact⟨none,0,0,by rw[HF.out];rfl,by rw[HF.out];exact Row.nil _ _ _,hd⟩
end L
end Go.Proofs.YtgaoojpakjjdnaaGreatDoor
