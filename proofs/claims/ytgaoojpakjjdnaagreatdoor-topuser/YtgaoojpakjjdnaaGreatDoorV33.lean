import Derived.Test.YtgaoojpakjjdnaaGreatDoorV32
import Derived.Test.YtgaoojpakjjdnaaGreatDoorV19
import Derived.Test.YtgaoojpakjjdnaaGreatDoorV30
import Derived.Test.YtgaoojpakjjdnaaGreatDoorV27
set_option maxHeartbeats 32000000
set_option maxRecDepth 100000
namespace Go.Proofs.YtgaoojpakjjdnaaGreatDoor
namespace L
open Go.RowKit
set_option linter.unusedVariables false
theorem A5b {fs:List FI}{n:Int}{x:FI}(h:fs.find? (isF n)=some x):A0q fs n=x:=by
 unfold A0q
 rw[show fs.find? (fun f=>decide (f.number=n))=some x from h]
 rfl
theorem B8j {g:GI}{t:List UInt8}{m:MI}(h:g.msgs.find? (isN t)=some m):A4i g t=m:=by
 unfold A4i
 rw[show g.msgs.find? (fun m=>decide (m.name=t))=some m from h]
 rfl
def BVn:(d:Nat)→BI d→Prop
 | 0=>fun _=>True
 | d+1=>fun b=>(BO.vals b).length≤1048576∧∀ v∈BO.vals b,∀ s∈v.subs,BVn d s
theorem B6y {g:GI}(ah:D5w g):∀ (d:Nat) (k:Int) (m:MI) (b:BI d),m∈g.msgs→BVn d b→A3n g d k m.fields b=0→D4p g d m b
 | 0,_,_,b,_,_,_=>nomatch (b:Empty)
 | d+1,k,m,b,hm,hs,h=>by
  obtain⟨_,hr,_⟩:=A5w h
  refine⟨hs.1,fun v hv=>?_⟩
  obtain⟨x,hx⟩:=hr.each v hv
  have ef:=A5b hx.fld
  have aw:=List.mem_of_find?_eq_some hx.fld
  refine⟨⟨x,aw,A4o hx.fld⟩,fun aj kh a8=>?_,fun aj=>?_⟩
  ·rw[ef] at aj kh a8
   have ac:=hx.misc
   have ag:=hx.others
   unfold A1d at ag
   have ba:¬ (x.kind=8∨x.kind=9):=fun h=>kh (by unfold A3j;rcases h with h|h <;> simp[h])
   rw[if_neg ba,if_neg aj] at ag
   have hz:v.bytes.length+v.subs.length=0:=by simpa using ag
   intro e
   unfold A5f A1h at ac
   rw[e] at ac
   simp only[List.length_nil,Bool.or_eq_false_iff,decide_eq_false_iff_not] at ac
   have:=ac.1
   omega
  ·rw[ef] at aj ⊢
   obtain⟨m',ak⟩:=ah m hm x aw aj
   have au:=List.mem_of_find?_eq_some ak
   have e:=B8j (g:=g) (t:=x.type) ak
   refine⟨⟨m',au,by have:=List.find?_some ak;simpa using this⟩,fun s hs'=>?_⟩
   have hz:=hx.subs s hs'
   unfold A2a at hz
   rw[ak] at hz
   show D4p g d (A4i g x.type) s
   rw[e]
   exact B6y ah d (k+1) m' s au (hs.2 v hv s hs') hz
def C1i (g:GI) (d:Nat) (msg:Int) (x:BI (d+1)):List UInt8×Int:=
 if A2u g d msg x≠0 then([],A2u g d msg x)
 else match g.msgs[msg.toNat]? with
  | some m=>A1q g (d+1) m x
  | none=>([],6)
theorem B7k {g:GI}{d:Nat}{msg:Int}{x:BI (d+1)}(h:A2u g d msg x=0):(wrongL g).1=0∧∃ (j:Nat) (m:MI),msg=(j:Int)∧g.msgs[j]?=some m∧A3n g (d+1) 1 m.fields x=0:=by
 unfold A2u at h
 split at h
 ·rename_i h1
  exact absurd h h1
 ·rename_i h1
  split at h
  ·cases h
  ·rename_i h2
   split at h
   ·rename_i m hm
    exact⟨by omega,msg.toNat,m,by omega,hm,h⟩
   ·cases h
theorem B9y:∀ (ns l:List Int),l.Nodup→(∀ a∈l,a∈ns)→l.length≤ns.length
 | [],l,_,h=>by
  cases l with
  | nil=>simp
  | cons a l=>exact absurd (h a (List.mem_cons_self ..)) (by simp)
 | n::ns,l,hn,h=>by
  have h1:=B9y ns (l.erase n) (hn.erase n) fun a ha=>by
   obtain⟨h2,h3⟩:=hn.mem_erase_iff.1 ha
   rcases List.mem_cons.1 (h a h3) with rfl|h4
   ·exact absurd rfl h2
   ·exact h4
  rw[List.length_cons]
  by_cases hm:n∈l
  ·rw[List.length_erase_of_mem hm] at h1
   omega
  ·rw[List.erase_of_not_mem hm] at h1
   omega
theorem D4c {β:Type}{fs:List FI}{f:List UInt8→β→Int}{l:List (VI β)}(h:RtL fs f l):l.length≤fs.length:=by
 have h1:=B9y (fs.map FI.number) (l.map VI.number) (by
  rw[List.Nodup,List.pairwise_map]
  exact h.rise.imp fun hab e=>by omega) fun a ha=>by
   obtain⟨v,hv,rfl⟩:=List.mem_map.1 ha
   obtain⟨x,hx⟩:=h.each v hv
   rw[←A4o hx.fld]
   exact List.mem_map_of_mem (List.mem_of_find?_eq_some hx.fld)
 simpa using h1
theorem C8n {num how:Int}{bits len:Nat}(h:A0x num how bits len=0):len≤4000:=by
 unfold A0x at h
 split at h
 ·cases h
 ·split at h
  ·cases h
  ·rename_i h1
   split at h
   ·cases h
   ·split at h
    ·cases h
    ·split at h
     ·cases h
     ·split at h
      ·cases h
      ·rename_i h2
       by_cases h3:how=2
       ·exact Nat.le_of_not_lt fun h4=>h1 ⟨h3,h4⟩
       ·exact Nat.le_of_not_lt fun h4=>h2 ⟨h3,by omega⟩
theorem B6z {g:GI}(aj:(wrongL g).1=0):∀ (d:Nat) (k:Int) (m:MI) (b:BI d),m∈g.msgs→BOk d b→A3n g d k m.fields b=0→BSw d b∧BVn d b
 | 0,_,_,b,_,_,_=>nomatch (b:Empty)
 | d+1,k,m,b,hm,hok,h=>by
  obtain⟨_,hr,hu⟩:=A5w h
  have hl:=D4c hr
  have au:=(C6y ((B1q aj).2.2 m hm)).1
  have ac:∀ v∈BO.vals b,∀ s∈v.subs,BSw d s∧BVn d s:=fun v hv s hs=>by
   obtain⟨x,hx⟩:=hr.each v hv
   have ag:x.kind=10:=A7i hx.others (fun e=>by rw[e] at hs;cases hs)
   obtain⟨M,hM⟩:=A5i aj m hm x (List.mem_of_find?_eq_some hx.fld) ag
   have hz:=hx.subs s hs
   unfold A2a at hz
   rw[hM] at hz
   exact B6z aj d (k+1) M s (List.mem_of_find?_eq_some hM) ((hok.1 v hv).2.2.2.2.2.1 s hs) hz
  refine⟨⟨fun v hv=>?_,hok.2.2.2,fun r ak=>?_⟩,by omega,fun v hv s hs=>(ac v hv s hs).2⟩
  ·obtain⟨x,hx⟩:=hr.each v hv
   have ah:=hx.misc
   unfold A5f A1h at ah
   simp only[Bool.or_eq_false_iff,decide_eq_false_iff_not] at ah
   have aw:=ah.2.1
   refine⟨by omega,fun n hn=>by have:=(hok.1 v hv).2.1 n hn;omega,by omega,fun z hz=>?_,by omega,fun s hs=>(ac v hv s hs).1⟩
   have:=hx.bytes z hz
   unfold A2l at this
   split at this
   ·cases this
   ·omega
  ·have h1:=hu r ak
   have h2:=hok.2.2.1 r ak
   refine⟨by have:=h2.2.2.1;omega,?_⟩
   unfold B0i at h1
   split at h1
   ·rename_i h3
    have:=C8n h3
    omega
   ·rename_i h3
    exact absurd h1 h3
theorem C0l {g:GI}{d:Nat}{msg:Int}{x:BI (d+1)}(ac:BOk (d+1) x) (h:A2u g d msg x=0):BSw (d+1) x∧BVn (d+1) x:=by
 obtain⟨h1,j,m,_,hm,he⟩:=B7k h
 exact B6z h1 (d+1) 1 m x (List.mem_of_getElem? hm) ac he
theorem B5o {g:GI}{am:Option Addr}{nm cm:Nat}{ae:Option Addr}{ne ce:Nat}{msg:Int}{w:World}(hI:WIn g am nm cm ae ne ce msg w){d:Nat}{a0 a1:Option Addr}{n0 c0 n1 c1:Nat}{x:BI (d+1)}(hq:BRd d w (.slice a0 n0 c0) (.slice a1 n1 c1) x) (aj:BOk (d+1) x) :
  Calls Tryz.prog 8 #[.agg #[.slice am nm cm,.slice ae ne ce],.int .i64 msg,.agg #[.slice a0 n0 c0,.slice a1 n1 c1]] w fun e w'=>∃ ao n c,e = .returned (.tuple #[.slice ao n c,.int .i64 (C1i g d msg x).2])∧Row ekY w' w.heap.size (.slice ao n c) (C1i g d msg x).1∧Below w.heap.size w w':=by
 obtain⟨W2,ag⟩:∃ W2,Hid (W2=(w.alloc (.cells #[.slice am nm cm,.slice ae ne ce] 25)).alloc (.cells #[.slice a0 n0 c0,.slice a1 n1 c1] 29)):=⟨_,rfl⟩
 have hb2:Below w.heap.size w W2:=by rw[ag.out];exact((Below.refl _ _).alloc (Nat.le_refl _) _).alloc (by simp) _
 have z2:w.heap.size+2≤W2.heap.size:=by rw[ag.out];simp
 have x1:W2.heap[w.heap.size]?=some (.cells #[.slice am nm cm,.slice ae ne ce] 25 (0,0)):=by rw[ag.out];exact A0m _ _ _
 have x2:W2.heap[w.heap.size+1]?=some (.cells #[.slice a0 n0 c0,.slice a1 n1 c1] 29 (0,0)):=by rw[ag.out];exact A0i _ _ _
 obtain⟨Q,HQ⟩:∃ Q,Hid (A2u g d msg x=Q):=⟨_,rfl⟩
 have hwr:=(hI.below hb2).wrong (hq.below hb2) aj
 rw[HQ.out] at hwr
 obtain⟨R,HR⟩:∃ R,Hid (C1i g d msg x=R):=⟨_,rfl⟩
 rw[HR.out]
 obtain⟨y0,y1⟩:=A0t x1
 obtain⟨y2,y3⟩:=A0t x2
 have HI:Hid (WIn g am nm cm ae ne ce msg w):=hI
 have bk:Hid (BRd d w (.slice a0 n0 c0) (.slice a1 n1 c1) x):=hq
 have bl:Hid (A2u g d msg x=0→BSw (d+1) x):=fun hz=>(C0l aj hz).1
 have bn:Hid (A2u g d msg x=0→BVn (d+1) x):=fun hz=>(C0l aj hz).2
 clear hI hq aj
 go_enter Tryz.func8,Tryz.ntmps8
 go_upto_region 1 with fail
 rw[←ag.out]
 go_wp2_with fail
 refine hwr.mono ?_
 rintro e w3 ⟨rfl,hb3⟩
 have au:Below w.heap.size w w3:=BTr hb2 hb3
 clear y0 y1 y2 y3 hwr
 by_cases hQ0:Q=0
 ·subst hQ0
  obtain⟨hr,j,M,Hj,hM,bg⟩:=B7k HQ.out
  have HT:Hid (R=A1q g (d+1) M x):=by
   show _=_
   rw[←HR.out,C1i,if_neg (by rw[HQ.out];simp),Hj,Int.toNat_natCast,hM]
  have bp:=HI.out.hg.1.len.1
  have bu:=(List.getElem?_eq_some_iff.1 hM).1
  have ah:=B6y (A5i hr) (d+1) 1 M x (List.mem_of_getElem? hM) (bn.out HQ.out) bg
  subst Hj
  obtain⟨bm,om,rfl,hat⟩:=HI.out.hg.1.get MAt.plain hM
  obtain⟨vf,vb,s0,s1,s2,ba,a8⟩:=hat.at
  obtain⟨af,nf,kf,rfl,_,_⟩:=ba.shape
  obtain⟨ab,nb,kb,rfl,_,_⟩:=a8.shape
  have bv:(j:Int) < (nm:Int):=by omega
  have bt:¬ (j:Int) < 0:=by omega
  have hd:Below W2.heap.size W2 w3.drew:=hb3.drew
  have ac:∀ V,Below W2.heap.size W2 V→V.cell? ⟨w.heap.size,0,none⟩=some (.slice (some ⟨bm,om,none⟩) nm cm)∧V.cell? ⟨w.heap.size,1,none⟩=some (.slice ae ne ce)∧V.cell? ⟨w.heap.size+1,0,none⟩=some (.slice a0 n0 c0)∧V.cell? ⟨w.heap.size+1,1,none⟩=some (.slice a1 n1 c1)∧V.cell? ⟨bm,om+j*3,none⟩=some (.string (S M.name))∧V.cell? ⟨bm,om+j*3+1,none⟩=some (.slice af nf kf)∧V.cell? ⟨bm,om+j*3+2,none⟩=some (.slice ab nb kb):=fun V hV=>by
   have bc:Below w.heap.size w V:=BTr hb2 hV
   obtain⟨e1,e2⟩:=A0t ((hV.block _ (by omega)).trans x1)
   obtain⟨e3,e4⟩:=A0t ((hV.block _ (by omega)).trans x2)
   exact⟨e1,e2,e3,e4,A0c bc s0,A0c bc s1,A0c bc s2⟩
  have hwt:∀ U,Below W2.heap.size W2 U→Calls Tryz.prog 19 #[.agg #[.slice (some ⟨bm,om,none⟩) nm cm,.slice ae ne ce],.agg #[.string (S M.name),.slice af nf kf,.slice ab nb kb],.agg #[.slice a0 n0 c0,.slice a1 n1 c1]] U fun e w'=>∃ ao n c,e = .returned (.tuple #[.slice ao n c,.int .i64 R.2])∧Row ekY w' U.heap.size (.slice ao n c) R.1∧Below U.heap.size U w':=fun U hU=>by
   have ak:Below w.heap.size w U:=BTr hb2 hU
   rw[HT.out]
   exact C0w g (d+1) U _ _ _ _ _ _ M x (HI.out.hg.below ak) (ba.below FAt.stays ak) (a8.below NAt.stays ak) (bk.out.below ak) (bl.out HQ.out) ah
  clear hat s0 s1 s2 ba a8 hM bg ah bp bu
  go_upto_region 4 with fail
  refine wp_region_held_drew (S:=fun U=>Below W2.heap.size W2 U) (by kernel_rfl) hd (fun hHeld=>?_)
  refine tK (i:=0) (v:=?vr1) rfl ⟨by rfl,?hyr1⟩ ?_
  case hyr1=>(intro W h;have:=ac W h;go_simp;first|done|with_reducible rfl)
  try simp only[pT,Act.put]
  refine tK (i:=1) (v:=?vr2) rfl ⟨by rfl,?hyr2⟩ ?_
  case hyr2=>(intro W h;have:=ac W h;go_simp;first|done|with_reducible rfl)
  try simp only[pT,Act.put]
  refine tK (i:=2) (v:=?vr3) rfl ⟨by rfl,?hyr3⟩ ?_
  case hyr3=>(intro W h;have:=ac W h;go_simp;first|done|with_reducible rfl)
  try simp only[pT,Act.put]
  refine tK (i:=3) (v:=?vr4) rfl ⟨by rfl,?hyr4⟩ ?_
  case hyr4=>(intro W h;have:=ac W h;go_simp;first|done|with_reducible rfl)
  try simp only[pT,Act.put]
  refine tK (i:=4) (v:=?vr5) rfl ⟨by rfl,?hyr5⟩ ?_
  case hyr5=>(intro W h;have:=ac W h;go_simp;first|done|with_reducible rfl)
  try simp only[pT,Act.put]
  refine tK (i:=5) (v:=?vr6) rfl ⟨by rfl,?hyr6⟩ ?_
  case hyr6=>(intro W h;have:=ac W h;go_simp;first|done|with_reducible rfl)
  try simp only[pT,Act.put]
  refine tK (i:=6) (v:=?vr7) rfl ⟨by rfl,?hyr7⟩ ?_
  case hyr7=>(intro W h;have:=ac W h;go_simp;first|done|with_reducible rfl)
  try simp only[pT,Act.put]
  refine rA (i:=7) rfl fun K hK=>?_
  go_simp
  refine(hwt _ hd).mono ?_
  rintro e w5 ⟨az,nz,cz,rfl,bh,br⟩
  have bq:=BTr hd br
  refine hK.out _ _ ?_ (fun hHeld=>?_)
  ·(try dsimp only);with_reducible assumption
  clear hK K
  try simp only[pT,Act.put]
  refine tK (i:=8) (v:=?vr8) rfl ⟨by rfl,?hyr8⟩ ?_
  case hyr8=>(intro W h;have:=ac W h;go_simp;first|done|with_reducible rfl)
  try simp only[pT,Act.put]
  refine tK (i:=9) (v:=?vr9) rfl ⟨by rfl,?hyr9⟩ ?_
  case hyr9=>(intro W h;have:=ac W h;go_simp;first|done|with_reducible rfl)
  try simp only[pT,Act.put]
  refine tK (i:=10) (v:=?vr10) rfl ⟨by rfl,?hyr10⟩ ?_
  case hyr10=>(intro W h;have:=ac W h;go_simp;first|done|with_reducible rfl)
  try simp only[pT,Act.put]
  refine tK (i:=11) (v:=?vr11) rfl ⟨by rfl,?hyr11⟩ ?_
  case hyr11=>(intro W h;have:=ac W h;go_simp;first|done|with_reducible rfl)
  try simp only[pT,Act.put]
  refine wpAnyH_done (by kernel_rfl) ?_ _
  have hz3:=hb3.size
  have aw:Row ekY w5 w.heap.size (.slice az nz cz) R.1:=bh.mono (by show w.heap.size≤w3.heap.size;omega)
  clear bh
  go_wp2
  go_ret2
  exact⟨az,nz,cz,rfl,aw,BTr hb2 bq⟩
 ·have HT:Hid (R=([],Q)):=by show _=_;rw[←HR.out,C1i,if_pos (by rw[HQ.out];exact hQ0),HQ.out]
  have ez:(Q != 0)=true:=by simpa using hQ0
  go_wp2
  go_ret2
  exact⟨none,0,0,by rw[HT.out];rfl,by rw[HT.out];exact Row.nil _ _ _,au⟩
open Go.RowKit
set_option linter.unusedVariables false
theorem B9l (acc:List UInt8) (r:RI) (l:List RI):A3z acc (r::l)=if A0x r.number r.how r.bits r.bytes.length≠0 then([],A0x r.number r.how r.bits r.bytes.length) else if 4000 < (acc++recN r.number r.how r.bits r.bytes).length then([],4) else A3z (acc++recN r.number r.how r.bits r.bytes) l:=rfl
end L
end Go.Proofs.YtgaoojpakjjdnaaGreatDoor
namespace Go.Proofs.YtgaoojpakjjdnaaGreatDoor
open Go.RowKit
theorem C9s:∀ (f i acc m:Nat) (more:List UInt8),f+i=10→1≤f→m < 2 ^ (7*f)→m*2 ^ (7*i)≤18446744073709551615→
  A4l i acc (B4q f m++more)=(acc+m*2 ^ (7*i),i+(B4q f m).length,0):=by
 intro f
 induction f with
 | zero=>intro i acc m more _ h;omega
 | succ f ih=>
  intro i acc m more ag _ hm hb
  have h9:i=9→m≤1:=by
   intro e
   subst e
   rw[show 2 ^ (7*9)=9223372036854775808 from rfl] at hb
   omega
  by_cases hs:m < 128
  ·rw[B4r hs]
   have e:(UInt8.ofNat m).toNat=m:=by rw[UInt8.toNat_ofNat'];omega
   rw[List.cons_append,A4l,e,if_neg (by rintro⟨a,b⟩;have:=h9 a;omega),if_pos hs,Nat.mod_eq_of_lt hs]
   rfl
  ·rw[B8q hs]
   have e:(UInt8.ofNat (m%128+128)).toNat=m%128+128:=by rw[UInt8.toNat_ofNat'];omega
   have hi:i≠9:=fun a=>by have:=h9 a;omega
   have hp:2 ^ (7*(i+1))=128*2 ^ (7*i):=by rw[show 7*(i+1)=7+7*i by omega,Nat.pow_add]
   have hf2:=D2i hm hs
   have ac:m%128*2 ^ (7*i)+m / 128*2 ^ (7*(i+1))=m*2 ^ (7*i):=by
    rw[hp,←Nat.mul_assoc,←Nat.add_mul]
    congr 1
    omega
   rw[List.cons_append,A4l,e,if_neg (by rintro⟨a,_⟩;exact hi a),if_neg (by omega),
    ih (i+1) _ (m / 128) more (by omega) (by omega) (C0c hm) (by omega)]
   rw[show(m%128+128)%128=m%128 by omega,List.length_cons]
   refine Prod.ext ?_ (Prod.ext ?_ rfl)
   ·show acc+m%128*2 ^ (7*i)+m / 128*2 ^ (7*(i+1))=_
    omega
   ·show i+1+(B4q f (m / 128)).length=i+((B4q f (m / 128)).length+1)
    omega
theorem A8a (n:Nat) (more:List UInt8) (hn:n≤18446744073709551615):A4l 0 0 (A5u n++more)=(n,(A5u n).length,0):=by
 have:=C9s 10 0 0 n more rfl (by omega) (by omega) (by simpa using hn)
 rw[A5u,this]
 simp
theorem B4s (n:Nat):1≤(A5u n).length:=by
 rw[A5u,B4q];split <;> simp
end Go.Proofs.YtgaoojpakjjdnaaGreatDoor
namespace Go.Proofs.YtgaoojpakjjdnaaGreatDoor
theorem B3x (k n:Nat):A6b (B1g k n)=n%2 ^ (8*k):=by
 induction k generalizing n with
 | zero=>simp[B1g,A6b,Nat.mod_one]
 | succ k ih=>
  rw[B1g,A6b,ih,UInt8.toNat_ofNat',show 8*(k+1)=8+8*k by omega,Nat.pow_add,Nat.mod_mul]
theorem D1k {num how:Nat}{rest:List UInt8}(h1:1≤num) (h2:num < 536870912) (h3:how=0∨how=1∨how=2∨how=5):B8x (A5u (num*8+how)++rest)=(num,how,(A5u (num*8+how)).length,0):=by
 rw[B8x,A8a _ _ (by omega)]
 dsimp only
 unfold B7b
 rw[if_neg (by simp),if_neg (by omega),if_neg (by rw[show(num*8+how)%8=how by omega];exact B0z (by omega))]
 rw[show(num*8+how) / 8=num by omega,show(num*8+how)%8=how by omega]
theorem C3b {r:Rcd}(hw:0=A0x r.num r.how r.bits r.bytes.length) (hb:r.bits≤18446744073709551615) (m:List UInt8) :
  A6g (A9f r.num r.how r.bits r.bytes++m)=(r,(A9f r.num r.how r.bits r.bytes).length,0):=by
 obtain⟨num,how,bits,bytes⟩:=r
 dsimp only at hw hb ⊢
 obtain⟨q1,q2,q3,q4,q5,q6,q7⟩:=C0y hw
 obtain⟨N,rfl⟩:=Int.eq_ofNat_of_zero_le (show 0≤num by omega)
 obtain⟨H,rfl⟩:=Int.eq_ofNat_of_zero_le (show 0≤how by omega)
 unfold A9f
 rw[Int.toNat_natCast,Int.toNat_natCast,List.append_assoc,A6g,D1k (by omega) (by omega) (by omega)]
 dsimp only
 rw[if_neg (by simp),List.drop_left]
 by_cases h2:H=2
 ·have ht:A9y (H:Int) bits bytes=A5u bytes.length++bytes:=by unfold A9y;rw[if_pos (by omega)]
  rw[ht,A6h,if_pos h2]
  have hs:A5j ((A5u bytes.length++bytes)++m)=(bytes,(A5u bytes.length).length+bytes.length,0):=by
   rw[A5j,List.append_assoc,A8a _ _ (by omega)]
   dsimp only
   unfold A7m
   rw[if_neg (by simp),if_neg (by simp),List.drop_left,List.take_left]
  rw[hs]
  dsimp only
  rw[if_neg (by simp),q6 (by omega)]
  simp
 ·have ht:A9y (H:Int) bits bytes=if (H:Int)=0 then A5u bits else B1g (A1v (H:Int)) bits:=by unfold A9y;rw[if_neg (by omega)]
  rw[ht,A6h,if_neg h2]
  have hby:bytes = []:=List.eq_nil_of_length_eq_zero (q7 (by omega))
  subst hby
  have hs:A3c ((if (H:Int)=0 then A5u bits else B1g (A1v (H:Int)) bits)++m) (H:Int)=(bits,(if (H:Int)=0 then A5u bits else B1g (A1v (H:Int)) bits).length,0):=by
   unfold A3c
   by_cases h0:(H:Int)=0
   ·rw[if_pos h0,if_pos h0,A8a _ _ hb]
   ·rw[if_neg h0,if_neg h0,List.length_append,A8c,if_neg (by omega)]
    have e:(B1g (A1v (H:Int)) bits++m).take (A1v (H:Int))=B1g (A1v (H:Int)) bits:=List.take_left' (A8c _ _)
    rw[e,B3x]
    have hm:bits%2 ^ (8*A1v (H:Int))=bits:=by
     apply Nat.mod_eq_of_lt
     have hH:(H:Int)=1∨(H:Int)=5:=by omega
     rcases hH with e|e
     ·rw[e];show bits < 2 ^ 64;omega
     ·have:=q5 e;rw[e];show bits < 2 ^ 32;omega
    rw[hm]
  rw[hs]
  dsimp only
  rw[if_neg (by simp),List.length_append]
theorem D0x (num how:Int) (bits:Nat) (l:List UInt8):1≤(A9f num how bits l).length:=by
 have:=B4s (num.toNat*8+how.toNat)
 unfold A9f
 rw[List.length_append]
 omega
theorem B8n:∀ (rs:List Rcd) (i:Nat) (acc B:List UInt8) (a:Nat),(∀ r∈rs,r.bits≤18446744073709551615)→acc.length≤4000→A1s i acc rs=(B,0,a)→
  ∃ ag,B=acc++ag∧B.length≤4000∧∀ f k ac,ag.length≤f→A3e f k ac ag=(ac++rs,0,0):=by
 intro rs
 induction rs with
 | nil=>
  intro i acc B a _ ah h
  rw[A1s] at h
  obtain⟨rfl,_,_⟩:acc=B∧(0:Int)=0∧0=a:=by simpa using h
  refine⟨[],by simp,ah,?_⟩
  intro f k ac _
  rw[A7j rfl,List.append_nil]
 | cons r rest ih=>
  intro i acc B a hb ah h
  rw[A1s] at h
  split at h
  ·rename_i h0
   have:A0x r.num r.how r.bits r.bytes.length=0:=by simpa using congrArg (fun p=>p.2.1) h
   exact absurd this h0
  ·rename_i h0
   have hw:0=A0x r.num r.how r.bits r.bytes.length:=by
    rcases Decidable.em (A0x r.num r.how r.bits r.bytes.length=0) with e|e
    ·exact e.symm
    ·exact absurd e h0
   split at h
   ·have:(4:Int)=0:=by simpa using congrArg (fun p=>p.2.1) h
    omega
   ·rename_i h1
    obtain⟨ag,hB,hl,hp⟩:=ih (i+1) _ B a (fun q hq=>hb q (List.mem_cons_of_mem _ hq)) (by omega) h
    refine⟨A9f r.num r.how r.bits r.bytes++ag,by rw[hB,List.append_assoc],hl,?_⟩
    intro f k ac hf
    have aj:=D0x r.num r.how r.bits r.bytes
    rw[List.length_append] at hf
    obtain⟨g,rfl⟩:∃ g,f=g+1:=⟨f - 1,by omega⟩
    rw[A9b (by rw[List.length_append];omega) (C3b hw (hb r List.mem_cons_self) ag),List.drop_left,hp g _ _ (by omega),List.append_assoc]
    rfl
theorem B2h {rs:List Rcd}{B:List UInt8}{a:Nat}(hb:∀ r∈rs,r.bits≤18446744073709551615) (h:A1s 0 [] rs=(B,0,a)):B.length≤4000∧A2r B=(rs,0,0):=by
 obtain⟨ac,hB,hl,hp⟩:=B8n rs 0 [] B a hb (by simp) h
 rw[List.nil_append] at hB
 subst hB
 refine⟨hl,?_⟩
 rw[A2r,if_neg (by omega),hp _ _ _ (Nat.le_refl _)]
 rfl
end Go.Proofs.YtgaoojpakjjdnaaGreatDoor
namespace Go.Proofs.YtgaoojpakjjdnaaGreatDoor
set_option linter.unusedVariables false
theorem B4d:∀ (k n:Nat),L.klow k n=B1g k n
 | 0,_=>rfl
 | k+1,n=>by rw[L.klow,B1g,B4d k]
theorem D4a (num how:Int) (bits:Nat) (l:List UInt8):L.recN num how bits l=A9f num how bits l:=by
 unfold L.recN A9f L.ktagN A9y L.kputB
 by_cases h2:how=2
 ·rw[if_pos h2,if_pos h2]
 ·rw[if_neg h2,if_neg h2,B4d]
  rfl
theorem C4g {how:Int}(hh:how=0∨how=1∨how=5){n:Nat}(hn:n≤18446744073709551615) (h5:how=5→n < 4294967296) (rest:List UInt8):A3c (L.kputB how n++rest) how=(n,(L.kputB how n).length,0):=by
 rcases hh with rfl|rfl|rfl
 ·exact A8a n rest hn
 ·have e:L.kputB 1 n=B1g 8 n:=by unfold L.kputB;rw[if_neg (by decide)];exact B4d 8 n
  have hl:=A8c 8 n
  rw[e]
  unfold A3c
  rw[if_neg (by decide),show A1v 1=8 from rfl,if_neg (by rw[List.length_append,hl];omega),List.take_append_of_le_length (by omega),List.take_of_length_le (by omega),B3x,hl]
  rw[Nat.mod_eq_of_lt (by omega)]
 ·have e:L.kputB 5 n=B1g 4 n:=by unfold L.kputB;rw[if_neg (by decide)];exact B4d 4 n
  have hl:=A8c 4 n
  have:=h5 rfl
  rw[e]
  unfold A3c
  rw[if_neg (by decide),show A1v 5=4 from rfl,if_neg (by rw[List.length_append,hl];omega),List.take_append_of_le_length (by omega),List.take_of_length_le (by omega),B3x,hl]
  rw[Nat.mod_eq_of_lt (by omega)]
theorem C5n {how:Int}(hh:how=0∨how=1∨how=5) (n:Nat):1≤(L.kputB how n).length:=by
 unfold L.kputB
 rcases hh with rfl|rfl|rfl
 ·rw[if_pos rfl];exact B4s n
 ·rw[if_neg (by decide),L.klow_len];decide
 ·rw[if_neg (by decide),L.klow_len];decide
theorem B3c {how:Int}(hh:how=0∨how=1∨how=5):∀ (l:List Nat) (f:Nat) (acc:List Nat),(∀ n∈l,n≤18446744073709551615∧(how=5→n < 4294967296))→(l.flatMap (L.kputB how)).length≤f→L.unpGo how f (l.flatMap (L.kputB how)) acc=(acc++l,0)
 | [],f,acc,_,_=>by
  rw[List.flatMap_nil,L.unp_end rfl,List.append_nil]
 | n::l,f,acc,h,hf=>by
  have hp:=C5n hh n
  rw[List.flatMap_cons] at hf ⊢
  rw[List.length_append] at hf
  obtain⟨f',rfl⟩:∃ f',f=f'+1:=⟨f - 1,by omega⟩
  obtain⟨h1,h2⟩:=h n (List.mem_cons_self ..)
  rw[L.unp_go (by rw[List.length_append];omega) (C4g hh h1 h2 _),List.drop_left,B3c hh l f' _ (fun q hq=>h q (List.mem_cons_of_mem _ hq)) (by omega),List.append_assoc]
  rfl
theorem B8m {how:Int}(hh:how=0∨how=1∨how=5) (l:List Nat):L.packedN how l=l.flatMap (L.kputB how):=by
 unfold L.packedN
 rw[if_pos (by rcases hh with rfl|rfl|rfl <;> rfl)]
theorem B5b {how:Int}(hh:how=0∨how=1∨how=5){l:List Nat}(h:∀ n∈l,n≤18446744073709551615∧(how=5→n < 4294967296)):L.unpR how (L.packedN how l)=(l,0):=by
 unfold L.unpR
 rw[B8m hh,B3c hh l _ [] h (Nat.le_refl _),List.nil_append]
namespace L
open Go.RowKit
def D4r (r:RI):Rcd:=⟨r.number,r.how,r.bits,r.bytes⟩
theorem D6n (l:List RI):(l.map D4r).map B3a=l:=by
 rw[List.map_map]
 exact(List.map_congr_left (fun _ _=>rfl)).trans (List.map_id _)
theorem B5m:∀ (l:List RI) (i:Nat) (acc:List UInt8),∃ a,A1s i acc (l.map D4r)=((A3z acc l).1,(A3z acc l).2,a)
 | [],i,acc=>⟨0,rfl⟩
 | r::l,i,acc=>by
  rw[List.map_cons,A1s,B9l]
  show ∃ a,(if A0x r.number r.how r.bits r.bytes.length≠0 then _ else if 4000 < (acc++A9f r.number r.how r.bits r.bytes).length then _ else A1s (i+1) (acc++A9f r.number r.how r.bits r.bytes) (l.map D4r))=_
  rw[D4a]
  by_cases h1:A0x r.number r.how r.bits r.bytes.length≠0
  ·rw[if_pos h1,if_pos h1]
   exact⟨_,rfl⟩
  ·rw[if_neg h1,if_neg h1]
   by_cases h2:4000 < (acc++A9f r.number r.how r.bits r.bytes).length
   ·rw[if_pos h2,if_pos h2]
    exact⟨_,rfl⟩
   ·rw[if_neg h2,if_neg h2]
    exact B5m l (i+1) _
theorem C6h {l:List RI}(hb:∀ r∈l,r.bits≤18446744073709551615) (h:(A3z [] l).2=0):A2r (A3z [] l).1=(l.map D4r,0,0):=by
 obtain⟨a,ha⟩:=B5m l 0 []
 rw[h] at ha
 exact(B2h (fun r hr=>by
  obtain⟨q,hq,rfl⟩:=List.mem_map.1 hr
  exact hb q hq) ha).2
theorem D1l {kind:Int}{n:Nat}(hn:n < 18446744073709551616) (hf:A2t kind n=0):A3w kind (A4r kind n)=n:=by
 unfold A3w A4r
 by_cases h2:kind=2
 ·rw[if_pos h2,if_pos h2]
  have hb : -9223372036854775808≤IntKind.i64.wrap (n:Int)∧IntKind.i64.wrap (n:Int)≤9223372036854775807:=by rw[IntKind.wrap_i64];omega
  have h0:=(B8b _ hb.1 hb.2).1
  rw[Int.toNat_of_nonneg h0,C6d,IntKind.wrap_i64,IntKind.wrap_u64]
  omega
 ·rw[if_neg h2,if_neg h2]
  unfold A2t at hf
  by_cases h4:kind=4
  ·rw[if_pos h4]
   rw[if_neg (by omega),if_pos h4] at hf
   split at hf
   ·omega
   ·cases hf
  ·rw[if_neg h4]
   by_cases h5:kind=5
   ·rw[if_pos h5]
    rw[if_neg (by omega),if_neg h4,if_pos h5] at hf
    split at hf
    ·rename_i he
     unfold A5z at he
     simp only[Bool.or_eq_true,decide_eq_true_eq] at he
     split <;> omega
    ·cases hf
   ·rw[if_neg h5]
theorem B2o {kind:Int}{n:Nat}(hf:A2t kind n=0) (h5:A3j kind=5):A4r kind n < 4294967296:=by
 have hk:kind=7:=by
  unfold A3j at h5
  split at h5
  ·omega
  ·split at h5
   ·assumption
   ·split at h5 <;> omega
 subst hk
 unfold A2t at hf
 rw[if_neg (by decide),if_neg (by decide),if_neg (by decide),if_pos rfl] at hf
 unfold A4r
 rw[if_neg (by decide)]
 split at hf
 ·omega
 ·cases hf
open Go.RowKit
set_option linter.unusedVariables false
theorem B0u {β:Type}(q:Int→Bool) (n:Int):∀ l:List (VI β),(l.filter fun a=>q a.number).find? (isV n)=if q n then l.find? (isV n) else none
 | []=>by simp
 | a::l=>by
  have ih:=B0u q n l
  by_cases ha:a.number=n
  ·cases hq:q n with
   | true=>
    rw[List.filter_cons_of_pos (by rw[ha];exact hq),List.find?_cons_of_pos (by simp[isV,ha]),if_pos rfl,List.find?_cons_of_pos (by simp[isV,ha])]
   | false=>
    rw[List.filter_cons_of_neg (by rw[ha,hq];simp),ih,hq]
    rfl
  ·rw[List.find?_cons_of_neg (l:=l) (by simp[isV,ha])]
   by_cases hq:q a.number=true
   ·rw[List.filter_cons_of_pos (p:=fun a:VI β=>q a.number) hq,List.find?_cons_of_neg (by simp[isV,ha]),ih]
   ·rw[List.filter_cons_of_neg (p:=fun a:VI β=>q a.number) hq,ih]
theorem B4f {β:Type}{fs:List FI}{x:FI}{l:List (VI β)}{y:VI β}(hx:fs.find? (isF y.number)=some x) (n:Int) :
  (A3h fs x l y).find? (isV n)=if n=y.number then(if A0p x y then none else some y) else if A0n fs x n then none else l.find? (isV n):=by
 have hf:=B0u (fun n=>!A0n fs x n) n l
 have hs:=A8i hx
 unfold A3h
 by_cases hn:n=y.number
 ·rw[if_pos hn]
  subst hn
  rw[hs] at hf
  simp only[Bool.not_true,Bool.false_eq_true,if_false] at hf
  split
  ·exact hf
  ·have h1:∀ k,((l.filter fun a=>!A0n fs x a.number).take k).find? (isV y.number)=none:=fun k=>by
    rw[List.find?_eq_none] at hf ⊢
    exact fun a ha=>hf a (List.mem_of_mem_take ha)
   rw[List.append_assoc,List.find?_append,h1,Option.none_or,List.singleton_append,List.find?_cons_of_pos (by simp[isV])]
 ·rw[if_neg hn]
  have e:(if (!A0n fs x n)=true then l.find? (isV n) else none)=if A0n fs x n then none else l.find? (isV n):=by cases A0n fs x n <;> rfl
  rw[e] at hf
  split
  ·exact hf
  ·rw[←hf,List.append_assoc,List.find?_append,List.singleton_append,List.find?_cons_of_neg (by simp[isV];exact fun h=>hn h.symm),←List.find?_append,List.take_append_drop]
def ouB (fs:List FI) (m n:Int):Bool:=decide (0 < A1b fs m∧A1b fs n=A1b fs m)
theorem B2p {fs:List FI}{m:Int}{x:FI}(hx:fs.find? (isF m)=some x):A1b fs m=x.choice:=by
 have ac:fs.find? (fun y=>decide (y.number=m))=some x:=hx
 unfold A1b
 rw[ac]
theorem C6e {fs:List FI}{m n:Int}{x:FI}(hx:fs.find? (isF m)=some x) (hn:n≠m):A0n fs x n=ouB fs m n:=by
 have hm:=A4o hx
 have hc:=B2p hx
 unfold A0n ouB
 rw[hc,hm]
 by_cases h:x.choice≤0
 ·rw[if_pos h,decide_eq_false hn,decide_eq_false (by omega)]
 ·rw[if_neg h]
  by_cases e:A1b fs n=x.choice
  ·rw[decide_eq_true e,decide_eq_true ⟨by omega,e⟩]
  ·rw[decide_eq_false e,decide_eq_false (fun h=>e h.2)]
def orN {β:Type}(J:MI→β→β→β) (ms:List MI) (x:FI) (u:Option (VI β)) (v:VI β):VI β:=match u with
 | some u=>A5r J ms x u v
 | none=>v
theorem B6j {β:Type}{J:MI→β→β→β}{ms:List MI}{fs:List FI}{x:FI}{l:List (VI β)}{v:VI β}(hx:fs.find? (isF v.number)=some x) (hw:A0p x v=false) (n:Int) :
  (A3q J ms fs l v).find? (isV n)=if n=v.number then some (orN J ms x (l.find? (isV n)) v) else if ouB fs v.number n then none else l.find? (isV n):=by
 have ah:∀ u:VI β,A0p x (A5r J ms x u v)=false:=fun u=>by
  unfold A5r
  by_cases hm:x.many=true
  ·rw[if_pos hm];unfold A0p;rw[if_pos (.inl hm)]
  ·rw[if_neg hm]
   by_cases hk:x.kind=10
   ·rw[if_pos hk];unfold A0p;rw[if_pos (.inr (.inr hk))]
   ·rw[if_neg hk];exact hw
 unfold A3q
 rw[hx]
 cases hu:l.find? (isV v.number) with
 | none=>
  show(A3h fs x l v).find? (isV n)=_
  rw[B4f hx n,hw]
  by_cases hn:n=v.number
  ·rw[if_pos hn,if_pos hn,hn,hu];rfl
  ·rw[if_neg hn,if_neg hn,C6e hx hn]
 | some u=>
  have ag:u.number=v.number:=by have:=List.find?_some hu;simpa [isV] using this
  have ac:(A5r J ms x u v).number=v.number:=B4h ag
  show(A3h fs x l (A5r J ms x u v)).find? (isV n)=_
  rw[B4f (by rw[ac];exact hx) n,ah,ac]
  by_cases hn:n=v.number
  ·rw[if_pos hn,if_pos hn,hn,hu];rfl
  ·rw[if_neg hn,if_neg hn,C6e hx hn]
def D0e {β:Type}(J:MI→β→β→β) (ms:List MI) (fs:List FI) (n:Int) (l m:List (VI β)):Option (VI β):=match m.find? (isV n) with
 | some v=>some (orN J ms ((fs.find? (isF n)).getD ⟨[],0,0,[],false,0⟩) (l.find? (isV n)) v)
 | none=>if m.any (fun v=>ouB fs v.number n) then none else l.find? (isV n)
theorem B6i {β:Type}{J:MI→β→β→β}{ms:List MI}{fs:List FI}{f:List UInt8→β→Int}(n:Int):∀ (m l:List (VI β)),RtL fs f m→
  (m.foldl (A3q J ms fs) l).find? (isV n)=D0e J ms fs n l m
 | [],l,_=>by simp[D0e]
 | v::m,l,h=>by
  obtain⟨x,hx⟩:=h.each v (List.mem_cons_self ..)
  have h':RtL fs f m:=⟨fun a ha=>h.each a (List.mem_cons_of_mem _ ha),(List.pairwise_cons.1 h.rise).2,(List.pairwise_cons.1 h.apart).2⟩
  have hr:=(List.pairwise_cons.1 h.rise).1
  have hap:=(List.pairwise_cons.1 h.apart).1
  rw[List.foldl_cons,B6i n m _ h']
  unfold D0e
  rw[B6j hx.fld hx.without n]
  by_cases hn:n=v.number
  ·have e1:m.find? (isV n)=none:=List.find?_eq_none.2 fun a ha=>by
    have:=hr a ha
    simp[isV]
    omega
   have e2:m.any (fun a=>ouB fs a.number n)=false:=List.any_eq_false.2 fun a ha=>by
    have h3:=hap a ha
    unfold ouB
    rw[hn]
    simp only[decide_eq_true_eq,not_and]
    intro h4 h5
    rcases h3 with h3|h3
    ·omega
    ·exact h3 h5
   rw[e1,List.find?_cons_of_pos (by simp[isV,hn]),if_pos hn]
   simp only[e2,Bool.false_eq_true,if_false]
   rw[hn,hx.fld]
   rfl
  ·rw[if_neg hn,List.find?_cons_of_neg (by simp[isV];exact fun h=>hn h.symm)]
   cases hf:m.find? (isV n) with
   | none=>
    simp only[List.any_cons]
    by_cases h1:ouB fs v.number n=true <;> by_cases h2:(m.any fun v=>ouB fs v.number n)=true <;> simp only[h1,h2,if_true,if_false,Bool.or_true,Bool.false_eq_true,Bool.or_false]
   | some v2=>
    have ac:=List.mem_of_find?_eq_some hf
    have ag:v2.number=n:=by have:=List.find?_some hf;simpa [isV] using this
    have e3:ouB fs v.number n=false:=by
     have h3:=hap v2 ac
     unfold ouB
     rw[←ag]
     refine decide_eq_false fun h4=>?_
     rcases h3 with h3|h3
     ·omega
     ·exact h3 h4.2.symm
    rw[e3]
    rfl
open Go.RowKit
set_option linter.unusedVariables false
section
variable {β:Type}{J:MI→β→β→β}{ms:List MI}{fs:List FI}{a b:List (VI β)}{x:FI}
end
open Go.RowKit
set_option linter.unusedVariables false
theorem C0m {β:Type}:∀ {l m:List (VI β)},(l.Pairwise fun a b=>a.number < b.number)→(m.Pairwise fun a b=>a.number < b.number)→(∀ n,l.find? (isV n)=m.find? (isV n))→l=m
 | [],[],_,_,_=>rfl
 | [],b::m,_,_,h=>by
  have:=h b.number
  rw[List.find?_cons_of_pos (by simp[isV])] at this
  cases this
 | a::l,[],_,_,h=>by
  have:=h a.number
  rw[List.find?_cons_of_pos (by simp[isV])] at this
  cases this
 | a::l,b::m,hl,hm,h=>by
  have ha:=h a.number
  have hb:=h b.number
  rw[List.find?_cons_of_pos (by simp[isV])] at ha
  rw[List.find?_cons_of_pos (l:=m) (by simp[isV])] at hb
  have ma:=List.mem_of_find?_eq_some ha.symm
  have mb:=List.mem_of_find?_eq_some hb
  have ac:=(List.pairwise_cons.1 hl).1
  have ag:=(List.pairwise_cons.1 hm).1
  have hab:a=b:=by
   rcases List.mem_cons.1 ma with e|ma'
   ·exact e
   ·rcases List.mem_cons.1 mb with e|mb'
    ·exact e.symm
    ·have h1:=ag a ma'
     have h2:=ac b mb'
     omega
  subst hab
  congr 1
  refine C0m (List.pairwise_cons.1 hl).2 (List.pairwise_cons.1 hm).2 fun n=>?_
  by_cases hn:a.number=n
  ·have e1:l.find? (isV n)=none:=List.find?_eq_none.2 fun c hc=>by
    have:=ac c hc
    simp[isV]
    omega
   have e2:m.find? (isV n)=none:=List.find?_eq_none.2 fun c hc=>by
    have:=ag c hc
    simp[isV]
    omega
   rw[e1,e2]
  ·have:=h n
   rwa [List.find?_cons_of_neg (by simp[isV,hn]),List.find?_cons_of_neg (by simp[isV,hn])] at this
section
variable {β:Type}
theorem B2y {y:VI β}:∀ {l:List (VI β)},(l.Pairwise fun a b=>a.number < b.number)→(∀ a∈l,a.number≠y.number)→((l.take (A0y y.number l)++[y]++l.drop (A0y y.number l)).Pairwise fun a b=>a.number < b.number)
 | [],_,_=>by simp[A0y]
 | a::l,h,hn=>by
  have h1:=(List.pairwise_cons.1 h).1
  have h2:=(List.pairwise_cons.1 h).2
  have ha:=hn a (List.mem_cons_self ..)
  by_cases hlt:y.number < a.number
  ·have e:A0y y.number (a::l)=0:=by
    unfold A0y
    rw[List.findIdx?_cons,if_pos (by simpa using hlt)]
    rfl
   rw[e]
   simp only[List.take_zero,List.nil_append,List.drop_zero,List.singleton_append]
   refine .cons (fun b hb=>?_) h
   rcases List.mem_cons.1 hb with rfl|hb
   ·exact hlt
   ·have:=h1 b hb;omega
  ·have e:A0y y.number (a::l)=A0y y.number l+1:=by
    unfold A0y
    rw[List.findIdx?_cons,if_neg (by simpa using hlt)]
    cases l.findIdx? fun v=>decide (y.number < v.number) with
    | none=>rfl
    | some k=>rfl
   rw[e]
   simp only[List.take_succ_cons,List.drop_succ_cons,List.cons_append]
   refine .cons (fun b hb=>?_) (B2y h2 fun b hb=>hn b (List.mem_cons_of_mem _ hb))
   rcases List.mem_append.1 hb with hb|hb
   ·rcases List.mem_append.1 hb with hb|hb
    ·exact h1 b (List.mem_of_mem_take hb)
    ·rw[List.mem_singleton.1 hb];omega
   ·exact h1 b (List.mem_of_mem_drop hb)
theorem C0e {fs:List FI}{x:FI}{l:List (VI β)}{y:VI β}(hx:fs.find? (isF y.number)=some x) (h:l.Pairwise fun a b=>a.number < b.number):(A3h fs x l y).Pairwise fun a b=>a.number < b.number:=by
 have hf:=h.filter (fun a=>!A0n fs x a.number)
 unfold A3h
 split
 ·exact hf
 ·refine B2y hf fun a ha e=>?_
  have:=(List.mem_filter.1 ha).2
  rw[e,A8i hx] at this
  cases this
theorem C7i {J:MI→β→β→β}{ms:List MI}{fs:List FI}{l:List (VI β)}{v:VI β}(h:l.Pairwise fun a b=>a.number < b.number):(A3q J ms fs l v).Pairwise fun a b=>a.number < b.number:=by
 unfold A3q
 split
 ·exact h
 ·rename_i x hx
  split
  ·exact C0e hx h
  ·rename_i u hu
   have ac:u.number=v.number:=by have:=List.find?_some hu;simpa [isV] using this
   exact C0e (by rw[B4h ac];exact hx) h
theorem B5z {J:MI→β→β→β}{ms:List MI}{fs:List FI}:∀ (m l:List (VI β)),(l.Pairwise fun a b=>a.number < b.number)→((m.foldl (A3q J ms fs) l).Pairwise fun a b=>a.number < b.number)
 | [],_,h=>h
 | v::m,_,h=>B5z m _ (C7i h)
def D2u (fs:List FI) (l:List (VI β)):Prop:=∀ a∈l,∀ b∈l,a.number≠b.number→0 < A1b fs a.number→A1b fs a.number≠A1b fs b.number
end
open Go.RowKit
set_option linter.unusedVariables false
section
variable {g:GI}{d:Nat}
theorem B5w {x:FI}{M:MI}(h:g.msgs.find? (isN x.type)=some M):A2a g x.type=M.fields:=by
 have h':g.msgs.find? (fun m=>decide (m.name=x.type))=some M:=h
 unfold A2a
 rw[h']
end
end L
end Go.Proofs.YtgaoojpakjjdnaaGreatDoor
