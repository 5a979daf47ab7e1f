import Derived.Test.YtgaoojpakjjdnaaGreatDoorV33
set_option maxHeartbeats 32000000
set_option maxRecDepth 100000
set_option linter.unusedVariables false
namespace Go.Proofs.YtgaoojpakjjdnaaGreatDoor
namespace L
open Go.RowKit
theorem A1b {fs:List FI}{n:Int}{x:FI}(h:fs.find? (isF n)=some x):A0l fs n=x:=by
 unfold A0l
 rw[show fs.find? (fun f=>decide (f.number=n))=some x from h]
 rfl
theorem C0t {g:GI}{t:List UInt8}{m:MI}(h:g.msgs.find? (isN t)=some m):A2j g t=m:=by
 unfold A2j
 rw[show g.msgs.find? (fun m=>decide (m.name=t))=some m from h]
 rfl
def BVn:(d:Nat)→BI d→Prop
 | 0=>fun _=>True
 | d+1=>fun b=>(BO.vals b).length≤1048576∧∀ v∈BO.vals b,∀ s∈v.subs,BVn d s
theorem B8y {g:GI}(ah:D8f g):∀ (d:Nat) (k:Int) (m:MI) (b:BI d),m∈g.msgs→BVn d b→A1j g d k m.fields b=0→D6x g d m b
 | 0,_,_,b,_,_,_=>nomatch (b:Empty)
 | d+1,k,m,b,hm,hs,h=>by
  obtain⟨_,hr,_⟩:=A3d h
  refine⟨hs.1,fun v hv=>?_⟩
  obtain⟨x,hx⟩:=hr.each v hv
  have ef:=A1b hx.fld
  have aw:=List.mem_of_find?_eq_some hx.fld
  refine⟨⟨x,aw,A2d hx.fld⟩,fun aj kh ba=>?_,fun aj=>?_⟩
  ·rw[ef] at aj kh ba
   have ac:=hx.misc
   have ag:=hx.others
   unfold A0v at ag
   have bc:¬ (x.kind=8∨x.kind=9):=fun h=>kh (by unfold A3z;rcases h with h|h <;> simp[h])
   rw[if_neg bc,if_neg aj] at ag
   have hz:v.bytes.length+v.subs.length=0:=by simpa using ag
   intro e
   unfold A3p A1i at ac
   rw[e] at ac
   simp only[List.length_nil,Bool.or_eq_false_iff,decide_eq_false_iff_not] at ac
   have:=ac.1
   omega
  ·rw[ef] at aj ⊢
   obtain⟨m',ak⟩:=ah m hm x aw aj
   have au:=List.mem_of_find?_eq_some ak
   have e:=C0t (g:=g) (t:=x.type) ak
   refine⟨⟨m',au,by have:=List.find?_some ak;simpa using this⟩,fun s hs'=>?_⟩
   have hz:=hx.subs s hs'
   unfold A0r at hz
   rw[ak] at hz
   show D6x g d (A2j g x.type) s
   rw[e]
   exact B8y ah d (k+1) m' s au (hs.2 v hv s hs') hz
def C6f (g:GI)(d:Nat)(msg:Int)(x:BI (d+1)):List UInt8×Int:=
 if A2p g d msg x≠0 then([],A2p g d msg x)
 else match g.msgs[msg.toNat]? with
  | some m=>A0x g (d+1) m x
  | none=>([],6)
theorem B3s {g:GI}{d:Nat}{msg:Int}{x:BI (d+1)}(h:A2p g d msg x=0):(wrongL g).1=0∧∃ (j:Nat) (m:MI),msg=(j:Int)∧g.msgs[j]?=some m∧A1j g (d+1) 1 m.fields x=0:=by
 unfold A2p at h
 split at h
 ·rename_i h1
  exact absurd h h1
 ·rename_i h1
  split at h
  ·cases h
  ·rename_i h2
   split at h
   ·rename_i m hm
    exact⟨by omega,msg.toNat,m,by omega,hm,h⟩
   ·cases h
theorem C2f:∀ (ns l:List Int),l.Nodup→(∀ a∈l,a∈ns)→l.length≤ns.length
 | [],l,_,h=>by
  cases l with
  | nil=>simp
  | cons a l=>exact absurd (h a (List.mem_cons_self ..)) (by simp)
 | n::ns,l,hn,h=>by
  have h1:=C2f ns (l.erase n) (hn.erase n) fun a ha=>by
   obtain⟨h2,h3⟩:=hn.mem_erase_iff.1 ha
   rcases List.mem_cons.1 (h a h3) with rfl|h4
   ·exact absurd rfl h2
   ·exact h4
  rw[List.length_cons]
  by_cases hm:n∈l
  ·rw[List.length_erase_of_mem hm] at h1
   omega
  ·rw[List.erase_of_not_mem hm] at h1
   omega
theorem D6l {β:Type}{fs:List FI}{f:List UInt8→β→Int}{l:List (VI β)}(h:RtL fs f l):l.length≤fs.length:=by
 have h1:=C2f (fs.map FI.number) (l.map VI.number) (by
  rw[List.Nodup,List.pairwise_map]
  exact h.rise.imp fun hab e=>by omega) fun a ha=>by
   obtain⟨v,hv,rfl⟩:=List.mem_map.1 ha
   obtain⟨x,hx⟩:=h.each v hv
   rw[←A2d hx.fld]
   exact List.mem_map_of_mem (List.mem_of_find?_eq_some hx.fld)
 simpa using h1
theorem B9l {num how:Int}{bits len:Nat}(h:A0t num how bits len=0):len≤4000:=by
 unfold A0t at h
 split at h
 ·cases h
 ·split at h
  ·cases h
  ·rename_i h1
   split at h
   ·cases h
   ·split at h
    ·cases h
    ·split at h
     ·cases h
     ·split at h
      ·cases h
      ·rename_i h2
       by_cases h3:how=2
       ·exact Nat.le_of_not_lt fun h4=>h1 ⟨h3,h4⟩
       ·exact Nat.le_of_not_lt fun h4=>h2 ⟨h3,by omega⟩
theorem B8z {g:GI}(aj:(wrongL g).1=0):∀ (d:Nat) (k:Int) (m:MI) (b:BI d),m∈g.msgs→BOk d b→A1j g d k m.fields b=0→BSw d b∧BVn d b
 | 0,_,_,b,_,_,_=>nomatch (b:Empty)
 | d+1,k,m,b,hm,hok,h=>by
  obtain⟨_,hr,hu⟩:=A3d h
  have hl:=D6l hr
  have au:=(B4y ((A5f aj).2.2 m hm)).1
  have ac:∀ v∈BO.vals b,∀ s∈v.subs,BSw d s∧BVn d s:=fun v hv s hs=>by
   obtain⟨x,hx⟩:=hr.each v hv
   have ag:x.kind=10:=A8k hx.others (fun e=>by rw[e] at hs;cases hs)
   obtain⟨M,hM⟩:=A3x aj m hm x (List.mem_of_find?_eq_some hx.fld) ag
   have hz:=hx.subs s hs
   unfold A0r at hz
   rw[hM] at hz
   exact B8z aj d (k+1) M s (List.mem_of_find?_eq_some hM) ((hok.1 v hv).2.2.2.2.2.1 s hs) hz
  refine⟨⟨fun v hv=>?_,hok.2.2.2,fun r ak=>?_⟩,by omega,fun v hv s hs=>(ac v hv s hs).2⟩
  ·obtain⟨x,hx⟩:=hr.each v hv
   have ah:=hx.misc
   unfold A3p A1i at ah
   simp only[Bool.or_eq_false_iff,decide_eq_false_iff_not] at ah
   have aw:=ah.2.1
   refine⟨by omega,fun n hn=>by have:=(hok.1 v hv).2.1 n hn;omega,by omega,fun z hz=>?_,by omega,fun s hs=>(ac v hv s hs).1⟩
   have:=hx.bytes z hz
   unfold A2k at this
   split at this
   ·cases this
   ·omega
  ·have h1:=hu r ak
   have h2:=hok.2.2.1 r ak
   refine⟨by have:=h2.2.2.1;omega,?_⟩
   unfold A8r at h1
   split at h1
   ·rename_i h3
    have:=B9l h3
    omega
   ·rename_i h3
    exact absurd h1 h3
theorem C2u {g:GI}{d:Nat}{msg:Int}{x:BI (d+1)}(ac:BOk (d+1) x)(h:A2p g d msg x=0):BSw (d+1) x∧BVn (d+1) x:=by
 obtain⟨h1,j,m,_,hm,he⟩:=B3s h
 exact B8z h1 (d+1) 1 m x (List.mem_of_getElem? hm) ac he
theorem B2i {g:GI}{am:Option Addr}{nm cm:Nat}{ae:Option Addr}{ne ce:Nat}{msg:Int}{w:World}(hI:WIn g am nm cm ae ne ce msg w){d:Nat}{a0 a1:Option Addr}{n0 c0 n1 c1:Nat}{x:BI (d+1)}(hq:BRd d w (.slice a0 n0 c0) (.slice a1 n1 c1) x)(aj:BOk (d+1) x) :
  Calls Tryz.prog 8 #[.agg #[.slice am nm cm,.slice ae ne ce],.int .i64 msg,.agg #[.slice a0 n0 c0,.slice a1 n1 c1]] w fun e w'=>∃ ao n c,e = .returned (.tuple #[.slice ao n c,.int .i64 (C6f g d msg x).2])∧Row ekY w' w.heap.size (.slice ao n c) (C6f g d msg x).1∧Below w.heap.size w w':=by
 obtain⟨W2,ag⟩:∃ W2,Hid (W2=(w.alloc (.cells #[.slice am nm cm,.slice ae ne ce] 25)).alloc (.cells #[.slice a0 n0 c0,.slice a1 n1 c1] 29)):=⟨_,rfl⟩
 have hb2:Below w.heap.size w W2:=by rw[ag.out];exact((Below.refl _ _).alloc (Nat.le_refl _) _).alloc (by simp) _
 have z2:w.heap.size+2≤W2.heap.size:=by rw[ag.out];simp
 have x1:W2.heap[w.heap.size]?=some (.cells #[.slice am nm cm,.slice ae ne ce] 25 (0,0)):=by rw[ag.out];exact A0o _ _ _
 have x2:W2.heap[w.heap.size+1]?=some (.cells #[.slice a0 n0 c0,.slice a1 n1 c1] 29 (0,0)):=by rw[ag.out];exact A0j _ _ _
 obtain⟨Q,HQ⟩:∃ Q,Hid (A2p g d msg x=Q):=⟨_,rfl⟩
 have hwr:=(hI.below hb2).wrong (hq.below hb2) aj
 rw[HQ.out] at hwr
 obtain⟨R,HR⟩:∃ R,Hid (C6f g d msg x=R):=⟨_,rfl⟩
 rw[HR.out]
 obtain⟨y0,y1⟩:=A0y x1
 obtain⟨y2,y3⟩:=A0y x2
 have HI:Hid (WIn g am nm cm ae ne ce msg w):=hI
 have bn:Hid (BRd d w (.slice a0 n0 c0) (.slice a1 n1 c1) x):=hq
 have bp:Hid (A2p g d msg x=0→BSw (d+1) x):=fun hz=>(C2u aj hz).1
 have bq:Hid (A2p g d msg x=0→BVn (d+1) x):=fun hz=>(C2u aj hz).2
 clear hI hq aj
 go_enter Tryz.func8,Tryz.ntmps8
 go_upto_region 1 with fail
 rw[←ag.out]
 go_wp2_with fail
 refine hwr.mono ?_
 rintro e w3 ⟨rfl,hb3⟩
 have au:Below w.heap.size w w3:=BTr hb2 hb3
 clear y0 y1 y2 y3 hwr
 by_cases hQ0:Q=0
 ·subst hQ0
  obtain⟨hr,j,M,Hj,hM,bh⟩:=B3s HQ.out
  have HT:Hid (R=A0x g (d+1) M x):=by
   show _=_
   rw[←HR.out,C6f,if_neg (by rw[HQ.out];simp),Hj,Int.toNat_natCast,hM]
  have br:=HI.out.hg.1.len.1
  have bw:=(List.getElem?_eq_some_iff.1 hM).1
  have ah:=B8y (A3x hr) (d+1) 1 M x (List.mem_of_getElem? hM) (bq.out HQ.out) bh
  subst Hj
  obtain⟨bm,om,rfl,hat⟩:=HI.out.hg.1.get MAt.plain hM
  obtain⟨vf,vb,s0,s1,s2,bc,ba⟩:=hat.at
  obtain⟨af,nf,kf,rfl,_,_⟩:=bc.shape
  obtain⟨ab,nb,kb,rfl,_,_⟩:=ba.shape
  have cg:(j:Int)<(nm:Int):=by omega
  have bv:¬ (j:Int)<0:=by omega
  have hd:Below W2.heap.size W2 w3.drew:=hb3.drew
  have ac:∀ V,Below W2.heap.size W2 V→V.cell? ⟨w.heap.size,0,none⟩=some (.slice (some ⟨bm,om,none⟩) nm cm)∧V.cell? ⟨w.heap.size,1,none⟩=some (.slice ae ne ce)∧V.cell? ⟨w.heap.size+1,0,none⟩=some (.slice a0 n0 c0)∧V.cell? ⟨w.heap.size+1,1,none⟩=some (.slice a1 n1 c1)∧V.cell? ⟨bm,om+j*3,none⟩=some (.string (S M.name))∧V.cell? ⟨bm,om+j*3+1,none⟩=some (.slice af nf kf)∧V.cell? ⟨bm,om+j*3+2,none⟩=some (.slice ab nb kb):=fun V hV=>by
   have bg:Below w.heap.size w V:=BTr hb2 hV
   obtain⟨e1,e2⟩:=A0y ((hV.block _ (by omega)).trans x1)
   obtain⟨e3,e4⟩:=A0y ((hV.block _ (by omega)).trans x2)
   exact⟨e1,e2,e3,e4,A0c bg s0,A0c bg s1,A0c bg s2⟩
  have hwt:∀ U,Below W2.heap.size W2 U→Calls Tryz.prog 19 #[.agg #[.slice (some ⟨bm,om,none⟩) nm cm,.slice ae ne ce],.agg #[.string (S M.name),.slice af nf kf,.slice ab nb kb],.agg #[.slice a0 n0 c0,.slice a1 n1 c1]] U fun e w'=>∃ ao n c,e = .returned (.tuple #[.slice ao n c,.int .i64 R.2])∧Row ekY w' U.heap.size (.slice ao n c) R.1∧Below U.heap.size U w':=fun U hU=>by
   have ak:Below w.heap.size w U:=BTr hb2 hU
   rw[HT.out]
   exact C3e g (d+1) U _ _ _ _ _ _ M x (HI.out.hg.below ak) (bc.below FAt.stays ak) (ba.below NAt.stays ak) (bn.out.below ak) (bp.out HQ.out) ah
  clear hat s0 s1 s2 bc ba hM bh ah br bw
  go_upto_region 4 with fail
  refine wp_region_held_drew (S:=fun U=>Below W2.heap.size W2 U) (by kernel_rfl) hd (fun hHeld=>?_)
  refine tK (i:=0) (v:=?vr1) rfl ⟨by rfl,?hyr1⟩ ?_
  case hyr1=>(intro W h;have:=ac W h;go_simp;first|done|with_reducible rfl)
  try simp only[pT,Act.put]
  refine tK (i:=1) (v:=?vr2) rfl ⟨by rfl,?hyr2⟩ ?_
  case hyr2=>(intro W h;have:=ac W h;go_simp;first|done|with_reducible rfl)
  try simp only[pT,Act.put]
  refine tK (i:=2) (v:=?vr3) rfl ⟨by rfl,?hyr3⟩ ?_
  case hyr3=>(intro W h;have:=ac W h;go_simp;first|done|with_reducible rfl)
  try simp only[pT,Act.put]
  refine tK (i:=3) (v:=?vr4) rfl ⟨by rfl,?hyr4⟩ ?_
  case hyr4=>(intro W h;have:=ac W h;go_simp;first|done|with_reducible rfl)
  try simp only[pT,Act.put]
  refine tK (i:=4) (v:=?vr5) rfl ⟨by rfl,?hyr5⟩ ?_
  case hyr5=>(intro W h;have:=ac W h;go_simp;first|done|with_reducible rfl)
  try simp only[pT,Act.put]
  refine tK (i:=5) (v:=?vr6) rfl ⟨by rfl,?hyr6⟩ ?_
  case hyr6=>(intro W h;have:=ac W h;go_simp;first|done|with_reducible rfl)
  try simp only[pT,Act.put]
  refine tK (i:=6) (v:=?vr7) rfl ⟨by rfl,?hyr7⟩ ?_
  case hyr7=>(intro W h;have:=ac W h;go_simp;first|done|with_reducible rfl)
  try simp only[pT,Act.put]
  refine rA (i:=7) rfl fun K hK=>?_
  go_simp
  refine(hwt _ hd).mono ?_
  rintro e w5 ⟨az,nz,cz,rfl,bk,bu⟩
  have bt:=BTr hd bu
  refine hK.out _ _ ?_ (fun hHeld=>?_)
  ·(try dsimp only);with_reducible assumption
  clear hK K
  try simp only[pT,Act.put]
  refine tK (i:=8) (v:=?vr8) rfl ⟨by rfl,?hyr8⟩ ?_
  case hyr8=>(intro W h;have:=ac W h;go_simp;first|done|with_reducible rfl)
  try simp only[pT,Act.put]
  refine tK (i:=9) (v:=?vr9) rfl ⟨by rfl,?hyr9⟩ ?_
  case hyr9=>(intro W h;have:=ac W h;go_simp;first|done|with_reducible rfl)
  try simp only[pT,Act.put]
  refine tK (i:=10) (v:=?vr10) rfl ⟨by rfl,?hyr10⟩ ?_
  case hyr10=>(intro W h;have:=ac W h;go_simp;first|done|with_reducible rfl)
  try simp only[pT,Act.put]
  refine tK (i:=11) (v:=?vr11) rfl ⟨by rfl,?hyr11⟩ ?_
  case hyr11=>(intro W h;have:=ac W h;go_simp;first|done|with_reducible rfl)
  try simp only[pT,Act.put]
  refine wpAnyH_done (by kernel_rfl) ?_ _
  have hz3:=hb3.size
  have aw:Row ekY w5 w.heap.size (.slice az nz cz) R.1:=bk.mono (by show w.heap.size≤w3.heap.size;omega)
  clear bk
  go_wp2
  go_ret2
  exact⟨az,nz,cz,rfl,aw,BTr hb2 bt⟩
 ·have HT:Hid (R=([],Q)):=by show _=_;rw[←HR.out,C6f,if_pos (by rw[HQ.out];exact hQ0),HQ.out]
  have ez:(Q != 0)=true:=by simpa using hQ0
  go_wp2
  go_ret2
  exact⟨none,0,0,by rw[HT.out];rfl,by rw[HT.out];exact Row.nil _ _ _,au⟩
theorem B8u {g:GI}{n:Nat}{m:MI}{l:List UInt8}{s:BI (n+1)}(h:A3t g (n+1) m l = .ok s):∃ rs A,A2b l=(rs,0,A)∧A1f g (fun t l=>A3t g n (msgD g t) l) m.fields (rs.map A6e) ⟨[],[]⟩ [] = .ok s:=by
 obtain⟨rs,E,A,hp⟩:∃ rs E A,A2b l=(rs,E,A):=⟨_,_,_,rfl⟩
 by_cases hE:E≠0
 ·rw[B3i hp hE] at h
  cases h
 ·have hE:E=0:=by omega
  subst hE
  rw[B1v hp] at h
  exact⟨rs,A,hp,h⟩
theorem B5k (acc:List UInt8)(r:RI)(l:List RI):A3n acc (r::l)=if A0t r.number r.how r.bits r.bytes.length≠0 then([],A0t r.number r.how r.bits r.bytes.length) else if 4000<(acc++recN r.number r.how r.bits r.bytes).length then([],4) else A3n (acc++recN r.number r.how r.bits r.bytes) l:=rfl
theorem C6e {num how:Int}{bits len:Nat}(h:A0t num how bits len=0):len≤4000:=B9l h
end L
end Go.Proofs.YtgaoojpakjjdnaaGreatDoor
namespace Go.Proofs.YtgaoojpakjjdnaaGreatDoor
open Go.RowKit
theorem D1y:∀ (f i acc m:Nat) (more:List UInt8),f+i=10→1≤f→m<2 ^ (7*f)→m*2 ^ (7*i)≤18446744073709551615→
  A4e i acc (B4a f m++more)=(acc+m*2 ^ (7*i),i+(B4a f m).length,0):=by
 intro f
 induction f with
 | zero=>intro i acc m more _ h;omega
 | succ f ih=>
  intro i acc m more ag _ hm hb
  have h9:i=9→m≤1:=by
   intro e
   subst e
   rw[show 2 ^ (7*9)=9223372036854775808 from rfl] at hb
   omega
  by_cases hs:m<128
  ·rw[B1u hs]
   have e:(UInt8.ofNat m).toNat=m:=by rw[UInt8.toNat_ofNat'];omega
   rw[List.cons_append,A4e,e,if_neg (by rintro⟨a,b⟩;have:=h9 a;omega),if_pos hs,Nat.mod_eq_of_lt hs]
   rfl
  ·rw[B6p hs]
   have e:(UInt8.ofNat (m%128+128)).toNat=m%128+128:=by rw[UInt8.toNat_ofNat'];omega
   have hi:i≠9:=fun a=>by have:=h9 a;omega
   have hp:2 ^ (7*(i+1))=128*2 ^ (7*i):=by rw[show 7*(i+1)=7+7*i by omega,Nat.pow_add]
   have hf2:=C8y hm hs
   have ac:m%128*2 ^ (7*i)+m / 128*2 ^ (7*(i+1))=m*2 ^ (7*i):=by
    rw[hp,←Nat.mul_assoc,←Nat.add_mul]
    congr 1
    omega
   rw[List.cons_append,A4e,e,if_neg (by rintro⟨a,_⟩;exact hi a),if_neg (by omega),
    ih (i+1) _ (m / 128) more (by omega) (by omega) (B6q hm) (by omega)]
   rw[show(m%128+128)%128=m%128 by omega,List.length_cons]
   refine Prod.ext ?_ (Prod.ext ?_ rfl)
   ·show acc+m%128*2 ^ (7*i)+m / 128*2 ^ (7*(i+1))=_
    omega
   ·show i+1+(B4a f (m / 128)).length=i+((B4a f (m / 128)).length+1)
    omega
theorem A9e (n:Nat)(more:List UInt8)(hn:n≤18446744073709551615):A4e 0 0 (A5q n++more)=(n,(A5q n).length,0):=by
 have:=D1y 10 0 0 n more rfl (by omega) (by omega) (by simpa using hn)
 rw[A5q,this]
 simp
theorem C2m (n:Nat):1≤(A5q n).length:=by
 rw[A5q,B4a];split <;> simp
end Go.Proofs.YtgaoojpakjjdnaaGreatDoor
namespace Go.Proofs.YtgaoojpakjjdnaaGreatDoor
theorem B5x (k n:Nat):A6z (B1g k n)=n%2 ^ (8*k):=by
 induction k generalizing n with
 | zero=>simp[B1g,A6z,Nat.mod_one]
 | succ k ih=>
  rw[B1g,A6z,ih,UInt8.toNat_ofNat',show 8*(k+1)=8+8*k by omega,Nat.pow_add,Nat.mod_mul]
theorem D3u {num how:Nat}{rest:List UInt8}(h1:1≤num)(h2:num<536870912)(h3:how=0∨how=1∨how=2∨how=5):B7h (A5q (num*8+how)++rest)=(num,how,(A5q (num*8+how)).length,0):=by
 rw[B7h,A9e _ _ (by omega)]
 dsimp only
 unfold B6z
 rw[if_neg (by simp),if_neg (by omega),if_neg (by rw[show(num*8+how)%8=how by omega];exact B2u (by omega))]
 rw[show(num*8+how) / 8=num by omega,show(num*8+how)%8=how by omega]
theorem C5p {r:Rcd}(hw:0=A0t r.num r.how r.bits r.bytes.length)(hb:r.bits≤18446744073709551615)(m:List UInt8) :
  A6b (A7x r.num r.how r.bits r.bytes++m)=(r,(A7x r.num r.how r.bits r.bytes).length,0):=by
 obtain⟨num,how,bits,bytes⟩:=r
 dsimp only at hw hb ⊢
 obtain⟨q1,q2,q3,q4,q5,q6,q7⟩:=C3f hw
 obtain⟨N,rfl⟩:=Int.eq_ofNat_of_zero_le (show 0≤num by omega)
 obtain⟨H,rfl⟩:=Int.eq_ofNat_of_zero_le (show 0≤how by omega)
 unfold A7x
 rw[Int.toNat_natCast,Int.toNat_natCast,List.append_assoc,A6b,D3u (by omega) (by omega) (by omega)]
 dsimp only
 rw[if_neg (by simp),List.drop_left]
 by_cases h2:H=2
 ·have ht:A7z (H:Int) bits bytes=A5q bytes.length++bytes:=by unfold A7z;rw[if_pos (by omega)]
  rw[ht,A6q,if_pos h2]
  have hs:A4h ((A5q bytes.length++bytes)++m)=(bytes,(A5q bytes.length).length+bytes.length,0):=by
   rw[A4h,List.append_assoc,A9e _ _ (by omega)]
   dsimp only
   unfold A7h
   rw[if_neg (by simp),if_neg (by simp),List.drop_left,List.take_left]
  rw[hs]
  dsimp only
  rw[if_neg (by simp),q6 (by omega)]
  simp
 ·have ht:A7z (H:Int) bits bytes=if (H:Int)=0 then A5q bits else B1g (A1v (H:Int)) bits:=by unfold A7z;rw[if_neg (by omega)]
  rw[ht,A6q,if_neg h2]
  have hby:bytes = []:=List.eq_nil_of_length_eq_zero (q7 (by omega))
  subst hby
  have hs:A2z ((if (H:Int)=0 then A5q bits else B1g (A1v (H:Int)) bits)++m) (H:Int)=(bits,(if (H:Int)=0 then A5q bits else B1g (A1v (H:Int)) bits).length,0):=by
   unfold A2z
   by_cases h0:(H:Int)=0
   ·rw[if_pos h0,if_pos h0,A9e _ _ hb]
   ·rw[if_neg h0,if_neg h0,List.length_append,A7r,if_neg (by omega)]
    have e:(B1g (A1v (H:Int)) bits++m).take (A1v (H:Int))=B1g (A1v (H:Int)) bits:=List.take_left' (A7r _ _)
    rw[e,B5x]
    have hm:bits%2 ^ (8*A1v (H:Int))=bits:=by
     apply Nat.mod_eq_of_lt
     have hH:(H:Int)=1∨(H:Int)=5:=by omega
     rcases hH with e|e
     ·rw[e];show bits<2 ^ 64;omega
     ·have:=q5 e;rw[e];show bits<2 ^ 32;omega
    rw[hm]
  rw[hs]
  dsimp only
  rw[if_neg (by simp),List.length_append]
theorem D3h (num how:Int)(bits:Nat)(l:List UInt8):1≤(A7x num how bits l).length:=by
 have:=C2m (num.toNat*8+how.toNat)
 unfold A7x
 rw[List.length_append]
 omega
theorem C0x:∀ (rs:List Rcd) (i:Nat) (acc B:List UInt8) (a:Nat),(∀ r∈rs,r.bits≤18446744073709551615)→acc.length≤4000→A1q i acc rs=(B,0,a)→
  ∃ ag,B=acc++ag∧B.length≤4000∧∀ f k ac,ag.length≤f→A3c f k ac ag=(ac++rs,0,0):=by
 intro rs
 induction rs with
 | nil=>
  intro i acc B a _ ah h
  rw[A1q] at h
  obtain⟨rfl,_,_⟩:acc=B∧(0:Int)=0∧0=a:=by simpa using h
  refine⟨[],by simp,ah,?_⟩
  intro f k ac _
  rw[A6l rfl,List.append_nil]
 | cons r rest ih=>
  intro i acc B a hb ah h
  rw[A1q] at h
  split at h
  ·rename_i h0
   have:A0t r.num r.how r.bits r.bytes.length=0:=by simpa using congrArg (fun p=>p.2.1) h
   exact absurd this h0
  ·rename_i h0
   have hw:0=A0t r.num r.how r.bits r.bytes.length:=by
    rcases Decidable.em (A0t r.num r.how r.bits r.bytes.length=0) with e|e
    ·exact e.symm
    ·exact absurd e h0
   split at h
   ·have:(4:Int)=0:=by simpa using congrArg (fun p=>p.2.1) h
    omega
   ·rename_i h1
    obtain⟨ag,hB,hl,hp⟩:=ih (i+1) _ B a (fun q hq=>hb q (List.mem_cons_of_mem _ hq)) (by omega) h
    refine⟨A7x r.num r.how r.bits r.bytes++ag,by rw[hB,List.append_assoc],hl,?_⟩
    intro f k ac hf
    have aj:=D3h r.num r.how r.bits r.bytes
    rw[List.length_append] at hf
    obtain⟨g,rfl⟩:∃ g,f=g+1:=⟨f-1,by omega⟩
    rw[A7u (by rw[List.length_append];omega) (C5p hw (hb r List.mem_cons_self) ag),List.drop_left,hp g _ _ (by omega),List.append_assoc]
    rfl
theorem A8c {rs:List Rcd}{B:List UInt8}{a:Nat}(hb:∀ r∈rs,r.bits≤18446744073709551615)(h:A1q 0 [] rs=(B,0,a)):B.length≤4000∧A2b B=(rs,0,0):=by
 obtain⟨ac,hB,hl,hp⟩:=C0x rs 0 [] B a hb (by simp) h
 rw[List.nil_append] at hB
 subst hB
 refine⟨hl,?_⟩
 rw[A2b,if_neg (by omega),hp _ _ _ (Nat.le_refl _)]
 rfl
theorem C5o:∀ (f m k:Nat),m<2 ^ (7*k)→1≤k→(B4a f m).length≤k:=by
 intro f
 induction f with
 | zero=>intro m k _ _;simp[B4a]
 | succ f ih=>
  intro m k hm hk
  by_cases hs:m<128
  ·rw[B1u hs];simpa using hk
  ·rw[B6p hs,List.length_cons]
   have hk2:=C8y hm hs
   obtain⟨j,rfl⟩:∃ j,k=j+1:=⟨k-1,by omega⟩
   have:=ih (m / 128) j (B6q hm) (by omega)
   omega
theorem C4p:∀ (l:List UInt8) (i acc N K:Nat),acc<2 ^ (7*i)→A4e i acc l=(N,K,0)→N<2 ^ (7*K)∧1≤K:=by
 intro l
 induction l with
 | nil=>intro i acc N K _ h;rw[A4e] at h;simp at h
 | cons x r ih=>
  intro i acc N K ac h
  rw[A4e] at h
  split at h
  ·simp at h
  ·split at h
   ·obtain⟨rfl,rfl,_⟩:=A0n h
    exact⟨B6x ac,by omega⟩
   ·exact ih _ _ _ _ (B6x ac) h
theorem B0q {l:List UInt8}{N K:Nat}(h:A4e 0 0 l=(N,K,0)):(A5q N).length≤K:=by
 obtain⟨a,b⟩:=C4p l 0 0 N K (by decide) h
 exact C5o 10 N K a b
theorem C5w {l:List UInt8}{A B C:Nat}(h:B7h l=(A,B,C,0)):(A5q (A*8+B)).length≤C:=by
 obtain⟨N,K,E,hg⟩:∃ N K E,A4e 0 0 l=(N,K,E):=⟨_,_,_,rfl⟩
 rw[B7h,hg] at h
 dsimp only at h
 unfold B6z at h
 split at h
 ·simp at h;omega
 ·rename_i h0
  split at h
  ·simp at h
  ·split at h
   ·simp at h
   ·obtain⟨rfl,rfl,rfl,_⟩:=A6i h
    have hE:E=0:=by omega
    subst hE
    rw[show N / 8*8+N%8=N by omega]
    exact B0q hg
theorem B9b {l:List UInt8}{A:List UInt8}{B:Nat}(h:A4h l=(A,B,0)):(A5q A.length++A).length≤B:=by
 obtain⟨N,K,E,hg⟩:∃ N K E,A4e 0 0 l=(N,K,E):=⟨_,_,_,rfl⟩
 obtain⟨b1,b2,b3,b4,b5⟩:=A6j hg
 rw[A4h,hg] at h
 dsimp only at h
 unfold A7h at h
 split at h
 ·simp at h;omega
 ·rename_i h0
  split at h
  ·simp at h
  ·rename_i h1
   obtain⟨rfl,rfl,_⟩:=A0n h
   have hE:E=0:=by omega
   subst hE
   have e:((l.drop K).take N).length=N:=by rw[List.length_take,List.length_drop];omega
   rw[List.length_append,e]
   have:=B0q hg
   omega
theorem B2e {l:List UInt8}{how:Int}{A B:Nat}(h:A2z l how=(A,B,0)):(if how=0 then A5q A else B1g (A1v how) A).length≤B∧(how=5→A<4294967296):=by
 unfold A2z at h
 split at h
 ·rename_i h0
  rw[if_pos h0]
  exact⟨B0q h,fun e=>by omega⟩
 ·rename_i h0
  rw[if_neg h0]
  split at h
  ·simp at h
  ·rename_i h1
   obtain⟨rfl,rfl,_⟩:=A0n h
   refine⟨by rw[A7r];omega,?_⟩
   intro e
   subst e
   have:=B5w (l.take (A1v 5))
   rw[show A1v 5=4 from rfl] at this h1 ⊢
   rw[List.length_take,Nat.min_eq_left (by omega)] at this
   exact this
theorem C1c {l:List UInt8}{r:Rcd}{n:Nat}(hl:l.length≤4000)(h:A6b l=(r,n,0)):0=A0t r.num r.how r.bits r.bytes.length∧(A7x r.num r.how r.bits r.bytes).length≤n:=by
 obtain⟨A,B,C,D,hT⟩:∃ A B C D,B7h l=(A,B,C,D):=⟨_,_,_,_,rfl⟩
 obtain⟨t1,t2,t3,t4,t5,t6⟩:=B7a hT
 rw[A6b,hT] at h
 dsimp only at h
 split at h
 ·rename_i h0;obtain⟨_,_,e⟩:=A0n h;exact absurd e h0
 ·rename_i h0
  have hD:D=0:=by omega
  subst hD
  obtain⟨c1,c2,c3⟩:=t6 rfl
  have hk:¬ A2a (B:Int)=false:=by rw[c3];simp
  have ac:=C5w hT
  unfold A6q at h
  split at h
  ·rename_i hB
   obtain⟨S,T,U,hs⟩:∃ S T U,A4h (l.drop C)=(S,T,U):=⟨_,_,_,rfl⟩
   obtain⟨s1,s2,s3,s4,s5⟩:=A9w hs
   rw[List.length_drop] at s1
   rw[hs] at h
   dsimp only at h
   split at h
   ·rename_i h1;obtain⟨_,_,e⟩:=A0n h;exact absurd e h1
   ·rename_i h1
    have hU:U=0:=by omega
    subst hU
    obtain⟨rfl,rfl,_⟩:=A0n h
    dsimp only
    refine⟨?_,?_⟩
    ·unfold A0t
     rw[if_neg hk,if_neg (by omega),if_neg (by omega),if_neg (by omega),if_neg (by omega),if_neg (by omega)]
    ·have ht:A7z (B:Int) 0 S=A5q S.length++S:=by unfold A7z;rw[if_pos (by omega)]
     have:=B9b hs
     rw[A7x,ht,List.length_append,Int.toNat_natCast,Int.toNat_natCast]
     omega
  ·rename_i hB
   obtain⟨S,T,U,hs⟩:∃ S T U,A2z (l.drop C) (B:Int)=(S,T,U):=⟨_,_,_,rfl⟩
   rw[hs] at h
   dsimp only at h
   split at h
   ·rename_i h1;obtain⟨_,_,e⟩:=A0n h;exact absurd e h1
   ·rename_i h1
    have hU:U=0:=by omega
    subst hU
    obtain⟨rfl,rfl,_⟩:=A0n h
    dsimp only
    obtain⟨u1,u2⟩:=B2e hs
    refine⟨?_,?_⟩
    ·unfold A0t
     rw[if_neg hk,if_neg (by omega),if_neg (by omega),if_neg (by rintro⟨e,e'⟩;have:=u2 e;omega),if_neg (by omega),if_neg (by simp)]
    ·have ht:A7z (B:Int) S []=if (B:Int)=0 then A5q S else B1g (A1v (B:Int)) S:=by unfold A7z;rw[if_neg (by omega)]
     rw[A7x,ht,List.length_append,Int.toNat_natCast,Int.toNat_natCast]
     omega
theorem C0c:∀ (f k:Nat) (acc:List Rcd) (l:List UInt8) (m:List Rcd) (a:Nat),l.length≤f→l.length≤4000→A3c f k acc l=(m,0,a)→
  ∃ rs,m=acc++rs∧(∀ r∈rs,r.wf)∧∀ i ac,ac.length+l.length≤4000→∃ p,A1q i ac rs=(ac++p,0,0)∧p.length≤l.length:=by
 intro f
 induction f with
 | zero=>
  intro k acc l m a hf _ h
  rw[A3c] at h
  obtain⟨rfl,_,_⟩:=A0n h
  exact⟨[],by simp,fun r hr=>by simp at hr,fun i ac _=>⟨[],by simp[A1q],by simp⟩⟩
 | succ f ih=>
  intro k acc l m a hf hl h
  by_cases h0:l.length=0
  ·rw[A6l h0] at h
   obtain⟨rfl,_,_⟩:=A0n h
   exact⟨[],by simp,fun r hr=>by simp at hr,fun i ac _=>⟨[],by simp[A1q],by simp⟩⟩
  ·obtain⟨r,n,E,hr⟩:∃ r n E,A6b l=(r,n,E):=⟨_,_,_,rfl⟩
   obtain⟨r1,r2,r3,r4⟩:=B6s hr
   by_cases hE:E=0
   ·subst hE
    rw[A7u h0 hr] at h
    have hn:=(r3 rfl).1
    have aj:(l.drop n).length=l.length-n:=List.length_drop
    obtain⟨rs,hm,ah,hb⟩:=ih (k+n) (acc++[r]) (l.drop n) m a (by omega) (by omega) h
    obtain⟨hw,ak⟩:=C1c hl hr
    refine⟨r::rs,by rw[hm,List.append_assoc];rfl,?_,?_⟩
    ·intro q hq
     rw[List.mem_cons] at hq
     rcases hq with rfl|hq
     ·exact r4
     ·exact ah q hq
    ·intro i ac ag
     have hlen:(ac++A7x r.num r.how r.bits r.bytes).length≤ac.length+n:=by rw[List.length_append];omega
     obtain⟨p,hp,hpl⟩:=hb (i+1) (ac++A7x r.num r.how r.bits r.bytes) (by omega)
     refine⟨A7x r.num r.how r.bits r.bytes++p,?_,by rw[List.length_append];omega⟩
     rw[A1q,←hw,if_neg (by simp),if_neg (by omega),hp,List.append_assoc]
   ·rw[A8l h0 hr hE] at h
    obtain⟨_,e,_⟩:=A0n h
    exact absurd e hE
theorem C0w {l:List UInt8}{m:List Rcd}{a:Nat}(h:A2b l=(m,0,a)) :
  ∃ p,A1q 0 [] m=(p,0,0)∧p.length≤l.length∧A2b p=(m,0,0)∧p.length≤4000:=by
 unfold A2b at h
 split at h
 ·obtain⟨_,e,_⟩:=A0n h;simp at e
 ·rename_i h0
  obtain⟨rs,hm,ac,hb⟩:=C0c _ _ _ _ _ _ (Nat.le_refl _) (by omega) h
  rw[List.nil_append] at hm
  subst hm
  obtain⟨p,hp,hpl⟩:=hb 0 [] (by simp;omega)
  rw[List.nil_append] at hp
  obtain⟨h4,h5⟩:=A8c (fun r hr=>(ac r hr).2.2.2.2) hp
  exact⟨p,hp,hpl,h5,h4⟩
end Go.Proofs.YtgaoojpakjjdnaaGreatDoor
namespace Go.Proofs.YtgaoojpakjjdnaaGreatDoor
theorem B6e:∀ (k n:Nat),L.klow k n=B1g k n
 | 0,_=>rfl
 | k+1,n=>by rw[L.klow,B1g,B6e k]
theorem D6j (num how:Int)(bits:Nat)(l:List UInt8):L.recN num how bits l=A7x num how bits l:=by
 unfold L.recN A7x L.ktagN A7z L.kputB
 by_cases h2:how=2
 ·rw[if_pos h2,if_pos h2]
 ·rw[if_neg h2,if_neg h2,B6e]
  rfl
theorem C6t {how:Int}(hh:how=0∨how=1∨how=5){n:Nat}(hn:n≤18446744073709551615)(h5:how=5→n<4294967296)(rest:List UInt8):A2z (L.kputB how n++rest) how=(n,(L.kputB how n).length,0):=by
 rcases hh with rfl|rfl|rfl
 ·exact A9e n rest hn
 ·have e:L.kputB 1 n=B1g 8 n:=by unfold L.kputB;rw[if_neg (by decide)];exact B6e 8 n
  have hl:=A7r 8 n
  rw[e]
  unfold A2z
  rw[if_neg (by decide),show A1v 1=8 from rfl,if_neg (by rw[List.length_append,hl];omega),List.take_append_of_le_length (by omega),List.take_of_length_le (by omega),B5x,hl]
  rw[Nat.mod_eq_of_lt (by omega)]
 ·have e:L.kputB 5 n=B1g 4 n:=by unfold L.kputB;rw[if_neg (by decide)];exact B6e 4 n
  have hl:=A7r 4 n
  have:=h5 rfl
  rw[e]
  unfold A2z
  rw[if_neg (by decide),show A1v 5=4 from rfl,if_neg (by rw[List.length_append,hl];omega),List.take_append_of_le_length (by omega),List.take_of_length_le (by omega),B5x,hl]
  rw[Nat.mod_eq_of_lt (by omega)]
theorem C8b {how:Int}(hh:how=0∨how=1∨how=5)(n:Nat):1≤(L.kputB how n).length:=by
 unfold L.kputB
 rcases hh with rfl|rfl|rfl
 ·rw[if_pos rfl];exact C2m n
 ·rw[if_neg (by decide),L.klow_len];decide
 ·rw[if_neg (by decide),L.klow_len];decide
theorem B5b {how:Int}(hh:how=0∨how=1∨how=5):∀ (l:List Nat) (f:Nat) (acc:List Nat),(∀ n∈l,n≤18446744073709551615∧(how=5→n<4294967296))→(l.flatMap (L.kputB how)).length≤f→L.unpGo how f (l.flatMap (L.kputB how)) acc=(acc++l,0)
 | [],f,acc,_,_=>by
  rw[List.flatMap_nil,L.unp_end rfl,List.append_nil]
 | n::l,f,acc,h,hf=>by
  have hp:=C8b hh n
  rw[List.flatMap_cons] at hf ⊢
  rw[List.length_append] at hf
  obtain⟨f',rfl⟩:∃ f',f=f'+1:=⟨f-1,by omega⟩
  obtain⟨h1,h2⟩:=h n (List.mem_cons_self ..)
  rw[L.unp_go (by rw[List.length_append];omega) (C6t hh h1 h2 _),List.drop_left,B5b hh l f' _ (fun q hq=>h q (List.mem_cons_of_mem _ hq)) (by omega),List.append_assoc]
  rfl
theorem C0v {how:Int}(hh:how=0∨how=1∨how=5)(l:List Nat):L.packedN how l=l.flatMap (L.kputB how):=by
 unfold L.packedN
 rw[if_pos (by rcases hh with rfl|rfl|rfl <;> rfl)]
theorem B7e {how:Int}(hh:how=0∨how=1∨how=5){l:List Nat}(h:∀ n∈l,n≤18446744073709551615∧(how=5→n<4294967296)):L.unpR how (L.packedN how l)=(l,0):=by
 unfold L.unpR
 rw[C0v hh,B5b hh l _ [] h (Nat.le_refl _),List.nil_append]
namespace L
open Go.RowKit
def C9a (r:RI):Rcd:=⟨r.number,r.how,r.bits,r.bytes⟩
theorem D8w (l:List RI):(l.map C9a).map A6e=l:=by
 rw[List.map_map]
 exact(List.map_congr_left (fun _ _=>rfl)).trans (List.map_id _)
theorem B2h:∀ (l:List RI) (i:Nat) (acc:List UInt8),∃ a,A1q i acc (l.map C9a)=((A3n acc l).1,(A3n acc l).2,a)
 | [],i,acc=>⟨0,rfl⟩
 | r::l,i,acc=>by
  rw[List.map_cons,A1q,B5k]
  show ∃ a,(if A0t r.number r.how r.bits r.bytes.length≠0 then _ else if 4000<(acc++A7x r.number r.how r.bits r.bytes).length then _ else A1q (i+1) (acc++A7x r.number r.how r.bits r.bytes) (l.map C9a))=_
  rw[D6j]
  by_cases h1:A0t r.number r.how r.bits r.bytes.length≠0
  ·rw[if_pos h1,if_pos h1]
   exact⟨_,rfl⟩
  ·rw[if_neg h1,if_neg h1]
   by_cases h2:4000<(acc++A7x r.number r.how r.bits r.bytes).length
   ·rw[if_pos h2,if_pos h2]
    exact⟨_,rfl⟩
   ·rw[if_neg h2,if_neg h2]
    exact B2h l (i+1) _
theorem C8u {l:List RI}(hb:∀ r∈l,r.bits≤18446744073709551615)(h:(A3n [] l).2=0):A2b (A3n [] l).1=(l.map C9a,0,0):=by
 obtain⟨a,ha⟩:=B2h l 0 []
 rw[h] at ha
 exact(A8c (fun r hr=>by
  obtain⟨q,hq,rfl⟩:=List.mem_map.1 hr
  exact hb q hq) ha).2
theorem B7m:∀ (l:List RI) (acc:List UInt8),(A3n acc l).2=0→∀ r∈l,A0t r.number r.how r.bits r.bytes.length=0
 | r::l,acc,h,q,hq=>by
  rw[B5k] at h
  by_cases h1:A0t r.number r.how r.bits r.bytes.length≠0
  ·rw[if_pos h1] at h;exact absurd h h1
  ·rw[if_neg h1] at h
   by_cases h2:4000<(acc++recN r.number r.how r.bits r.bytes).length
   ·rw[if_pos h2] at h;cases h
   ·rw[if_neg h2] at h
    rcases List.mem_cons.1 hq with rfl|hq
    ·exact Decidable.not_not.1 h1
    ·exact B7m l _ h q hq
theorem C0y {l:List UInt8}{rs:List Rcd}{A:Nat}(h:A2b l=(rs,0,A)):∀ r∈rs,A0t r.num r.how r.bits r.bytes.length=0:=by
 obtain⟨p,hp,_,_,_⟩:=C0w h
 obtain⟨a,ha⟩:=B2h (rs.map A6e) 0 []
 have e:(rs.map A6e).map C9a=rs:=by
  rw[List.map_map]
  exact(List.map_congr_left (fun _ _=>rfl)).trans (List.map_id _)
 rw[e,hp] at ha
 have h2:(A3n [] (rs.map A6e)).2=0:=(congrArg (fun q=>q.2.1) ha).symm
 intro r hr
 exact B7m _ _ h2 (A6e r) (List.mem_map_of_mem hr)
theorem D3v {kind:Int}{n:Nat}(hn:n<18446744073709551616)(hf:A2h kind n=0):A3i kind (A5t kind n)=n:=by
 unfold A3i A5t
 by_cases h2:kind=2
 ·rw[if_pos h2,if_pos h2]
  have hb : -9223372036854775808≤IntKind.i64.wrap (n:Int)∧IntKind.i64.wrap (n:Int)≤9223372036854775807:=by rw[IntKind.wrap_i64];omega
  have h0:=(C0g _ hb.1 hb.2).1
  rw[Int.toNat_of_nonneg h0,C8r,IntKind.wrap_i64,IntKind.wrap_u64]
  omega
 ·rw[if_neg h2,if_neg h2]
  unfold A2h at hf
  by_cases h4:kind=4
  ·rw[if_pos h4]
   rw[if_neg (by omega),if_pos h4] at hf
   split at hf
   ·omega
   ·cases hf
  ·rw[if_neg h4]
   by_cases h5:kind=5
   ·rw[if_pos h5]
    rw[if_neg (by omega),if_neg h4,if_pos h5] at hf
    split at hf
    ·rename_i he
     unfold C4d at he
     simp only[Bool.or_eq_true,decide_eq_true_eq] at he
     split <;> omega
    ·cases hf
   ·rw[if_neg h5]
theorem B7w {kind:Int}{n:Nat}(h1:1≤kind)(h7:kind≤7)(hs:kind=7→n<4294967296):A2h kind (A3i kind n)=0:=by
 by_cases h2:kind=1∨kind=2∨kind=3∨kind=6
 ·unfold A2h
  rw[if_pos h2]
 ·by_cases h4:kind=4
  ·have e:A3i kind n=min n 1:=by unfold A3i;rw[if_neg (by omega),if_pos h4]
   unfold A2h
   rw[e,if_neg h2,if_pos h4,if_pos (by omega)]
  ·by_cases h5:kind=5
   ·have e:A3i kind n=if n%4294967296<2147483648 then n%4294967296 else n%4294967296+18446744069414584320:=by unfold A3i;rw[if_neg (by omega),if_neg h4,if_pos h5]
    unfold A2h
    rw[if_neg h2,if_neg h4,if_pos h5,if_pos]
    rw[e]
    unfold C4d
    simp only[Bool.or_eq_true,decide_eq_true_eq]
    split <;> omega
   ·have e:A3i kind n=n:=by unfold A3i;rw[if_neg (by omega),if_neg h4,if_neg h5]
    have:=hs (by omega)
    unfold A2h
    rw[e,if_neg h2,if_neg h4,if_neg h5,if_pos (by omega),if_pos (by omega)]
theorem B4j {kind:Int}{n:Nat}(hf:A2h kind n=0)(h5:A3z kind=5):A5t kind n<4294967296:=by
 have hk:kind=7:=by
  unfold A3z at h5
  split at h5
  ·omega
  ·split at h5
   ·assumption
   ·split at h5 <;> omega
 subst hk
 unfold A2h at hf
 rw[if_neg (by decide),if_neg (by decide),if_neg (by decide),if_pos rfl] at hf
 unfold A5t
 rw[if_neg (by decide)]
 split at hf
 ·omega
 ·cases hf
end L
end Go.Proofs.YtgaoojpakjjdnaaGreatDoor
