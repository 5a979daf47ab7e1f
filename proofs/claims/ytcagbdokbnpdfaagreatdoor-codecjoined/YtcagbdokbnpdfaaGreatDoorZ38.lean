import Derived.Test.YtcagbdokbnpdfaaGreatDoorZ37
import Derived.Test.YtcagbdokbnpdfaaGreatDoorZ22
import Derived.Test.YtcagbdokbnpdfaaGreatDoorZ35
import Derived.Test.YtcagbdokbnpdfaaGreatDoorZ01
import Derived.Laws.BytesArg
import Derived.Test.YtcagbdokbnpdfaaGreatDoorRows
import Derived.Test.YtcagbdokbnpdfaaGreatDoorZ10
import Derived.Lib.LaidU8T
import Derived.Test.YtcagbdokbnpdfaaGreatDoorZ15
import Derived.Test.YtcagbdokbnpdfaaGreatDoorZ04
import Derived.Test.YtcagbdokbnpdfaaGreatDoorZ06
import Derived.Shelf.Sort.Plain
import Derived.Shelf.Slices.In.SortNone
import Derived.Test.YtcagbdokbnpdfaaGreatDoorProg
import Derived.Test.YtcagbdokbnpdfaaGreatDoorZ25
import Derived.Sort.OwnSortedInts
namespace Go.Proofs.YtcagbdokbnpdfaaGreatDoor
namespace L
open Go.RowKit
set_option linter.unusedVariables false
theorem A2y {fs:List FI}{n:Int}{x:FI}(h:fs.find? (isF n)=some x):A1n fs n=x:=by
 unfold A1n
 rw[show fs.find? (fun f=>decide (f.number=n))=some x from h]
 rfl
theorem B3z {g:GI}{t:List UInt8}{m:MI}(h:g.msgs.find? (isN t)=some m):A4z g t=m:=by
 unfold A4z
 rw[show g.msgs.find? (fun m=>decide (m.name=t))=some m from h]
 rfl
def BVn:(d:Nat)→BI d→Prop
 | 0=>fun _=>True
 | d+1=>fun b=>(BO.vals b).length≤1048576∧∀ v∈BO.vals b,∀ s∈v.subs,BVn d s
theorem B6e {g:GI}(hsub:D3f g):∀ (d:Nat) (k:Int) (m:MI) (b:BI d),m∈g.msgs→BVn d b→A1d g d k m.fields b=0→D3a g d m b
 | 0,_,_,b,_,_,_=>nomatch (b:Empty)
 | d+1,k,m,b,hm,hs,h=>by
  obtain⟨_,hr,_⟩:=A2g h
  refine⟨hs.1,fun v hv=>?_⟩
  obtain⟨x,hx⟩:=hr.each v hv
  have ef:=A2y hx.fld
  have hxm:=List.mem_of_find?_eq_some hx.fld
  refine⟨⟨x,hxm,A3x hx.fld⟩,fun k10 kh hmf=>?_,fun k10=>?_⟩
  ·rw[ef] at k10 kh hmf
   have hmis:=hx.misc
   have hoth:=hx.others
   unfold A0t at hoth
   have k89:¬ (x.kind=8∨x.kind=9):=fun h=>kh (by unfold A3t;rcases h with h|h <;> simp[h])
   rw[if_neg k89,if_neg k10] at hoth
   have hz:v.bytes.length+v.subs.length=0:=by simpa using hoth
   intro e
   unfold A3p A1i at hmis
   rw[e] at hmis
   simp only[List.length_nil,Bool.or_eq_false_iff,decide_eq_false_iff_not] at hmis
   have:=hmis.1
   omega
  ·rw[ef] at k10 ⊢
   obtain⟨m',hm'⟩:=hsub m hm x hxm k10
   have hmm:=List.mem_of_find?_eq_some hm'
   have e:=B3z (g:=g) (t:=x.type) hm'
   refine⟨⟨m',hmm,by have:=List.find?_some hm';simpa using this⟩,fun s hs'=>?_⟩
   have hz:=hx.subs s hs'
   unfold A0m at hz
   rw[hm'] at hz
   show D3a g d (A4z g x.type) s
   rw[e]
   exact B6e hsub d (k+1) m' s hmm (hs.2 v hv s hs') hz
def A7k (g:GI) (d:Nat) (msg:Int) (x:BI (d+1)):List UInt8×Int:=
 if A1g g d msg x≠0 then([],A1g g d msg x)
 else match g.msgs[msg.toNat]? with
  | some m=>A1h g (d+1) m x
  | none=>([],6)
theorem B1j {g:GI}{d:Nat}{msg:Int}{x:BI (d+1)}(h:A1g g d msg x=0):(A1c g).1=0∧∃ (j:Nat) (m:MI),msg=(j:Int)∧g.msgs[j]?=some m∧A1d g (d+1) 1 m.fields x=0:=by
 unfold A1g at h
 split at h
 ·rename_i h1
  exact absurd h h1
 ·rename_i h1
  split at h
  ·cases h
  ·rename_i h2
   split at h
   ·rename_i m hm
    exact⟨by omega,msg.toNat,m,by omega,hm,h⟩
   ·cases h
theorem B9x:∀ (ns l:List Int),l.Nodup→(∀ a∈l,a∈ns)→l.length≤ns.length
 | [],l,_,h=>by
  cases l with
  | nil=>simp
  | cons a l=>exact absurd (h a (List.mem_cons_self ..)) (by simp)
 | n::ns,l,hn,h=>by
  have h1:=B9x ns (l.erase n) (hn.erase n) fun a ha=>by
   obtain⟨h2,h3⟩:=hn.mem_erase_iff.1 ha
   rcases List.mem_cons.1 (h a h3) with rfl|h4
   ·exact absurd rfl h2
   ·exact h4
  rw[List.length_cons]
  by_cases hm:n∈l
  ·rw[List.length_erase_of_mem hm] at h1
   omega
  ·rw[List.erase_of_not_mem hm] at h1
   omega
theorem D2n {β:Type}{fs:List FI}{f:List UInt8→β→Int}{l:List (VI β)}(h:RtL fs f l):l.length≤fs.length:=by
 have h1:=B9x (fs.map FI.number) (l.map VI.number) (by
  rw[List.Nodup,List.pairwise_map]
  exact h.rise.imp fun hab e=>by omega) fun a ha=>by
   obtain⟨v,hv,rfl⟩:=List.mem_map.1 ha
   obtain⟨x,hx⟩:=h.each v hv
   rw[←A3x hx.fld]
   exact List.mem_map_of_mem (List.mem_of_find?_eq_some hx.fld)
 simpa using h1
theorem B6s {num how:Int}{bits len:Nat}(h:A0s num how bits len=0):len≤4000:=by
 unfold A0s at h
 split at h
 ·cases h
 ·split at h
  ·cases h
  ·rename_i h1
   split at h
   ·cases h
   ·split at h
    ·cases h
    ·split at h
     ·cases h
     ·split at h
      ·cases h
      ·rename_i h2
       by_cases h3:how=2
       ·exact Nat.le_of_not_lt fun h4=>h1 ⟨h3,h4⟩
       ·exact Nat.le_of_not_lt fun h4=>h2 ⟨h3,by omega⟩
theorem B6f {g:GI}(hrl:(A1c g).1=0):∀ (d:Nat) (k:Int) (m:MI) (b:BI d),m∈g.msgs→BOk d b→A1d g d k m.fields b=0→BSw d b∧BVn d b
 | 0,_,_,b,_,_,_=>nomatch (b:Empty)
 | d+1,k,m,b,hm,hok,h=>by
  obtain⟨_,hr,hu⟩:=A2g h
  have hl:=D2n hr
  have h16:=(C6r ((B1b hrl).2.2 m hm)).1
  have hsub:∀ v∈BO.vals b,∀ s∈v.subs,BSw d s∧BVn d s:=fun v hv s hs=>by
   obtain⟨x,hx⟩:=hr.each v hv
   have hk10:x.kind=10:=A7d hx.others (fun e=>by rw[e] at hs;cases hs)
   obtain⟨M,hM⟩:=A2e hrl m hm x (List.mem_of_find?_eq_some hx.fld) hk10
   have hz:=hx.subs s hs
   unfold A0m at hz
   rw[hM] at hz
   exact B6f hrl d (k+1) M s (List.mem_of_find?_eq_some hM) ((hok.1 v hv).2.2.2.2.2.1 s hs) hz
  refine⟨⟨fun v hv=>?_,hok.2.2.2,fun r hr'=>?_⟩,by omega,fun v hv s hs=>(hsub v hv s hs).2⟩
  ·obtain⟨x,hx⟩:=hr.each v hv
   have hmi:=hx.misc
   unfold A3p A1i at hmi
   simp only[Bool.or_eq_false_iff,decide_eq_false_iff_not] at hmi
   have h60:=hmi.2.1
   refine⟨by omega,fun n hn=>by have:=(hok.1 v hv).2.1 n hn;omega,by omega,fun z hz=>?_,by omega,fun s hs=>(hsub v hv s hs).1⟩
   have:=hx.bytes z hz
   unfold A2k at this
   split at this
   ·cases this
   ·omega
  ·have h1:=hu r hr'
   have h2:=hok.2.2.1 r hr'
   refine⟨by have:=h2.2.2.1;omega,?_⟩
   unfold A7l at h1
   split at h1
   ·rename_i h3
    have:=B6s h3
    omega
   ·rename_i h3
    exact absurd h1 h3
theorem C0o {g:GI}{d:Nat}{msg:Int}{x:BI (d+1)}(hok:BOk (d+1) x) (h:A1g g d msg x=0):BSw (d+1) x∧BVn (d+1) x:=by
 obtain⟨h1,j,m,_,hm,he⟩:=B1j h
 exact B6f h1 (d+1) 1 m x (List.mem_of_getElem? hm) hok he
set_option maxHeartbeats 8000000 in
set_option maxRecDepth 100000 in
theorem A3z {g:GI}{am:Option Addr}{nm cm:Nat}{ae:Option Addr}{ne ce:Nat}{msg:Int}{w:World}(hI:WIn g am nm cm ae ne ce msg w){d:Nat}{a0 a1:Option Addr}{n0 c0 n1 c1:Nat}{x:BI (d+1)}(hq:BRd d w (.slice a0 n0 c0) (.slice a1 n1 c1) x) (hok:BOk (d+1) x) :
  Calls Tryz.prog 12 #[.agg #[.slice am nm cm,.slice ae ne ce],.int .i64 msg,.agg #[.slice a0 n0 c0,.slice a1 n1 c1]] w fun e w'=>∃ ao n c,e = .returned (.tuple #[.slice ao n c,.int .i64 (A7k g d msg x).2])∧Row ekY w' w.heap.size (.slice ao n c) (A7k g d msg x).1∧Below w.heap.size w w':=by
 obtain⟨W2,HW2⟩:∃ W2,Hid (W2=(w.alloc (.cells #[.slice am nm cm,.slice ae ne ce] 25)).alloc (.cells #[.slice a0 n0 c0,.slice a1 n1 c1] 29)):=⟨_,rfl⟩
 have hb2:Below w.heap.size w W2:=by rw[HW2.out];exact((Below.refl _ _).alloc (Nat.le_refl _) _).alloc (by simp) _
 have z2:w.heap.size+2≤W2.heap.size:=by rw[HW2.out];simp
 have x1:W2.heap[w.heap.size]?=some (.cells #[.slice am nm cm,.slice ae ne ce] 25 (0,0)):=by rw[HW2.out];exact A0u _ _ _
 have x2:W2.heap[w.heap.size+1]?=some (.cells #[.slice a0 n0 c0,.slice a1 n1 c1] 29 (0,0)):=by rw[HW2.out];exact A0r _ _ _
 obtain⟨Q,HQ⟩:∃ Q,Hid (A1g g d msg x=Q):=⟨_,rfl⟩
 have hwr:=(hI.below hb2).wrong (hq.below hb2) hok
 rw[HQ.out] at hwr
 obtain⟨R,HR⟩:∃ R,Hid (A7k g d msg x=R):=⟨_,rfl⟩
 rw[HR.out]
 obtain⟨y0,y1⟩:=A0v x1
 obtain⟨y2,y3⟩:=A0v x2
 have HI:Hid (WIn g am nm cm ae ne ce msg w):=hI
 have HQR:Hid (BRd d w (.slice a0 n0 c0) (.slice a1 n1 c1) x):=hq
 have HSM:Hid (A1g g d msg x=0→BSw (d+1) x):=fun hz=>(C0o hok hz).1
 have HVN:Hid (A1g g d msg x=0→BVn (d+1) x):=fun hz=>(C0o hok hz).2
 clear hI hq hok
 go_enter Tryz.func12,Tryz.ntmps12
 go_upto_region 1 with fail
 rw[←HW2.out]
 go_wp2_with fail
 refine hwr.mono ?_
 rintro e w3 ⟨rfl,hb3⟩
 have hbw3:Below w.heap.size w w3:=BTr hb2 hb3
 clear y0 y1 y2 y3 hwr
 by_cases hQ0:Q=0
 ·subst hQ0
  obtain⟨hr,j,M,Hj,hM,hbe⟩:=B1j HQ.out
  have HT:Hid (R=A1h g (d+1) M x):=by
   show _=_
   rw[←HR.out,A7k,if_neg (by rw[HQ.out];simp),Hj,Int.toNat_natCast,hM]
  have Hnm:=HI.out.hg.1.len.1
  have hjl:=(List.getElem?_eq_some_iff.1 hM).1
  have hfit:=B6e (A2e hr) (d+1) 1 M x (List.mem_of_getElem? hM) (HVN.out HQ.out) hbe
  subst Hj
  obtain⟨bm,om,rfl,hat⟩:=HI.out.hg.1.get MAt.plain hM
  obtain⟨vf,vb,s0,s1,s2,hrf,hrb⟩:=hat.at
  obtain⟨af,nf,kf,rfl,_,_⟩:=hrf.shape
  obtain⟨ab,nb,kb,rfl,_,_⟩:=hrb.shape
  have hji:(j:Int) < (nm:Int):=by omega
  have hji0:¬ (j:Int) < 0:=by omega
  have hd:Below W2.heap.size W2 w3.drew:=hb3.drew
  have hcl:∀ V,Below W2.heap.size W2 V→V.cell? ⟨w.heap.size,0,none⟩=some (.slice (some ⟨bm,om,none⟩) nm cm)∧V.cell? ⟨w.heap.size,1,none⟩=some (.slice ae ne ce)∧V.cell? ⟨w.heap.size+1,0,none⟩=some (.slice a0 n0 c0)∧V.cell? ⟨w.heap.size+1,1,none⟩=some (.slice a1 n1 c1)∧V.cell? ⟨bm,om+j*3,none⟩=some (.string (S M.name))∧V.cell? ⟨bm,om+j*3+1,none⟩=some (.slice af nf kf)∧V.cell? ⟨bm,om+j*3+2,none⟩=some (.slice ab nb kb):=fun V hV=>by
   have hwV:Below w.heap.size w V:=BTr hb2 hV
   obtain⟨e1,e2⟩:=A0v ((hV.block _ (by omega)).trans x1)
   obtain⟨e3,e4⟩:=A0v ((hV.block _ (by omega)).trans x2)
   exact⟨e1,e2,e3,e4,A0c hwV s0,A0c hwV s1,A0c hwV s2⟩
  have hwt:∀ U,Below W2.heap.size W2 U→Calls Tryz.prog 26 #[.agg #[.slice (some ⟨bm,om,none⟩) nm cm,.slice ae ne ce],.agg #[.string (S M.name),.slice af nf kf,.slice ab nb kb],.agg #[.slice a0 n0 c0,.slice a1 n1 c1]] U fun e w'=>∃ ao n c,e = .returned (.tuple #[.slice ao n c,.int .i64 R.2])∧Row ekY w' U.heap.size (.slice ao n c) R.1∧Below U.heap.size U w':=fun U hU=>by
   have hwU:Below w.heap.size w U:=BTr hb2 hU
   rw[HT.out]
   exact C0y g (d+1) U _ _ _ _ _ _ M x (HI.out.hg.below hwU) (hrf.below FAt.stays hwU) (hrb.below NAt.stays hwU) (HQR.out.below hwU) (HSM.out HQ.out) hfit
  clear hat s0 s1 s2 hrf hrb hM hbe hfit Hnm hjl
  go_upto_region 4 with fail
  refine wp_region_held_drew (S:=fun U=>Below W2.heap.size W2 U) (by kernel_rfl) hd (fun hHeld=>?_)
  refine tK (i:=0) (v:=?vr1) rfl (fun _ _ _ h=>h) ⟨by rfl,?hyr1⟩ (by assumption) ?_
  case hyr1=>(intro W hSw;obtain⟨o1,o2,o3,o4,o5,o6,o7⟩:=hcl W hSw;go_simp;first|done|with_reducible rfl)
  try simp only[pT,Act.put]
  refine tK (i:=1) (v:=?vr2) rfl (fun _ _ _ h=>h) ⟨by rfl,?hyr2⟩ (by assumption) ?_
  case hyr2=>(intro W hSw;obtain⟨o1,o2,o3,o4,o5,o6,o7⟩:=hcl W hSw;go_simp;first|done|with_reducible rfl)
  try simp only[pT,Act.put]
  refine tK (i:=2) (v:=?vr3) rfl (fun _ _ _ h=>h) ⟨by rfl,?hyr3⟩ (by assumption) ?_
  case hyr3=>(intro W hSw;obtain⟨o1,o2,o3,o4,o5,o6,o7⟩:=hcl W hSw;go_simp;first|done|with_reducible rfl)
  try simp only[pT,Act.put]
  refine tK (i:=3) (v:=?vr4) rfl (fun _ _ _ h=>h) ⟨by rfl,?hyr4⟩ (by assumption) ?_
  case hyr4=>(intro W hSw;obtain⟨o1,o2,o3,o4,o5,o6,o7⟩:=hcl W hSw;go_simp;first|done|with_reducible rfl)
  try simp only[pT,Act.put]
  refine tK (i:=4) (v:=?vr5) rfl (fun _ _ _ h=>h) ⟨by rfl,?hyr5⟩ (by assumption) ?_
  case hyr5=>(intro W hSw;obtain⟨o1,o2,o3,o4,o5,o6,o7⟩:=hcl W hSw;go_simp;first|done|with_reducible rfl)
  try simp only[pT,Act.put]
  refine tK (i:=5) (v:=?vr6) rfl (fun _ _ _ h=>h) ⟨by rfl,?hyr6⟩ (by assumption) ?_
  case hyr6=>(intro W hSw;obtain⟨o1,o2,o3,o4,o5,o6,o7⟩:=hcl W hSw;go_simp;first|done|with_reducible rfl)
  try simp only[pT,Act.put]
  refine tK (i:=6) (v:=?vr7) rfl (fun _ _ _ h=>h) ⟨by rfl,?hyr7⟩ (by assumption) ?_
  case hyr7=>(intro W hSw;obtain⟨o1,o2,o3,o4,o5,o6,o7⟩:=hcl W hSw;go_simp;first|done|with_reducible rfl)
  try simp only[pT,Act.put]
  refine wpAnyH_ready (rs:=[7]) (by kernel_rfl) (by simp) ?_
  refine AllReadyH.cons rfl (fun K hK=>?_) AllReadyH.nil
  go_simp
  refine(hwt _ hd).mono ?_
  rintro e w5 ⟨az,nz,cz,rfl,hr5,hb5⟩
  have hB5:=BTr hd hb5
  refine hK.out _ _ ?_ (fun hHeld=>?_)
  ·(try dsimp only);with_reducible first|exact hd|exact hB5
  clear hK K
  try simp only[pT,Act.put]
  refine tK (i:=8) (v:=?vr8) rfl (fun _ _ _ h=>h) ⟨by rfl,?hyr8⟩ (by assumption) ?_
  case hyr8=>(intro W hSw;obtain⟨o1,o2,o3,o4,o5,o6,o7⟩:=hcl W hSw;go_simp;first|done|with_reducible rfl)
  try simp only[pT,Act.put]
  refine tK (i:=9) (v:=?vr9) rfl (fun _ _ _ h=>h) ⟨by rfl,?hyr9⟩ (by assumption) ?_
  case hyr9=>(intro W hSw;obtain⟨o1,o2,o3,o4,o5,o6,o7⟩:=hcl W hSw;go_simp;first|done|with_reducible rfl)
  try simp only[pT,Act.put]
  refine tK (i:=10) (v:=?vr10) rfl (fun _ _ _ h=>h) ⟨by rfl,?hyr10⟩ (by assumption) ?_
  case hyr10=>(intro W hSw;obtain⟨o1,o2,o3,o4,o5,o6,o7⟩:=hcl W hSw;go_simp;first|done|with_reducible rfl)
  try simp only[pT,Act.put]
  refine tK (i:=11) (v:=?vr11) rfl (fun _ _ _ h=>h) ⟨by rfl,?hyr11⟩ (by assumption) ?_
  case hyr11=>(intro W hSw;obtain⟨o1,o2,o3,o4,o5,o6,o7⟩:=hcl W hSw;go_simp;first|done|with_reducible rfl)
  try simp only[pT,Act.put]
  refine wpAnyH_done (by kernel_rfl) ?_ _
  have hz3:=hb3.size
  have hr5':Row ekY w5 w.heap.size (.slice az nz cz) R.1:=hr5.mono (by show w.heap.size≤w3.heap.size;omega)
  clear hr5
  go_wp2
  go_ret2
  exact⟨az,nz,cz,rfl,hr5',BTr hb2 hB5⟩
 ·have HT:Hid (R=([],Q)):=by show _=_;rw[←HR.out,A7k,if_pos (by rw[HQ.out];exact hQ0),HQ.out]
  have ez:(Q != 0)=true:=by simpa using hQ0
  go_wp2
  go_ret2
  exact⟨none,0,0,by rw[HT.out];rfl,by rw[HT.out];exact Row.nil _ _ _,hbw3⟩
end L
end Go.Proofs.YtcagbdokbnpdfaaGreatDoor
namespace Go.Proofs.YtcagbdokbnpdfaaGreatDoor
namespace L
open Go.RowKit
set_option linter.unusedVariables false
def noF (fs:List FI) (r:RI):Bool:=(fs.find? (isF r.number)).isNone
theorem A8x {n:Nat}{g:GI}{rd:List UInt8→List UInt8→Except Int (BI n)}{fs:List FI}:∀ (rs:List RI) (b:BO (BI n)) (un:List RI) (s:BO (BI n)),A1j g rd fs rs b un = .ok s→s.unk=un++rs.filter (noF fs)
 | [],b,un,s,h=>by
  have e:(⟨b.vals,un⟩:BO (BI n))=s:=Except.ok.inj h
  subst e
  simp
 | r::rs,b,un,s,h=>by
  cases hf:fs.find? (isF r.number) with
  | none=>
   rw[A3v hf] at h
   rw[A8x rs b _ s h,List.filter_cons_of_pos (by unfold noF;rw[hf];rfl),List.append_assoc]
   rfl
  | some x=>
   have hn:¬ noF fs r=true:=by unfold noF;rw[hf];simp
   cases ht:A3j rd x r with
   | error E=>rw[A4s hf ht] at h;cases h
   | ok v=>
    cases hw:A1m g n fs x b v with
    | error E=>rw[A3h hf ht hw] at h;cases h
    | ok b'=>
     rw[A4r hf ht hw] at h
     rw[A8x rs b' un s h,List.filter_cons_of_neg hn]
theorem A2a {g:GI}{msg:Int}{l:List UInt8}{s:BI 12}(h:A2d g msg l = .ok s):(A1c g).1=0∧∃ (j:Nat) (m:MI),msg=(j:Int)∧g.msgs[j]?=some m∧A3b g 12 m l = .ok s:=by
 unfold A2d at h
 split at h
 ·cases h
 ·rename_i h1
  split at h
  ·cases h
  ·rename_i h2
   split at h
   ·rename_i m hm
    exact⟨by omega,msg.toNat,m,by omega,hm,h⟩
   ·cases h
theorem A5l {g:GI}{n:Nat}{m:MI}{l:List UInt8}{s:BI (n+1)}(h:A3b g (n+1) m l = .ok s):∃ rs A,A1t l=(rs,0,A)∧A1j g (fun t l=>A3b g n (msgD g t) l) m.fields (rs.map A8j) ⟨[],[]⟩ [] = .ok s:=by
 obtain⟨rs,E,A,hp⟩:∃ rs E A,A1t l=(rs,E,A):=⟨_,_,_,rfl⟩
 by_cases hE:E≠0
 ·rw[B1a hp hE] at h
  cases h
 ·have hE:E=0:=by omega
  subst hE
  rw[A7z hp] at h
  exact⟨rs,A,hp,h⟩
theorem A9s (acc:List UInt8) (r:RI) (l:List RI):A2m acc (r::l)=if A0s r.number r.how r.bits r.bytes.length≠0 then([],A0s r.number r.how r.bits r.bytes.length) else if 4000 < (acc++recN r.number r.how r.bits r.bytes).length then([],4) else A2m (acc++recN r.number r.how r.bits r.bytes) l:=rfl
theorem C3p {num how:Int}{bits len:Nat}(h:A0s num how bits len=0):len≤4000:=B6s h
theorem B4x:∀ (l:List RI) (x acc:List UInt8),(A2m (x++acc) l).2=0→(A2m (x++acc) l).1=x++(A2m acc l).1∧(A2m acc l).2=0
 | [],x,acc,_=>⟨rfl,rfl⟩
 | r::l,x,acc,h=>by
  unfold A2m at h ⊢
  by_cases h1:A0s r.number r.how r.bits r.bytes.length≠0
  ·rw[if_pos h1] at h
   exact absurd h h1
  ·rw[if_neg h1] at h ⊢
   rw[if_neg h1]
   by_cases h2:4000 < (x++acc++recN r.number r.how r.bits r.bytes).length
   ·rw[if_pos h2] at h
    cases h
   ·rw[if_neg h2] at h ⊢
    have h3:¬ 4000 < (acc++recN r.number r.how r.bits r.bytes).length:=by
     simp only[List.length_append] at h2 ⊢
     omega
    rw[if_neg h3]
    rw[List.append_assoc] at h ⊢
    exact B4x l x _ h
theorem C4c:∀ (a b:List RI) (acc:List UInt8),(A2m acc (a++b)).2=0→∃ X,(A2m acc (a++b)).1=X++(A2m [] b).1
 | [],b,acc,h=>by
  have h':(A2m (acc++[]) b).2=0:=by rw[List.append_nil];exact h
  have:=(B4x b acc [] h').1
  rw[List.append_nil] at this
  exact⟨acc,this⟩
 | r::a,b,acc,h=>by
  rw[List.cons_append,A9s] at h ⊢
  by_cases h1:A0s r.number r.how r.bits r.bytes.length≠0
  ·rw[if_pos h1] at h
   exact absurd h h1
  ·rw[if_neg h1] at h ⊢
   by_cases h2:4000 < (acc++recN r.number r.how r.bits r.bytes).length
   ·rw[if_pos h2] at h
    cases h
   ·rw[if_neg h2] at h ⊢
    exact C4c a b _ h
theorem D0q {g:GI}{d:Nat}{m:MI}{b:BI (d+1)}(h:(A1h g (d+1) m b).2=0):∃ X,(A1h g (d+1) m b).1=X++(A2m [] (BO.unk b)).1:=by
 have e:A1h g (d+1) m b=A9c (fun t x=>A1h g d (A4z g t) x) m b:=rfl
 rw[e] at h ⊢
 unfold A9c at h ⊢
 split at h
 ·rename_i h1
  exact absurd h h1
 ·rename_i h1
  rw[if_neg h1]
  exact C4c _ _ _ h
theorem D1q {g:GI}{d:Nat}{msg:Int}{x:BI (d+1)}(h:(A7k g d msg x).2=0):∃ X,(A7k g d msg x).1=X++(A2m [] (BO.unk x)).1:=by
 unfold A7k at h ⊢
 split at h
 ·rename_i h1
  exact absurd h h1
 ·rename_i h1
  rw[if_neg h1]
  split at h
  ·exact D0q h
  ·cases h
end L
end Go.Proofs.YtcagbdokbnpdfaaGreatDoor
namespace Go.Proofs.YtcagbdokbnpdfaaGreatDoor
namespace L
open Go.RowKit
def B9e:Prop:=∀ w,Tabs w→Calls Tryz.prog 17 #[] w fun e w'=>e = .returned (.bool true)∧Below w.heap.size w w'
theorem rdl_of {w:World}{ao:Option Addr}{n cap:Nat}{l:List UInt8}(h:RdA w ao n cap l):RdL 1 YAt w (.slice ao n cap) l:=by
 obtain⟨h1,h2,h3,h4,h5⟩:=h
 refine⟨ao,n,cap,rfl,h1,h2,h3,fun e=>⟨by have:=h4 e;omega,h4 e⟩,fun x hx k a ha=>?_⟩
 have hk:=(List.getElem?_eq_some_iff.1 ha).1
 have:=h5 x hx k (by omega)
 rw[List.getD_eq_getElem?_getD,ha] at this
 rw[Nat.mul_one]
 exact this
end L
end Go.Proofs.YtcagbdokbnpdfaaGreatDoor
namespace Go.Proofs.YtcagbdokbnpdfaaGreatDoor
namespace L
open Go.RowKit
theorem A2n {w:World}{ao:Option Addr}{len cap:Nat}{l:List UInt8}(h:RdL 1 YAt w (.slice ao len cap) l):(convert 30 9 (.slice ao len cap)).run Tryz.prog w = .ok (.string ⟨l.toArray⟩) w:=by
 obtain⟨ao',n',cap',e,h1,h2,h3,h4,h5⟩:=h
 cases e
 cases ao with
 | none=>
  have hc0:=(h4 rfl).1
  have hm:l = []:=List.eq_nil_of_length_eq_zero (by omega)
  subst hm
  rw[run_convert_bytes_nil w 30 5 Tryz.underlying30 Tryz.underlying5 len cap 9 Tryz.underlying9]
  rfl
 | some x=>
  have hl:(loadCells x len).run Tryz.prog w = .ok ((l.map fun c=>((c.toNat:Nat):Int)).map (Value.int .u8)).toArray w:=by
   have:=run_loadCells_list (P:=Tryz.prog) w x ((l.map fun c=>((c.toNat:Nat):Int)).map (Value.int .u8)) (fun j v hj=>by
    rw[List.getElem?_map,List.getElem?_map] at hj
    cases hc:l[j]? with
    | none=>rw[hc] at hj;cases hj
    | some c=>
     rw[hc] at hj
     have:=h5 x rfl j c hc
     rw[Nat.mul_one] at this
     rw[show w.cell? (x.add j)=_ from this]
     exact hj)
   simpa [h1] using this
  rw[run_convert_bytes_string w 30 9 5 _ len cap Tryz.underlying30 Tryz.underlying5 Tryz.underlying9,run_bytesToString w _ len cap _ hl,foldl_push_bytes]
  have e:∀ l:List UInt8,(l.map fun c=>((c.toNat:Nat):Int)).map (fun n:Int=>UInt8.ofNat n.toNat)=l:=by
   intro l
   rw[List.map_map]
   conv=>rhs;rw[←List.map_id l]
   apply List.map_congr_left
   intro c _
   simp
  rw[e]
  simp[ByteArray.empty,ByteArray.emptyWithCapacity]
  rfl
end L
end Go.Proofs.YtcagbdokbnpdfaaGreatDoor
namespace Go.Proofs.YtcagbdokbnpdfaaGreatDoor
open Go.RowKit
def D4v:Shelf.Ren:=⟨fun x=>x,fun x=>if x=119 then 244 else if x=138 then 246 else if x=139 then 247 else if x=5 then 5 else x,fun x=>if x=3 then 0 else if x=4 then 1 else x⟩
theorem C2m:(Rows.laid_unicode_utf8_first:DataW Unit)=Lib.firstData:=by kernel_rfl
theorem B8a:(Rows.laid_unicode_utf8_acceptRanges:DataW Unit)=Lib.acceptData:=by kernel_rfl
theorem A6i {W : World} (h : laidMet Tryz.prog [("unicode/utf8.acceptRanges", Rows.laid_unicode_utf8_acceptRanges), ("unicode/utf8.first", Rows.laid_unicode_utf8_first)] W) : L.Tabs W := by
 have h3:=Lib.laidMet.reads h (.tail _ (.head _))
 have h4:=Lib.laidMet.reads h (.head _)
 rw[C2m] at h3
 rw[B8a] at h4
 exact utf8Tabs_of_readsT (ρ:=D4v) ⟨by kernel_rfl,by kernel_rfl,by kernel_rfl,by kernel_rfl⟩ ⟨by kernel_rfl,by kernel_rfl,by kernel_rfl,by kernel_rfl,by kernel_rfl,by kernel_rfl,by kernel_rfl⟩ h3 h4
end Go.Proofs.YtcagbdokbnpdfaaGreatDoor
namespace Go.Proofs.YtcagbdokbnpdfaaGreatDoor
namespace L
open Go.ChangeShapes Go.WideShapes Go.ChangeAt Go.RowKit
set_option linter.unusedVariables false
section
variable {H:Type}{enc:TypeId×Value→H}{w:World}{base:Nat}{spare:Nat→Bool}{held:Bool}
end
end L
end Go.Proofs.YtcagbdokbnpdfaaGreatDoor
namespace Go.Proofs.YtcagbdokbnpdfaaGreatDoor
open Go.RowKit
theorem C7m {W:World}{am:Option Addr}{nm cm:Nat}{ae:Option Addr}{ne ce:Nat}{g:L.GI}(hg:L.GRd W (.slice am nm cm) (.slice ae ne ce) g) (hok:L.GOk g) (hT:L.Tabs W){msg:Int}(z:L.I64 msg):L.WIn g am nm cm ae ne ce msg W:=by
 obtain⟨h1,h2,h3,h4⟩:=hok
 refine⟨hg,by unfold reachBytes at h3;omega,by unfold reachBytes at h4;omega,L.GOk.fits ⟨h1,h2,h3,h4⟩,fun M hM=>?_,hT,z.1,z.2⟩
 obtain⟨_,hf,_,hl,_⟩:=h1 M hM
 exact⟨fun f hff=>⟨(hf f hff).2.2.1,(hf f hff).2.2.2.2⟩,by unfold reachBytes at hl;omega⟩
end Go.Proofs.YtcagbdokbnpdfaaGreatDoor
namespace Go.Proofs
open Go.Shelf
def Tryz.lays189_ren:Go.Shelf.Ren:=⟨fun|189=>25|125=>45|257=>44|128=>100|129=>101|294=>91|295=>92|296=>93|297=>94|298=>95|299=>96|216=>97|300=>98|301=>99|328=>176|329=>177|330=>178|331=>179|332=>180|215=>181|343=>221|n=>n,fun|28=>33|3=>3|46=>89|0=>0|51=>156|53=>63|4=>4|183=>149|182=>148|131=>71|5=>5|9=>9|218=>222|222=>226|228=>252|229=>253|n=>n,fun|n=>n⟩
theorem Tryz.lays189:Go.Proofs.Lays.n189 Tryz.prog Tryz.lays189_ren:={
 mixed:=by kernel_rfl
 f125:=Tryz.func45.trans (congrArg some (by kernel_rfl))
 f128:=Tryz.func100.trans (congrArg some (by kernel_rfl))
 f129:=Tryz.func101.trans (congrArg some (by kernel_rfl))
 f189:=Tryz.func25.trans (congrArg some (by kernel_rfl))
 f215:=Tryz.func181.trans (congrArg some (by kernel_rfl))
 f216:=Tryz.func97.trans (congrArg some (by kernel_rfl))
 f257:=Tryz.func44.trans (congrArg some (by kernel_rfl))
 f294:=Tryz.func91.trans (congrArg some (by kernel_rfl))
 f295:=Tryz.func92.trans (congrArg some (by kernel_rfl))
 f296:=Tryz.func93.trans (congrArg some (by kernel_rfl))
 f297:=Tryz.func94.trans (congrArg some (by kernel_rfl))
 f298:=Tryz.func95.trans (congrArg some (by kernel_rfl))
 f299:=Tryz.func96.trans (congrArg some (by kernel_rfl))
 f300:=Tryz.func98.trans (congrArg some (by kernel_rfl))
 f301:=Tryz.func99.trans (congrArg some (by kernel_rfl))
 f328:=Tryz.func176.trans (congrArg some (by kernel_rfl))
 f329:=Tryz.func177.trans (congrArg some (by kernel_rfl))
 f330:=Tryz.func178.trans (congrArg some (by kernel_rfl))
 f331:=Tryz.func179.trans (congrArg some (by kernel_rfl))
 f332:=Tryz.func180.trans (congrArg some (by kernel_rfl))
 f343:=Tryz.func221.trans (congrArg some (by kernel_rfl))
 t0:=Tryz.underlying0
 a0:=Tryz.isAgg0
 z0:=Tryz.sizeOf0
 v0:=Tryz.zeroValue0
 t3:=Tryz.underlying3
 a3:=Tryz.isAgg3
 z3:=Tryz.sizeOf3
 v3:=Tryz.zeroValue3
 t4:=Tryz.underlying4
 a4:=Tryz.isAgg4
 z4:=Tryz.sizeOf4
 v4:=Tryz.zeroValue4
 t5:=Tryz.underlying5
 a5:=Tryz.isAgg5
 z5:=Tryz.sizeOf5
 v5:=Tryz.zeroValue5
 t9:=Tryz.underlying9
 a9:=Tryz.isAgg9
 z9:=Tryz.sizeOf9
 v9:=Tryz.zeroValue9
 t28:=Tryz.underlying33
 a28:=Tryz.isAgg33
 z28:=Tryz.sizeOf33
 v28:=Tryz.zeroValue33
 t46:=Tryz.underlying89
 a46:=Tryz.isAgg89
 z46:=Tryz.sizeOf89
 v46:=Tryz.zeroValue89
 t51:=Tryz.underlying156
 a51:=Tryz.isAgg156
 z51:=Tryz.sizeOf156
 v51:=Tryz.zeroValue156
 t53:=Tryz.underlying63
 a53:=Tryz.isAgg63
 z53:=Tryz.sizeOf63
 v53:=Tryz.zeroValue63
 t131:=Tryz.underlying71
 a131:=Tryz.isAgg71
 z131:=Tryz.sizeOf71
 v131:=Tryz.zeroValue71
 t182:=Tryz.underlying148
 a182:=Tryz.isAgg148
 z182:=Tryz.sizeOf148
 v182:=Tryz.zeroValue148
 t183:=Tryz.underlying149
 a183:=Tryz.isAgg149
 z183:=Tryz.sizeOf149
 v183:=Tryz.zeroValue149
 t218:=Tryz.underlying222
 a218:=Tryz.isAgg222
 z218:=Tryz.sizeOf222
 v218:=Tryz.zeroValue222
 t222:=Tryz.underlying226
 a222:=Tryz.isAgg226
 z222:=Tryz.sizeOf226
 v222:=Tryz.zeroValue226
 t228:=Tryz.underlying252
 a228:=Tryz.isAgg252
 z228:=Tryz.sizeOf252
 v228:=Tryz.zeroValue252
 t229:=Tryz.underlying253
 a229:=Tryz.isAgg253
 z229:=Tryz.sizeOf253
 v229:=Tryz.zeroValue253 }
open Go.Sort Go.RowKit in
theorem Tryz.slices_Sort_int (blk off cap:Nat) (zs:List Int) (w:World) (hH:Holds (Value.int .i64) w blk off zs.toArray) (hblk:blk < w.heap.size) (hsz:zs.length < 4611686018427387904) :
  Calls Tryz.prog 25 #[.slice (some ⟨blk,off,none⟩) zs.length cap] w fun e w'=>
   e = .returned (.tuple #[])∧∃ n os,w'=grow (putRow (Value.int .i64) (Sort.ahead w n) blk off (zs.mergeSort fun x y=>decide (x≤y)).toArray) os:=Any.slices_Sort_int Tryz.lays189 blk off cap zs w hH hblk hsz
open Go.RowKit Go.Sort in
theorem Tryz.slices_Sort_int_none (p:Option Addr) (cap:Nat) (w:World) :
  Calls Tryz.prog 25 #[.slice p 0 cap] w fun e w'=>e = .returned (.tuple #[])∧w'=w:=Any.slices_Sort_int_none Tryz.lays189 p cap w
end Go.Proofs
namespace Go.Proofs.YtcagbdokbnpdfaaGreatDoor
namespace L
open Go.RowKit Go.Sort
theorem D1s:∀ l:List Int,ekN.flat l=l.map (Value.int .i64)
 | []=>rfl
 | a::l=>by
  have:=D1s l
  unfold EK.flat at this ⊢
  rw[List.flatMap_cons,this]
  rfl
theorem D0c {w:World}{base:Nat}{ao:Option Addr}{n cap:Nat}{l:List Int}(h:Row ekN w base (.slice ao n cap) l) (hl:l.length≤1000000000000) (hB:base≤w.heap.size) :
  Calls Tryz.prog 25 #[.slice ao n cap] w fun e w'=>e = .returned (.tuple #[])∧Row ekN w' base (.slice ao n cap) (l.mergeSort fun x y=>decide (x≤y))∧Below base w w':=by
 have hlen:=h.len
 subst hlen
 rcases h.2 with⟨hv,hn⟩|⟨g,cap',cur,hv,hbg,hg,hn,hm,hsz,ht⟩
 ·have:l = []:=List.eq_nil_of_length_eq_zero hn
  subst this
  refine(Tryz.slices_Sort_int_none ao cap w).mono ?_
  rintro e w' ⟨rfl,rfl⟩
  exact⟨rfl,by simpa using h,Below.refl _ _⟩
 ·cases hv
  have ht1:cur.toList.take l.length=l.map (Value.int .i64):=by rw[←D1s,←ht];simp[ekN]
  have hgl:g < w.heap.size:=(Array.getElem?_eq_some_iff.1 hg).1
  refine(Tryz.slices_Sort_int g 0 cap l w (holds_of_blockI hg ht1) hgl (by omega)).mono ?_
  rintro e w' ⟨rfl,q,os,rfl⟩
  refine⟨rfl,?_,(Below.refl base w).grown (grownBy_sortedI _) hB (fun k hk=>by cases hk;exact hbg)⟩
  have:=ownsRow_sortedI (n:=q) (os:=os) (ss:=l) (ts:=l.mergeSort fun x y=>decide (x≤y)) (by simp) hbg hg hn hm hsz
  show World.ownsRow _ base 3 1 _ _ _
  rw[D1s,List.length_mergeSort]
  exact this
set_option maxHeartbeats 2000000 in
set_option maxRecDepth 100000 in
theorem B8e {w:World}{nm:List UInt8}{vf vb:Value}{m:MI}(h:RdL 6 FAt w vf m.fields) (hvb:∃ ao n cap,vb = .slice ao n cap) (hl:m.fields.length≤1000000000000) :
  Calls Tryz.prog 10 #[.agg #[.string (S nm),vf,vb]] w fun e w'=>∃ ao n cap,e = .returned (.slice ao n cap)∧Row ekN w' w.heap.size (.slice ao n cap) (D3s m)∧Below w.heap.size w w':=by
 obtain⟨a1,n1,c1,rfl,H1,_⟩:=h.shape
 obtain⟨a2,n2,c2,rfl⟩:=hvb
 have hn1:n1≤1000000000000:=by rw[H1.out];exact hl
 obtain⟨W0,HW0⟩:∃ W0,Hid (W0=w.alloc (.cells #[.string (S nm),.slice a1 n1 c1,.slice a2 n2 c2] 35)):=⟨_,rfl⟩
 have hb0:Below w.heap.size w W0:=by rw[HW0.out];exact(Below.refl _ _).alloc (Nat.le_refl _) _
 have hz0:w.heap.size+1≤W0.heap.size:=by rw[HW0.out];simp
 go_enter Tryz.func10,Tryz.ntmps10
 go_wp2_with fail
 rw[←HW0.out]
 go_loopg [3,9] n1 (fun m' v i wr=>∃ (k:Nat) (ao:Option Addr) (no co:Nat),k+m'=n1∧i = .int .i64 k∧v = .slice ao no co∧Row ekN wr W0.heap.size (.slice ao no co) ((m.fields.take k).map FI.number)∧Below W0.heap.size W0 wr)
 case atStart=>exact⟨0,none,0,0,by omega,rfl,rfl,by rw[List.take_zero];exact Row.nil _ _ _,Below.refl _ _⟩
 case round=>
  obtain⟨k,ao,no,co,hk,rfl,rfl,hr,hb⟩:=hrel
  have hbw:Below w.heap.size w wr:=KBT hb0 hb
  have hzr:=hb.size
  by_cases hlt:k < n1
  ·obtain⟨x,Hx⟩:∃ x,Hid (m.fields[k]?=some x):=⟨m.fields[k]'(by rw[←H1.out];exact hlt),List.getElem?_eq_getElem (by rw[←H1.out];exact hlt)⟩
   obtain⟨b,off,rfl,hat⟩:=(h.below FAt.stays hbw).get FAt.plain Hx.out
   obtain⟨s0,s1,s2,s3,s4,s5⟩:=hat.at
   have hki:(k:Int) < (n1:Int):=by omega
   have hlk:((m.fields.take k).map FI.number).length≤n1:=by rw[List.length_map,List.length_take];omega
   clear hat
   go_wp2_with (at_builtin;refine A2b (by rfl) ekN _ _ (by rfl) W0.heap.size (.slice ao no co) ((m.fields.take k).map FI.number) [x.number] (by rfl) ?a1 (some ⟨wr.heap.size+1,0,none⟩) 1 1 (by rfl) (by rfl) ?a2 ?a3 (by decide) ?a4 ?a5 ?_)
   case a1=>exact hr.below (((Below.refl _ _).alloc (Nat.le_refl _) _).alloc (by simp) _)
   case a2=>intro e;cases e
   case a3=>
    have:=A7s ekN (wr.alloc (.cells #[.string (S x.name),.int .i64 x.number,.int .i64 x.kind,.string (S x.type),.bool x.many,.int .i64 x.choice] 58)) x.number
    rw[show(wr.alloc (.cells #[.string (S x.name),.int .i64 x.number,.int .i64 x.kind,.string (S x.type),.bool x.many,.int .i64 x.choice] 58)).heap.size=wr.heap.size+1 by simp] at this
    exact this
   case a4=>simp[ekN];omega
   case a5=>simp;omega
   intro v' w1 hr1 hg1
   obtain⟨a',n',c',rfl,_⟩:=hr1.shape'
   have hB1:Below W0.heap.size W0 w1:=D0v (A6m (A6m hb (Nat.le_refl _) _) (Nat.le_refl _) _) (Nat.le_refl _) hg1 (fun k hk=>(hr.own k hk).1)
   have hr1':Row ekN w1 W0.heap.size (.slice a' n' c') ((m.fields.take (k+1)).map FI.number):=by
    rw[A1k Hx.out,List.map_append,List.map_take];exact hr1
   clear hr1
   go_wp2_with fail
   go_roundg (n1 - (k+1))
   case measure=>omega
   case rel=>exact⟨k+1,a',n',c',by omega,by go_num,rfl,hr1',hB1⟩
  ·have hr1:Row ekN wr W0.heap.size (.slice ao no co) (m.fields.map FI.number):=by
    rw[List.take_of_length_le (by rw[←H1.out];omega)] at hr;exact hr
   have hs:=D0c hr1 (by rw[List.length_map];exact hl) hzr
   clear hr hr1
   go_wp2_with fail
   refine hs.mono ?_
   rintro e w1 ⟨rfl,hr1,hb1⟩
   have hbf:Below w.heap.size w w1:=hb0.trans ((hb.trans hb1).mono (by omega))
   go_wp2
   go_ret
   exact⟨ao,no,co,rfl,hr1.mono (by omega),hbf⟩
end L
end Go.Proofs.YtcagbdokbnpdfaaGreatDoor
