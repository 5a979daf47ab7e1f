import Derived.Test.YtgaoojpakjjdnaaGreatDoorU37
import Derived.Test.YtgaoojpakjjdnaaGreatDoorU24
import Derived.Test.YtgaoojpakjjdnaaGreatDoorU02
import Derived.Laws.BytesArg
import Derived.Test.YtgaoojpakjjdnaaGreatDoorU21
import Derived.Laws.StructEq
import Derived.Deep.CutRange
import Derived.Deep.QuietTactic
import Derived.BigQuiet
set_option maxHeartbeats 32000000
set_option maxRecDepth 100000
namespace Go.Proofs.YtgaoojpakjjdnaaGreatDoor
namespace L
open Go.RowKit
theorem C3s {g:GI}{d:Nat}(ih:A8p g d):A8p g (d+1):=by
 intro w vm ve vf vb v0 v1 m b hg hf cu hq hsm df
 have hq:BRd d w v0 v1 b:=hq
 obtain⟨hv,fd,fe⟩:OSw (BSw d) b:=hsm
 obtain⟨fh,et⟩:D1k g (fun t x=>C9h g d (B0i g t) x) m b:=df
 obtain⟨am,nm,cm,rfl,fo,_⟩:=hg.1.shape
 obtain⟨ae,ne,ce,rfl,_,_⟩:=hg.2.shape
 obtain⟨af,nf,cf,rfl,dy,_⟩:=hf.shape
 obtain⟨ab,nb,cb,rfl,_,_⟩:=cu.shape
 obtain⟨a0,n0,c0,rfl,H0,_⟩:=hq.1.shape
 obtain⟨a1,n1,c1,rfl,H1,_⟩:=hq.2.shape
 have fx:n0≤1048576:=by rw[H0.out];exact fh
 obtain⟨R,HR⟩:∃ R,Hid (A3k g (d+1) m b=R):=⟨_,rfl⟩
 rw[HR.out]
 obtain⟨q,Hq⟩:∃ q,Hid (A3w (fun t x=>A3k g d (B0i g t) x) m.fields [] b.vals=q):=⟨_,rfl⟩
 have dl:Hid (R=if q.2≠0 then([],q.2) else A6g [] (q.1++b.unk)):=by
  show _=_
  rw[←HR.out,←Hq.out];rfl
 have bh:=B4a (fun t x=>A3k g d (B0i g t) x) (fun t x=>B4l g d _ x) m.fields b.vals [] hv (fun r hr=>by cases hr)
 rw[Hq.out] at bh
 obtain⟨W0,au⟩:∃ W0,Hid (W0=((w.alloc (.cells #[.slice am nm cm,.slice ae ne ce] 25)).alloc (.cells #[.string (S m.name),.slice af nf cf,.slice ab nb cb] 38)).alloc (.cells #[.slice a0 n0 c0,.slice a1 n1 c1] 29)):=⟨_,rfl⟩
 have hb0:Below w.heap.size w W0:=by rw[au.out];exact(((Below.refl _ _).alloc (Nat.le_refl _) _).alloc (by simp) _).alloc (by simp;omega) _
 have hz0:w.heap.size+3≤W0.heap.size:=by rw[au.out];simp
 obtain⟨x3,x2,x1⟩:=B6b w (.cells #[.slice am nm cm,.slice ae ne ce] 25) (.cells #[.string (S m.name),.slice af nf cf,.slice ab nb cb] 38) (.cells #[.slice a0 n0 c0,.slice a1 n1 c1] 29)
 rw[←au.out] at x1 x2 x3
 obtain⟨t0,t1⟩:=A0s (g:=w.heap.size+1+1) x3
 have u0:=t0
 have u1:=t1
 rw[au.out] at u0 u1
 have fw:=A3i
 go_enter Tryz.func19,Tryz.ntmps19
 go_wp2_with fail
 rw[←au.out]
 go_loopg [9,20] n0 (fun mm u i wr=>∃ (k:Nat) (ao:Option Addr) (no co:Nat) (acc:List RI),k+mm=n0∧i = .int .i64 k∧u = .slice ao no co∧RecL w wr W0.heap.size (.slice ao no co) acc∧acc.length≤k*1048576∧Hid (A3w (fun t x=>A3k g d (B0i g t) x) m.fields acc ((BO.vals b).drop k)=q)∧Below W0.heap.size W0 wr)
 case atStart=>exact⟨0,none,0,0,[],by omega,rfl,rfl,RecL.nil _ _ _,by simp,Hq,Below.refl _ _⟩
 case round=>
  obtain⟨k,ao,no,co,acc,hk,rfl,rfl,hr,ba,HK,hb⟩:=hrel
  have ak:Below w.heap.size w wr:=KBT hb0 hb
  have dx:=hb.size
  by_cases hlt:k < n0
  ·obtain⟨v,Hx⟩:∃ x,Hid ((BO.vals b)[k]?=some x):=⟨(BO.vals b)[k]'(by rw[←H0.out];exact hlt),List.getElem?_eq_getElem (by rw[←H0.out];exact hlt)⟩
   have bv:=List.mem_of_getElem? Hx.out
   obtain⟨dv,dh,ac⟩:=et v bv
   obtain⟨gv,ov,rfl,dr⟩:=hq.1.get VAt.plain Hx.out
   obtain⟨y1,y2,y3,z0,z1,z2,z3,r1,r2,r3⟩:=dr.at
   obtain⟨b1,m1,d1,rfl,_,_⟩:=r1.shape
   obtain⟨b2,m2,d2,rfl,_,_⟩:=r2.shape
   obtain⟨b3,m3,d3,rfl,_,_⟩:=r3.shape
   have fu:(k:Int) < (n0:Int):=by omega
   obtain⟨j,hj,bq,ew,eu⟩:=C4w dv
   have HS:=C2n (deep:=fun t x=>A3k g d (B0i g t) x) (fs:=m.fields) Hx.out acc
   have bu:=(B7c (fun t x=>A3k g d (B0i g t) x) (fun t x=>B4l g d _ x) (A2e m.fields v.number) v (hv v bv)).2
   obtain⟨f,Hf⟩:∃ f,Hid (f=A2e m.fields v.number):=⟨_,rfl⟩
   rw[←Hf.out] at bq HS dh ac bu
   have ft:j < nf:=by rw[dy.out];exact(List.getElem?_eq_some_iff.1 bq).1
   have fq:(j:Int) < (nf:Int):=by omega
   obtain⟨bf,of,rfl,hat⟩:=hf.get FAt.plain bq
   obtain⟨B,E,HE⟩:∃ B E,Hid (A4z (fun t x=>A3k g d (B0i g t) x) f v=(B,E)):=⟨_,_,rfl⟩
   rw[HE.out] at HS bu
   obtain⟨W1,bl⟩:∃ W1,Hid (W1=wr.alloc (.cells #[.int .i64 v.number,.slice b1 m1 d1,.slice b2 m2 d2,.slice b3 m3 d3] 62)):=⟨_,rfl⟩
   have hb1:Below wr.heap.size wr W1:=by rw[bl.out];exact(Below.refl _ _).alloc (Nat.le_refl _) _
   have hz1:wr.heap.size+1≤W1.heap.size:=by rw[bl.out];simp
   have xv:W1.heap[wr.heap.size]?=some (.cells #[.int .i64 v.number,.slice b1 m1 d1,.slice b2 m2 d2,.slice b3 m3 d3] 62 (0,0)):=by rw[bl.out];exact heap_alloc_new _ _
   have ag:Below w.heap.size w W1:=KBT ak hb1
   have eo:∀ V,Below W1.heap.size W1 V→Calls Tryz.prog 37 #[.agg #[.string (S m.name),.slice (some ⟨bf,of,none⟩) nf cf,.slice ab nb cb],.int .i64 v.number] V fun e w'=>e = .returned (.int .i64 (j:Int))∧Below V.heap.size V w':=fun V hV=>by
    have:=A2h (hf.below FAt.stays (KBT ag hV)) ⟨ab,nb,cb,rfl⟩ ⟨m.name,rfl⟩ v.number
    rw[hj] at this
    exact this
   have fc:∀ V,Below W1.heap.size W1 V→Calls Tryz.prog 36 #[.agg #[.string (S f.name),.int .i64 f.number,.int .i64 f.kind,.string (S f.type),.bool f.many,.int .i64 f.choice],.agg #[.int .i64 v.number,.slice b1 m1 d1,.slice b2 m2 d2,.slice b3 m3 d3],.func (.func 34) #[] #[.pointer (some ⟨w.heap.size,0,none⟩)]] V fun e w'=>∃ ao n c,e = .returned (.tuple #[.slice ao n c,.int .i64 E])∧RecL w w' V.heap.size (.slice ao n c) B∧Below V.heap.size V w':=fun V hV=>by
    have bp:=KBT ag hV
    have:=B5q bp (r1.below UAt.stays bp) r2 (r3.below (BAt.stays d) bp) (hv v bv) f dh (enters_of Tryz.func34 (by kernel_rfl) rfl) (cap:=#[.pointer (some ⟨w.heap.size,0,none⟩)]) (deep:=fun t x=>A3k g d (B0i g t) x) (fun dp y hy=>(C3r ih (hg.below bp) (((KBT (KBT hb hb1) hV).block _ (by omega)).trans x1) (ac dp).1 ((hv v bv).2.2.2.2.2 y hy) ((ac dp).2 y hy)))
    rw[HE.out] at this
    exact this
   have ej:∀ V,Below W1.heap.size W1 V→Below W1.heap.size W1 V∧(V.cell? ⟨w.heap.size+1,0,none⟩=some (.string (S m.name))∧V.cell? ⟨w.heap.size+1,1,none⟩=some (.slice (some ⟨bf,of,none⟩) nf cf)∧V.cell? ⟨w.heap.size+1,2,none⟩=some (.slice ab nb cb))∧(V.cell? ⟨wr.heap.size,0,none⟩=some (.int .i64 v.number)∧V.cell? ⟨wr.heap.size,1,none⟩=some (.slice b1 m1 d1)∧V.cell? ⟨wr.heap.size,2,none⟩=some (.slice b2 m2 d2)∧V.cell? ⟨wr.heap.size,3,none⟩=some (.slice b3 m3 d3))∧V.cell? ⟨bf,of+j*6,none⟩=some (.string (S f.name))∧V.cell? ⟨bf,of+j*6+1,none⟩=some (.int .i64 f.number)∧V.cell? ⟨bf,of+j*6+2,none⟩=some (.int .i64 f.kind)∧V.cell? ⟨bf,of+j*6+3,none⟩=some (.string (S f.type))∧V.cell? ⟨bf,of+j*6+4,none⟩=some (.bool f.many)∧V.cell? ⟨bf,of+j*6+5,none⟩=some (.int .i64 f.choice):=fun V hV=>
    ⟨hV,A4e (((KBT (KBT hb hb1) hV).block _ (by omega)).trans x2),C0i ((hV.block _ (by omega)).trans xv),(FAt.stays _ _ _ _ (KBT ag hV) hat).at⟩
   have hd:Below W1.heap.size W1 W1.drew:=(Below.refl _ _).drew
   have s0:=A0c ak z0
   have s1:=A0c ak z1
   have s2:=A0c ak z2
   have s3:=A0c ak z3
   have dm:Hid (A3w (fun t x=>A3k g d (B0i g t) x) m.fields acc ((BO.vals b).drop k)=if E≠0 then([],E) else A3w (fun t x=>A3k g d (B0i g t) x) m.fields (acc++B) ((BO.vals b).drop (k+1))):=HS
   clear HS dh ac dv dr hat hj bq ew eu z0 z1 z2 z3 r1 r2 r3 u0 u1 t0 t1
   go_wp2_with fail
   rw[←bl.out]
   go_cut [12,13] from 24 to 37 (fun s12 fk wc=>∃ (a5:Option Addr) (n5 c5:Nat),s12 = .slice a5 n5 c5∧fk = .int .i64 E∧RecL w wc W0.heap.size (.slice a5 n5 c5) B∧Below W1.heap.size W1 wc)
   case first=>
    go_region_held3 (fun V=>Below W1.heap.size W1 V∧(V.cell? ⟨w.heap.size+1,0,none⟩=some (.string (S m.name))∧V.cell? ⟨w.heap.size+1,1,none⟩=some (.slice (some ⟨bf,of,none⟩) nf cf)∧V.cell? ⟨w.heap.size+1,2,none⟩=some (.slice ab nb cb))∧(V.cell? ⟨wr.heap.size,0,none⟩=some (.int .i64 v.number)∧V.cell? ⟨wr.heap.size,1,none⟩=some (.slice b1 m1 d1)∧V.cell? ⟨wr.heap.size,2,none⟩=some (.slice b2 m2 d2)∧V.cell? ⟨wr.heap.size,3,none⟩=some (.slice b3 m3 d3))∧V.cell? ⟨bf,of+j*6,none⟩=some (.string (S f.name))∧V.cell? ⟨bf,of+j*6+1,none⟩=some (.int .i64 f.number)∧V.cell? ⟨bf,of+j*6+2,none⟩=some (.int .i64 f.kind)∧V.cell? ⟨bf,of+j*6+3,none⟩=some (.string (S f.type))∧V.cell? ⟨bf,of+j*6+4,none⟩=some (.bool f.many)∧V.cell? ⟨bf,of+j*6+5,none⟩=some (.int .i64 f.choice)) ((with_reducible refine ej _ ?_;with_reducible (first|exact hd|exact cg|exact aw))) ((first|(go_at_call 37;refine(eo _ (by with_reducible exact hd)).mono ?_;rintro e w2 ⟨rfl,hb2⟩;have cg:=KBT hd hb2)|(go_at_call 36;refine(fc _ (by with_reducible exact cg)).mono ?_;rintro e w3 ⟨a5,n5,c5,rfl,bt,ee⟩;have aw:=KBT cg ee)))
    all_goals
     have dg:RecL w w3 W0.heap.size (.slice a5 n5 c5) B:=bt.mono (by have:=hb2.size;have:W1.drew.heap.size=W1.heap.size:=rfl;omega)
     clear bt
     go_wp2_with fail
     go_meet
    all_goals exact⟨a5,n5,c5,rfl,rfl,dg,aw⟩
   case rest=>
    obtain⟨a5,n5,c5,rfl,rfl,bt,aw⟩:=hcut
    have bn:Below W0.heap.size W0 wc:=KBT (KBT hb hb1) aw
    by_cases hE:E=0
    ·have dz:(E != 0)=false:=by simp[hE]
     have bk:Hid (A3w (fun t x=>A3k g d (B0i g t) x) m.fields (acc++B) ((BO.vals b).drop (k+1))=q):=by
      show _=_;rw[←HK.out,dm.out,if_neg (by simp[hE])]
     have hr3:RecL w wc W0.heap.size (.slice ao no co) acc:=(hr.below hb1).below aw
     obtain⟨l',k1,k2,k3⟩:=hr3
     obtain⟨m',j1,j2,j3⟩:=bt
     obtain⟨q1,q2,q3⟩:=C8w j1
     have ey:l'.length≤k*1048576:=by rw[←List.length_map (f:=Prod.fst),k2];exact ba
     have hl2:m'.length≤1048576:=by rw[←List.length_map (f:=Prod.fst),j2];exact bu
     clear hE hr
     go_wp2_with (at_builtin;refine A1n (by rfl) ekR _ _ (by rfl) W0.heap.size (.slice ao no co) l' m' (by rfl) k1 a5 n5 c5 (by rfl) q1 q2 q3 (by decide) ?d2 bn.size ?_)
     case d2=>
      rw[show ekR.bytes=48 from rfl]
      have h1:k*1048576≤1048576*1048576:=Nat.mul_le_mul_right _ (by omega)
      omega
     intro v' w6 aj bg
     obtain⟨a6,n6,c6,rfl,_⟩:=aj.shape'
     have cj:Below W0.heap.size W0 w6:=bn.grown bg bn.size (fun k hk=>(k1.own k hk).1)
     have br:RecL w w6 W0.heap.size (.slice a6 n6 c6) (acc++B):=RecL.app (o:=none) k1 k2 k3 j2 j3 aj bg rfl
     have d9:(acc++B).length≤(k+1)*1048576:=by
      rw[List.length_append,Nat.succ_mul]
      have:B.length≤1048576:=bu
      omega
     clear aj k1 k3 j1 j3
     go_wp2_with fail
     go_roundg (n0 - (k+1))
     case measure=>omega
     case rel=>exact⟨k+1,a6,n6,c6,_,by omega,by go_num,rfl,br,d9,bk,cj⟩
    ·have dz:(E != 0)=true:=by simpa using hE
     have HF:Hid (R=([],E)):=by
      show _=_
      have e:q=([],E):=by rw[←HK.out,dm.out,if_pos hE]
      rw[dl.out,e,if_pos hE]
     clear hE
     go_wp2
     go_ret2
     exact⟨none,0,0,by rw[HF.out];rfl,by rw[HF.out];exact Row.nil _ _ _,KBT hb0 bn⟩
  ·have bk:Hid (q=(acc,0)):=by
    show _=_;rw[←HK.out,List.drop_of_length_le (by rw[←H0.out];omega)];rfl
   have HF:Hid (R=A6g [] (acc++b.unk)):=by
    show _=_;rw[dl.out,bk.out,if_neg (by simp)]
   have bc:∀ r∈acc,RSm r:=by have:=bh.1;rw[bk.out] at this;exact this
   obtain⟨g0,g1⟩:=A0s (g:=w.heap.size+1+1) ((hb.block _ (by omega)).trans x3)
   obtain⟨m',j2,j3,q1,q2,q3⟩:=C8u hq.2
   obtain⟨l',k1,k2,k3⟩:=hr
   have ey:l'.length≤1048576*1048576:=by
    rw[←List.length_map (f:=Prod.fst),k2]
    exact Nat.le_trans ba (Nat.mul_le_mul_right _ (by omega))
   have hl2:m'.length*48≤reachBytes:=by rw[←List.length_map (f:=Prod.fst),j2];exact fd
   have fj:∀ ad,a1=some ad→∀ k y,m'[k]?=some y→∀ j u,(ekR.enc y)[j]?=some u→wr.cell? (ad.add (k*ekR.size+j))=some u:=fun ad had k y hy j u hu=>A0c ak (q3 ad had k y hy j u hu)
   clear q3
   go_wp2_with (at_builtin;refine B6a (by rfl) ekR rfl _ _ (by rfl) W0.heap.size (.slice ao no co) l' m' (by rfl) k1 a1 n1 c1 (by rfl) q1 q2 fj ?d1 ?d2 dx ?_)
   case d1=>omega
   case d2=>
    unfold reachBytes at hl2
    omega
   intro v' w6 aj bg
   obtain⟨a6,n6,c6,rfl,_⟩:=aj.shape'
   have cj:Below W0.heap.size W0 w6:=hb.grown bg dx (fun k hk=>(k1.own k hk).1)
   have ah:Below w.heap.size w w6:=KBT hb0 cj
   have br:RecL w w6 W0.heap.size (.slice a6 n6 c6) (acc++b.unk):=RecL.app (o:=none) k1 k2 k3 j2 (fun r hr=>.inl (j3 r hr)) aj bg rfl
   have hby:=B9v (br.rd ah) (fun r hr=>by
    rcases List.mem_append.1 hr with hr|hr
    ·exact bc r hr
    ·have:=fe r hr;exact⟨this.1,by omega⟩)
   rw[←HF.out] at hby
   clear aj k1 k3 j3 br
   go_wp2_with fail
   refine hby.mono ?_
   rintro e w7 ⟨a7,n7,c7,dn,rfl,dw,eh⟩
   obtain⟨E7,di⟩:∃ E7,Hid (R.2=E7):=⟨_,rfl⟩
   rw[di.out]
   obtain⟨W8,bw⟩:∃ W8,Hid (W8=w7.alloc (.cells #[.int .i64 E7,.int .i64 dn] 50)):=⟨_,rfl⟩
   have dt:Below w7.heap.size w7 W8:=by rw[bw.out];exact(Below.refl _ _).alloc (Nat.le_refl _) _
   have x8:W8.heap[w7.heap.size]?=some (.cells #[.int .i64 E7,.int .i64 dn] 50 (0,0)):=by rw[bw.out];exact heap_alloc_new _ _
   obtain⟨p0,p1⟩:=A0s x8
   have cw:Row ekY W8.drew w.heap.size (.slice a7 n7 c7) R.1:=((dw.below dt).mono ah.size).keep fun _ _ _=>rfl
   have ei:Below w.heap.size w W8.drew:=(KBT (KBT ah eh) dt).drew
   clear hby dw
   go_wp2_with fail
   rw[←bw.out]
   go_region
   all_goals
    go_wp2_with fail
    go_ret2
    exact⟨a7,n7,c7,by rw[di.out];rfl,cw,ei⟩
theorem B7j (g:GI):∀ d,A8p g d
 | 0=>fun _ _ _ _ _ _ _ _ _ _ _ _ hq _ _=>hq.elim
 | d+1=>C3s (B7j g d)
open Go.RowKit
set_option linter.unusedVariables false
theorem C0x {fs:List FI}{n:Int}{x:FI}(h:fs.find? (isF n)=some x):A2e fs n=x:=by
 unfold A2e
 rw[show fs.find? (fun f=>decide (f.number=n))=some x from h]
 rfl
theorem C8l {g:GI}{t:List UInt8}{m:MI}(h:g.msgs.find? (isN t)=some m):B0i g t=m:=by
 unfold B0i
 rw[show g.msgs.find? (fun m=>decide (m.name=t))=some m from h]
 rfl
def BVn:(d:Nat)→BI d→Prop
 | 0=>fun _=>True
 | d+1=>fun b=>(BO.vals b).length≤1048576∧∀ v∈BO.vals b,∀ s∈v.subs,BVn d s
theorem B4b {g:GI}(ah:D0m g):∀ (d:Nat) (k:Int) (m:MI) (b:BI d),m∈g.msgs→BVn d b→A4x g d k m.fields b=0→C9h g d m b
 | 0,_,_,b,_,_,_=>nomatch (b:Empty)
 | d+1,k,m,b,hm,hs,h=>by
  obtain⟨_,hr,_⟩:=B2t h
  refine⟨hs.1,fun v hv=>?_⟩
  obtain⟨x,hx⟩:=hr.each v hv
  have ef:=C0x hx.fld
  have aw:=List.mem_of_find?_eq_some hx.fld
  refine⟨⟨x,aw,A5p hx.fld⟩,fun aj kh ba=>?_,fun aj=>?_⟩
  ·rw[ef] at aj kh ba
   have ac:=hx.misc
   have ag:=hx.others
   unfold A1m at ag
   have bc:¬ (x.kind=8∨x.kind=9):=fun h=>kh (by unfold A7a;rcases h with h|h <;> simp[h])
   rw[if_neg bc,if_neg aj] at ag
   have hz:v.bytes.length+v.subs.length=0:=by simpa using ag
   intro e
   unfold A5x A3e at ac
   rw[e] at ac
   simp only[List.length_nil,Bool.or_eq_false_iff,decide_eq_false_iff_not] at ac
   have:=ac.1
   omega
  ·rw[ef] at aj ⊢
   obtain⟨m',ak⟩:=ah m hm x aw aj
   have au:=List.mem_of_find?_eq_some ak
   have e:=C8l (g:=g) (t:=x.type) ak
   refine⟨⟨m',au,by have:=List.find?_some ak;simpa using this⟩,fun s hs'=>?_⟩
   have hz:=hx.subs s hs'
   unfold A2s at hz
   rw[ak] at hz
   show C9h g d (B0i g x.type) s
   rw[e]
   exact B4b ah d (k+1) m' s au (hs.2 v hv s hs') hz
def C9i (g:GI) (d:Nat) (msg:Int) (x:BI (d+1)):List UInt8×Int:=
 if A2x g d msg x≠0 then([],A2x g d msg x)
 else match g.msgs[msg.toNat]? with
  | some m=>A3k g (d+1) m x
  | none=>([],6)
theorem B4m {g:GI}{d:Nat}{msg:Int}{x:BI (d+1)}(h:A2x g d msg x=0):(wrongL g).1=0∧∃ (j:Nat) (m:MI),msg=(j:Int)∧g.msgs[j]?=some m∧A4x g (d+1) 1 m.fields x=0:=by
 unfold A2x at h
 split at h
 ·rename_i h1
  exact absurd h h1
 ·rename_i h1
  split at h
  ·cases h
  ·rename_i h2
   split at h
   ·rename_i m hm
    exact⟨by omega,msg.toNat,m,by omega,hm,h⟩
   ·cases h
theorem B6q:∀ (ns l:List Int),l.Nodup→(∀ a∈l,a∈ns)→l.length≤ns.length
 | [],l,_,h=>by
  cases l with
  | nil=>simp
  | cons a l=>exact absurd (h a (List.mem_cons_self ..)) (by simp)
 | n::ns,l,hn,h=>by
  have h1:=B6q ns (l.erase n) (hn.erase n) fun a ha=>by
   obtain⟨h2,h3⟩:=hn.mem_erase_iff.1 ha
   rcases List.mem_cons.1 (h a h3) with rfl|h4
   ·exact absurd rfl h2
   ·exact h4
  rw[List.length_cons]
  by_cases hm:n∈l
  ·rw[List.length_erase_of_mem hm] at h1
   omega
  ·rw[List.erase_of_not_mem hm] at h1
   omega
theorem C8v {β:Type}{fs:List FI}{f:List UInt8→β→Int}{l:List (VI β)}(h:RtL fs f l):l.length≤fs.length:=by
 have h1:=B6q (fs.map FI.number) (l.map VI.number) (by
  rw[List.Nodup,List.pairwise_map]
  exact h.rise.imp fun hab e=>by omega) fun a ha=>by
   obtain⟨v,hv,rfl⟩:=List.mem_map.1 ha
   obtain⟨x,hx⟩:=h.each v hv
   rw[←A5p hx.fld]
   exact List.mem_map_of_mem (List.mem_of_find?_eq_some hx.fld)
 simpa using h1
theorem C3t {num how:Int}{bits len:Nat}(h:A1i num how bits len=0):len≤4000:=by
 unfold A1i at h
 split at h
 ·cases h
 ·split at h
  ·cases h
  ·rename_i h1
   split at h
   ·cases h
   ·split at h
    ·cases h
    ·split at h
     ·cases h
     ·split at h
      ·cases h
      ·rename_i h2
       by_cases h3:how=2
       ·exact Nat.le_of_not_lt fun h4=>h1 ⟨h3,h4⟩
       ·exact Nat.le_of_not_lt fun h4=>h2 ⟨h3,by omega⟩
theorem B4d {g:GI}(aj:(wrongL g).1=0):∀ (d:Nat) (k:Int) (m:MI) (b:BI d),m∈g.msgs→BOk d b→A4x g d k m.fields b=0→BSw d b∧BVn d b
 | 0,_,_,b,_,_,_=>nomatch (b:Empty)
 | d+1,k,m,b,hm,hok,h=>by
  obtain⟨_,hr,hu⟩:=B2t h
  have hl:=C8v hr
  have au:=(C7r ((B4c aj).2.2 m hm)).1
  have ac:∀ v∈BO.vals b,∀ s∈v.subs,BSw d s∧BVn d s:=fun v hv s hs=>by
   obtain⟨x,hx⟩:=hr.each v hv
   have ag:x.kind=10:=A9r hx.others (fun e=>by rw[e] at hs;cases hs)
   obtain⟨M,hM⟩:=A5v aj m hm x (List.mem_of_find?_eq_some hx.fld) ag
   have hz:=hx.subs s hs
   unfold A2s at hz
   rw[hM] at hz
   exact B4d aj d (k+1) M s (List.mem_of_find?_eq_some hM) ((hok.1 v hv).2.2.2.2.2.1 s hs) hz
  refine⟨⟨fun v hv=>?_,hok.2.2.2,fun r ak=>?_⟩,by omega,fun v hv s hs=>(ac v hv s hs).2⟩
  ·obtain⟨x,hx⟩:=hr.each v hv
   have ah:=hx.misc
   unfold A5x A3e at ah
   simp only[Bool.or_eq_false_iff,decide_eq_false_iff_not] at ah
   have aw:=ah.2.1
   refine⟨by omega,fun n hn=>by have:=(hok.1 v hv).2.1 n hn;omega,by omega,fun z hz=>?_,by omega,fun s hs=>(ac v hv s hs).1⟩
   have:=hx.bytes z hz
   unfold A2g at this
   split at this
   ·cases this
   ·omega
  ·have h1:=hu r ak
   have h2:=hok.2.2.1 r ak
   refine⟨by have:=h2.2.2.1;omega,?_⟩
   unfold B0u at h1
   split at h1
   ·rename_i h3
    have:=C3t h3
    omega
   ·rename_i h3
    exact absurd h1 h3
theorem B7d {g:GI}{d:Nat}{msg:Int}{x:BI (d+1)}(ac:BOk (d+1) x) (h:A2x g d msg x=0):BSw (d+1) x∧BVn (d+1) x:=by
 obtain⟨h1,j,m,_,hm,he⟩:=B4m h
 exact B4d h1 (d+1) 1 m x (List.mem_of_getElem? hm) ac he
theorem B2w {g:GI}{am:Option Addr}{nm cm:Nat}{ae:Option Addr}{ne ce:Nat}{msg:Int}{w:World}(hI:WIn g am nm cm ae ne ce msg w){d:Nat}{a0 a1:Option Addr}{n0 c0 n1 c1:Nat}{x:BI (d+1)}(hq:BRd d w (.slice a0 n0 c0) (.slice a1 n1 c1) x) (aj:BOk (d+1) x) :
  Calls Tryz.prog 8 #[.agg #[.slice am nm cm,.slice ae ne ce],.int .i64 msg,.agg #[.slice a0 n0 c0,.slice a1 n1 c1]] w fun e w'=>∃ ao n c,e = .returned (.tuple #[.slice ao n c,.int .i64 (C9i g d msg x).2])∧Row ekY w' w.heap.size (.slice ao n c) (C9i g d msg x).1∧Below w.heap.size w w':=by
 obtain⟨W2,ag⟩:∃ W2,Hid (W2=(w.alloc (.cells #[.slice am nm cm,.slice ae ne ce] 25)).alloc (.cells #[.slice a0 n0 c0,.slice a1 n1 c1] 29)):=⟨_,rfl⟩
 have hb2:Below w.heap.size w W2:=by rw[ag.out];exact((Below.refl _ _).alloc (Nat.le_refl _) _).alloc (by simp) _
 have z2:w.heap.size+2≤W2.heap.size:=by rw[ag.out];simp
 have x1:W2.heap[w.heap.size]?=some (.cells #[.slice am nm cm,.slice ae ne ce] 25 (0,0)):=by rw[ag.out];exact A0l _ _ _
 have x2:W2.heap[w.heap.size+1]?=some (.cells #[.slice a0 n0 c0,.slice a1 n1 c1] 29 (0,0)):=by rw[ag.out];exact A0i _ _ _
 obtain⟨Q,HQ⟩:∃ Q,Hid (A2x g d msg x=Q):=⟨_,rfl⟩
 have hwr:=(hI.below hb2).wrong (hq.below hb2) aj
 rw[HQ.out] at hwr
 obtain⟨R,HR⟩:∃ R,Hid (C9i g d msg x=R):=⟨_,rfl⟩
 rw[HR.out]
 obtain⟨y0,y1⟩:=A0s x1
 obtain⟨y2,y3⟩:=A0s x2
 have HI:Hid (WIn g am nm cm ae ne ce msg w):=hI
 have bl:Hid (BRd d w (.slice a0 n0 c0) (.slice a1 n1 c1) x):=hq
 have bn:Hid (A2x g d msg x=0→BSw (d+1) x):=fun hz=>(B7d aj hz).1
 have bp:Hid (A2x g d msg x=0→BVn (d+1) x):=fun hz=>(B7d aj hz).2
 clear hI hq aj
 go_enter Tryz.func8,Tryz.ntmps8
 go_upto_region 1 with fail
 rw[←ag.out]
 go_wp2_with fail
 refine hwr.mono ?_
 rintro e w3 ⟨rfl,hb3⟩
 have au:Below w.heap.size w w3:=BTr hb2 hb3
 clear y0 y1 y2 y3 hwr
 by_cases hQ0:Q=0
 ·subst hQ0
  obtain⟨hr,j,M,Hj,hM,bh⟩:=B4m HQ.out
  have HT:Hid (R=A3k g (d+1) M x):=by
   show _=_
   rw[←HR.out,C9i,if_neg (by rw[HQ.out];simp),Hj,Int.toNat_natCast,hM]
  have bq:=HI.out.hg.1.len.1
  have bv:=(List.getElem?_eq_some_iff.1 hM).1
  have ah:=B4b (A5v hr) (d+1) 1 M x (List.mem_of_getElem? hM) (bp.out HQ.out) bh
  subst Hj
  obtain⟨bm,om,rfl,hat⟩:=HI.out.hg.1.get MAt.plain hM
  obtain⟨vf,vb,s0,s1,s2,bc,ba⟩:=hat.at
  obtain⟨af,nf,kf,rfl,_,_⟩:=bc.shape
  obtain⟨ab,nb,kb,rfl,_,_⟩:=ba.shape
  have bw:(j:Int) < (nm:Int):=by omega
  have bu:¬ (j:Int) < 0:=by omega
  have hd:Below W2.heap.size W2 w3.drew:=hb3.drew
  have ac:∀ V,Below W2.heap.size W2 V→V.cell? ⟨w.heap.size,0,none⟩=some (.slice (some ⟨bm,om,none⟩) nm cm)∧V.cell? ⟨w.heap.size,1,none⟩=some (.slice ae ne ce)∧V.cell? ⟨w.heap.size+1,0,none⟩=some (.slice a0 n0 c0)∧V.cell? ⟨w.heap.size+1,1,none⟩=some (.slice a1 n1 c1)∧V.cell? ⟨bm,om+j*3,none⟩=some (.string (S M.name))∧V.cell? ⟨bm,om+j*3+1,none⟩=some (.slice af nf kf)∧V.cell? ⟨bm,om+j*3+2,none⟩=some (.slice ab nb kb):=fun V hV=>by
   have bg:Below w.heap.size w V:=BTr hb2 hV
   obtain⟨e1,e2⟩:=A0s ((hV.block _ (by omega)).trans x1)
   obtain⟨e3,e4⟩:=A0s ((hV.block _ (by omega)).trans x2)
   exact⟨e1,e2,e3,e4,A0c bg s0,A0c bg s1,A0c bg s2⟩
  have hwt:∀ U,Below W2.heap.size W2 U→Calls Tryz.prog 19 #[.agg #[.slice (some ⟨bm,om,none⟩) nm cm,.slice ae ne ce],.agg #[.string (S M.name),.slice af nf kf,.slice ab nb kb],.agg #[.slice a0 n0 c0,.slice a1 n1 c1]] U fun e w'=>∃ ao n c,e = .returned (.tuple #[.slice ao n c,.int .i64 R.2])∧Row ekY w' U.heap.size (.slice ao n c) R.1∧Below U.heap.size U w':=fun U hU=>by
   have ak:Below w.heap.size w U:=BTr hb2 hU
   rw[HT.out]
   exact B7j g (d+1) U _ _ _ _ _ _ M x (HI.out.hg.below ak) (bc.below FAt.stays ak) (ba.below NAt.stays ak) (bl.out.below ak) (bn.out HQ.out) ah
  clear hat s0 s1 s2 bc ba hM bh ah bq bv
  go_upto_region 4 with fail
  refine wp_region_held_drew (S:=fun U=>Below W2.heap.size W2 U) (by kernel_rfl) hd (fun hHeld=>?_)
  refine tK (i:=0) (v:=?vr1) rfl ⟨by rfl,?hyr1⟩ ?_
  case hyr1=>(intro W h;have:=ac W h;go_simp;first|done|with_reducible rfl)
  try simp only[pT,Act.put]
  refine tK (i:=1) (v:=?vr2) rfl ⟨by rfl,?hyr2⟩ ?_
  case hyr2=>(intro W h;have:=ac W h;go_simp;first|done|with_reducible rfl)
  try simp only[pT,Act.put]
  refine tK (i:=2) (v:=?vr3) rfl ⟨by rfl,?hyr3⟩ ?_
  case hyr3=>(intro W h;have:=ac W h;go_simp;first|done|with_reducible rfl)
  try simp only[pT,Act.put]
  refine tK (i:=3) (v:=?vr4) rfl ⟨by rfl,?hyr4⟩ ?_
  case hyr4=>(intro W h;have:=ac W h;go_simp;first|done|with_reducible rfl)
  try simp only[pT,Act.put]
  refine tK (i:=4) (v:=?vr5) rfl ⟨by rfl,?hyr5⟩ ?_
  case hyr5=>(intro W h;have:=ac W h;go_simp;first|done|with_reducible rfl)
  try simp only[pT,Act.put]
  refine tK (i:=5) (v:=?vr6) rfl ⟨by rfl,?hyr6⟩ ?_
  case hyr6=>(intro W h;have:=ac W h;go_simp;first|done|with_reducible rfl)
  try simp only[pT,Act.put]
  refine tK (i:=6) (v:=?vr7) rfl ⟨by rfl,?hyr7⟩ ?_
  case hyr7=>(intro W h;have:=ac W h;go_simp;first|done|with_reducible rfl)
  try simp only[pT,Act.put]
  refine rA (i:=7) rfl fun K hK=>?_
  go_simp
  refine(hwt _ hd).mono ?_
  rintro e w5 ⟨az,nz,cz,rfl,bk,bt⟩
  have br:=BTr hd bt
  refine hK.out _ _ ?_ (fun hHeld=>?_)
  ·(try dsimp only);with_reducible assumption
  clear hK K
  try simp only[pT,Act.put]
  refine tK (i:=8) (v:=?vr8) rfl ⟨by rfl,?hyr8⟩ ?_
  case hyr8=>(intro W h;have:=ac W h;go_simp;first|done|with_reducible rfl)
  try simp only[pT,Act.put]
  refine tK (i:=9) (v:=?vr9) rfl ⟨by rfl,?hyr9⟩ ?_
  case hyr9=>(intro W h;have:=ac W h;go_simp;first|done|with_reducible rfl)
  try simp only[pT,Act.put]
  refine tK (i:=10) (v:=?vr10) rfl ⟨by rfl,?hyr10⟩ ?_
  case hyr10=>(intro W h;have:=ac W h;go_simp;first|done|with_reducible rfl)
  try simp only[pT,Act.put]
  refine tK (i:=11) (v:=?vr11) rfl ⟨by rfl,?hyr11⟩ ?_
  case hyr11=>(intro W h;have:=ac W h;go_simp;first|done|with_reducible rfl)
  try simp only[pT,Act.put]
  refine wpAnyH_done (by kernel_rfl) ?_ _
  have hz3:=hb3.size
  have aw:Row ekY w5 w.heap.size (.slice az nz cz) R.1:=bk.mono (by show w.heap.size≤w3.heap.size;omega)
  clear bk
  go_wp2
  go_ret2
  exact⟨az,nz,cz,rfl,aw,BTr hb2 br⟩
 ·have HT:Hid (R=([],Q)):=by show _=_;rw[←HR.out,C9i,if_pos (by rw[HQ.out];exact hQ0),HQ.out]
  have ez:(Q != 0)=true:=by simpa using hQ0
  go_wp2
  go_ret2
  exact⟨none,0,0,by rw[HT.out];rfl,by rw[HT.out];exact Row.nil _ _ _,au⟩
open Go.RowKit
theorem A6u {w:World}{ao:Option Addr}{len cap:Nat}{l:List UInt8}(h:RdL 1 YAt w (.slice ao len cap) l):(convert 32 9 (.slice ao len cap)).run Tryz.prog w = .ok (.string ⟨l.toArray⟩) w:=by
 obtain⟨ac,n',cap',e,h1,h2,h3,h4,h5⟩:=h
 cases e
 cases ao with
 | none=>
  have hc0:=(h4 rfl).1
  have hm:l = []:=List.eq_nil_of_length_eq_zero (by omega)
  subst hm
  rw[run_convert_bytes_nil w 32 5 Tryz.underlying32 Tryz.underlying5 len cap 9 Tryz.underlying9]
  rfl
 | some x=>
  have hl:(loadCells x len).run Tryz.prog w = .ok ((l.map fun c=>((c.toNat:Nat):Int)).map (Value.int .u8)).toArray w:=by
   have:=run_loadCells_list (P:=Tryz.prog) w x ((l.map fun c=>((c.toNat:Nat):Int)).map (Value.int .u8)) (fun j v hj=>by
    rw[List.getElem?_map,List.getElem?_map] at hj
    cases hc:l[j]? with
    | none=>rw[hc] at hj;cases hj
    | some c=>
     rw[hc] at hj
     have:=h5 x rfl j c hc
     rw[Nat.mul_one] at this
     rw[show w.cell? (x.add j)=_ from this]
     exact hj)
   simpa [h1] using this
  rw[run_convert_bytes_string w 32 9 5 _ len cap Tryz.underlying32 Tryz.underlying5 Tryz.underlying9,run_bytesToString w _ len cap _ hl,foldl_push_bytes]
  have e:∀ l:List UInt8,(l.map fun c=>((c.toNat:Nat):Int)).map (fun n:Int=>UInt8.ofNat n.toNat)=l:=by
   intro l
   rw[List.map_map]
   conv=>rhs;rw[←List.map_id l]
   apply List.map_congr_left
   intro c _
   simp
  rw[e]
  simp[ByteArray.empty,ByteArray.emptyWithCapacity]
  rfl
open Go.RowKit
theorem A6f (B:Nat) (w:World){n:Nat}:Below B w (w.drewN n):=⟨rfl,rfl,rfl,Nat.le_refl _,fun _ _=>rfl⟩
theorem A4q {w:World}{v:Value}{l:List UInt8}(h:RdL 1 YAt w v l) (n:Nat):RdL 1 YAt (w.drewN n) v l:=h
theorem C2m {va vb:Value}{rs:List RI}{w:World}(ha:RdL 4 RAt w va rs) (hb:RdL 4 RAt w vb rs) :
  Calls Tryz.prog 29 #[va,vb] w fun e w'=>e = .returned (.bool true)∧Below w.heap.size w w':=by
 obtain⟨ao,n,ca,rfl,Ha,bg⟩:=ha.shape
 obtain⟨bo,n',cb,rfl,Hb,_⟩:=hb.shape
 obtain rfl:n=n':=by rw[Ha.out,Hb.out]
 go_enter Tryz.func29,Tryz.ntmps29
 go_wp2_with fail
 go_loopg [13] n (fun m i wr=>∃ (k d:Nat),k+m=n∧i = .int .i64 (k:Int)∧wr=w.drewN d)
 case atStart=>exact⟨0,0,by omega,rfl,rfl⟩
 case round=>
  obtain⟨k,d,hk,rfl,rfl⟩:=hrel
  by_cases hlt:k < n
  ·obtain⟨r,Hr⟩:∃ r,Hid (rs[k]?=some r):=⟨rs[k]'(by rw[←Ha.out];exact hlt),List.getElem?_eq_getElem (by rw[←Ha.out];exact hlt)⟩
   obtain⟨b,off,rfl,hat⟩:=ha.get RAt.plain Hr.out
   obtain⟨b',off',rfl,hat'⟩:=hb.get RAt.plain Hr.out
   obtain⟨v1,c0,c1,c2,c3,aj⟩:=hat.at
   obtain⟨v2,d0,d1,d2,d3,ac⟩:=hat'.at
   obtain⟨aw,ak,ag,rfl,_,_⟩:=aj.shape
   obtain⟨ba,au,ah,rfl,_,_⟩:=ac.shape
   have s1:∀ n,(convert 32 9 (.slice aw ak ag)).run Tryz.prog (w.drewN n) = .ok (.string ⟨r.bytes.toArray⟩) (w.drewN n):=fun n=>A6u (A4q aj n)
   have s2:∀ n,(convert 32 9 (.slice ba au ah)).run Tryz.prog (w.drewN n) = .ok (.string ⟨r.bytes.toArray⟩) (w.drewN n):=fun n=>A6u (A4q ac n)
   have bc:(k:Int) < (n:Int):=by omega
   clear aj ac ha hb hat hat'
   go_wp2_with fail
   go_quiet (fail)
   go_wp2_with fail
   go_roundg (n - (k+1))
   case measure=>omega
   case rel=>exact⟨k+1,_,by omega,by go_num,rfl⟩
  ·go_wp2
   go_ret
   exact⟨rfl,A6f _ _⟩
end L
end Go.Proofs.YtgaoojpakjjdnaaGreatDoor
