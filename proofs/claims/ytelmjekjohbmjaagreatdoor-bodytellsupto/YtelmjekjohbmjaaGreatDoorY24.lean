import Derived.Test.YtelmjekjohbmjaaGreatDoorY22
import Derived.Deep.CutRange
import Derived.Deep.DeepCutAuto
import Derived.Deep.RegionHeld3
namespace Go.Proofs.YtelmjekjohbmjaaGreatDoor
namespace L
open Go.RowKit
theorem B1a {w:World}{g:Nat}{a0 a1 a2 a3:Value}{t:TypeId}(h:w.heap[g]?=some (.cells #[a0,a1,a2,a3] t (0,0))) :
    w.cell? ⟨g,0,none⟩=some a0∧w.cell? ⟨g,1,none⟩=some a1∧w.cell? ⟨g,2,none⟩=some a2∧w.cell? ⟨g,3,none⟩=some a3:=
  ⟨A0a h 0 _ rfl,A0a h 1 _ rfl,A0a h 2 _ rfl,A0a h 3 _ rfl⟩
def C1a (d:Nat) (w:World) (base:Nat) (fs:List FI) (b:BL (LB d)) (y:VL (LB d)) (x:FI) (e:Ending) (w':World):Prop:=
  ∃ q:PV,e = .returned (.agg #[q.v,b.q1.v])∧(∀ k∈own1 q,k∈own1 b.q0∨w.heap.size≤k)∧Row (ekV (LB d)) w' base q.v (if A0u x (VL.pl (LB.pl d) y) then b.vals.filter (fun a=>!A0m fs x a.number) else(b.vals.filter fun a=>!A0m fs x a.number).take (A0w y.number ((b.vals.filter fun a=>!A0m fs x a.number).map (VL.pl (LB.pl d))))++[y]++(b.vals.filter fun a=>!A0m fs x a.number).drop (A0w y.number ((b.vals.filter fun a=>!A0m fs x a.number).map (VL.pl (LB.pl d)))))∧FrB (own1 b.q0) w w'
set_option maxHeartbeats 4000000 in
set_option maxRecDepth 100000 in
theorem B2p {d:Nat}{w:World}{base:Nat}{fs:List FI}{vf vb nm:Value}{b:BL (LB d)}{y:VL (LB d)}(h:PutIn d w base fs vf b y) (hvb:∃ ao n cap,vb = .slice ao n cap) (hnm:∃ s:List UInt8,nm = .string (S s)){k:Nat}{x:FI}(hk:fs.findIdx? (fun f=>decide (f.number=y.number))=some k) (hx:fs[k]?=some x)
    (hl1:y.bits.length≤140737488355328) (hl2:y.bytes.length≤140737488355328) (hl3:y.subs.length≤140737488355328) (hnu:I64 y.number) :
    Calls Tryz.prog 43 #[.agg #[nm,vf,vb],.agg #[b.q0.v,b.q1.v],.agg #[.int .i64 y.number,y.p1.v,y.p2.v,y.p3.v]] w fun e w'=>C1a d w base fs b y x e w':=by
  obtain⟨af,nf,cf,rfl,Hn,hcap⟩:=h.hf.shape
  obtain⟨ab,nb,cb,rfl⟩:=hvb
  obtain⟨s,rfl⟩:=hnm
  obtain⟨vals,unk,⟨a0,n0,c0⟩,⟨a1,n1,c1⟩⟩:=b
  obtain⟨nu,bi,by',su,⟨a2,n2,c2⟩,⟨a3,n3,c3⟩,⟨a4,n4,c4⟩⟩:=y
  obtain⟨W4,HW4⟩:∃ W4,Hid (W4=(((w.alloc (.cells #[.string (S s),.slice af nf cf,.slice ab nb cb] 48)).alloc (.cells #[.slice a0 n0 c0,.slice a1 n1 c1] 29)).alloc (.cells #[.int .i64 nu,.slice a2 n2 c2,.slice a3 n3 c3,.slice a4 n4 c4] 34)).alloc (.cells #[.slice none 0 0,.slice none 0 0] 29)):=⟨_,rfl⟩
  obtain⟨b1,b2,b3,b4,bz⟩:=B5f w (.cells #[.string (S s),.slice af nf cf,.slice ab nb cb] 48) (.cells #[.slice a0 n0 c0,.slice a1 n1 c1] 29) (.cells #[.int .i64 nu,.slice a2 n2 c2,.slice a3 n3 c3,.slice a4 n4 c4] 34) (.cells #[.slice none 0 0,.slice none 0 0] 29)
  have hb4:Below w.heap.size w W4:=by rw[HW4.out];exact((((Below.refl _ _).alloc (Nat.le_refl _) _).alloc (by simp) _).alloc (by simp;omega) _).alloc (by simp;omega) _
  rw[←HW4.out] at b1 b2 b3 b4 bz
  have bz':=Nat.le_of_eq bz
  have bz'':=Nat.le_of_eq bz.symm
  have hfld:=A4h (h.hf.below FAt.stays hb4) ⟨ab,nb,cb,rfl⟩ ⟨s,rfl⟩ nu
  have e1:A0i (fun f:FI=>decide (f.number=nu)) fs=(k:Int):=by unfold A0i;rw[hk]
  have HX:Hid (fs[k]?=some x):=hx
  have hkn:(k:Int) < (nf:Int):=by have:=(List.getElem?_eq_some_iff.1 hx).1;have:=Hn.out;omega
  have hk0:¬ (k:Int) < 0:=by omega
  rw[e1] at hfld
  unfold PV.v
  clear bz e1 hk hx
  go_enter Tryz.func43,Tryz.ntmps43
  go_wp2_with fail
  rw[←HW4.out]
  refine hfld.mono ?_
  rintro e w1 ⟨rfl,hb1⟩
  have hb01:=BTr hb4 hb1
  have hz1:=hb1.size
  obtain⟨gf,off,rfl,hat⟩:=(h.hf.below FAt.stays hb01).get FAt.plain HX.out
  obtain⟨s0,s1,s2,s3,s4,s5⟩:=hat.at
  obtain⟨t0,t1,t2⟩:=A6o ((hb1.block _ (by omega)).trans b1)
  obtain⟨W5,HW5⟩:∃ W5,Hid (W5=w1.alloc (.cells #[.string (S x.name),.int .i64 x.number,.int .i64 x.kind,.string (S x.type),.bool x.many,.int .i64 x.choice] 53)):=⟨_,rfl⟩
  have hb5:Below w1.heap.size w1 W5:=by rw[HW5.out];exact(Below.refl _ _).alloc (Nat.le_refl _) _
  have x5:W5.heap[w1.heap.size]?=some (.cells #[.string (S x.name),.int .i64 x.number,.int .i64 x.kind,.string (S x.type),.bool x.many,.int .i64 x.choice] 53 (0,0)):=by rw[HW5.out];exact heap_alloc_new _ _
  have z5:w1.heap.size+1≤W5.heap.size:=by rw[HW5.out];simp
  have hb15:=BTr hb1 hb5
  have hb05:=BTr hb4 hb15
  have c1':=(hb15.block _ (by omega)).trans b1
  have c2':=(hb15.block _ (by omega)).trans b2
  have c3':=(hb15.block _ (by omega)).trans b3
  have c4':=(hb15.block _ (by omega)).trans b4
  clear hfld b1 b2 b3 b4
  go_wp2_with fail
  rw[←HW5.out]
  clear s0 s1 s2 s3 s4 s5 t0 t1 t2 hat
  obtain⟨Same,HSame⟩:∃ Same:World→Prop,Hid (∀ V,Same V↔∀ k,w.heap.size≤k→k < W5.heap.size→V.heap[k]?=W5.heap[k]?):=⟨fun V=>∀ k,w.heap.size≤k→k < W5.heap.size→V.heap[k]?=W5.heap[k]?,fun _=>Iff.rfl⟩
  have hM:∀ V,Same V→V.cell? ⟨w.heap.size,0,none⟩=some (.string (S s))∧V.cell? ⟨w.heap.size,1,none⟩=some (.slice (some ⟨gf,off,none⟩) nf cf)∧V.cell? ⟨w.heap.size,2,none⟩=some (.slice ab nb cb):=fun V hV=>A6o (((HSame.out V).1 hV _ (by omega) (by omega)).trans c1')
  have hBk:∀ V,Same V→V.heap[w.heap.size+1]?=some (.cells #[.slice a0 n0 c0,.slice a1 n1 c1] 29 (0,0)):=fun V hV=>((HSame.out V).1 hV _ (by omega) (by omega)).trans c2'
  have hXk:∀ V,Same V→V.cell? ⟨w1.heap.size,0,none⟩=some (.string (S x.name))∧V.cell? ⟨w1.heap.size,1,none⟩=some (.int .i64 x.number)∧V.cell? ⟨w1.heap.size,2,none⟩=some (.int .i64 x.kind)∧V.cell? ⟨w1.heap.size,3,none⟩=some (.string (S x.type))∧V.cell? ⟨w1.heap.size,4,none⟩=some (.bool x.many)∧V.cell? ⟨w1.heap.size,5,none⟩=some (.int .i64 x.choice):=fun V hV=>A9m (((HSame.out V).1 hV _ (by omega) (by omega)).trans x5)
  have hS:∀ V,Same V→(V.cell? ⟨w.heap.size,0,none⟩=some (.string (S s))∧V.cell? ⟨w.heap.size,1,none⟩=some (.slice (some ⟨gf,off,none⟩) nf cf)∧V.cell? ⟨w.heap.size,2,none⟩=some (.slice ab nb cb))∧V.cell? ⟨w1.heap.size,0,none⟩=some (.string (S x.name))∧V.cell? ⟨w1.heap.size,1,none⟩=some (.int .i64 x.number)∧V.cell? ⟨w1.heap.size,2,none⟩=some (.int .i64 x.kind)∧V.cell? ⟨w1.heap.size,3,none⟩=some (.string (S x.type))∧V.cell? ⟨w1.heap.size,4,none⟩=some (.bool x.many)∧V.cell? ⟨w1.heap.size,5,none⟩=some (.int .i64 x.choice):=fun V hV=>⟨hM V hV,hXk V hV⟩
  have far:∀ (V:World) (j:Nat) (z:Value),(V.setCell ⟨w.heap.size+1,0,none⟩ z).cell? ⟨w.heap.size,j,none⟩=V.cell? ⟨w.heap.size,j,none⟩:=fun V j z=>World.cell?_setCell_far V _ _ _ (by simp)
  have far2:∀ (V:World) (j:Nat) (z:Value),(V.setCell ⟨w.heap.size+1,0,none⟩ z).cell? ⟨w1.heap.size,j,none⟩=V.cell? ⟨w1.heap.size,j,none⟩:=fun V j z=>World.cell?_setCell_far V _ _ _ (by simp;omega)
  have hS2:∀ V,Same V→∀ z,((V.setCell ⟨w.heap.size+1,0,none⟩ z).cell? ⟨w.heap.size,0,none⟩=some (.string (S s))∧(V.setCell ⟨w.heap.size+1,0,none⟩ z).cell? ⟨w.heap.size,1,none⟩=some (.slice (some ⟨gf,off,none⟩) nf cf)∧(V.setCell ⟨w.heap.size+1,0,none⟩ z).cell? ⟨w.heap.size,2,none⟩=some (.slice ab nb cb))∧(V.setCell ⟨w.heap.size+1,0,none⟩ z).cell? ⟨w1.heap.size,0,none⟩=some (.string (S x.name))∧(V.setCell ⟨w.heap.size+1,0,none⟩ z).cell? ⟨w1.heap.size,1,none⟩=some (.int .i64 x.number)∧(V.setCell ⟨w.heap.size+1,0,none⟩ z).cell? ⟨w1.heap.size,2,none⟩=some (.int .i64 x.kind)∧(V.setCell ⟨w.heap.size+1,0,none⟩ z).cell? ⟨w1.heap.size,3,none⟩=some (.string (S x.type))∧(V.setCell ⟨w.heap.size+1,0,none⟩ z).cell? ⟨w1.heap.size,4,none⟩=some (.bool x.many)∧(V.setCell ⟨w.heap.size+1,0,none⟩ z).cell? ⟨w1.heap.size,5,none⟩=some (.int .i64 x.choice):=fun V hV z=>by
    simp only[far,far2]
    exact hS V hV
  have hD:Same W5.drew:=(HSame.out _).2 fun _ _ _=>rfl
  have dB:=hBk _ hD
  obtain⟨d0,d1⟩:=A0x dB
  have hou:=B4g (w:=W5.drew) (h.hf.below FAt.stays (BTr hb05 ((Below.refl _ _).drew))) ⟨ab,nb,cb,rfl⟩ ⟨s,rfl⟩ h.fok h.fl x
  unfold vFI at hou
  have q0lt:∀ g,(Value.slice a0 n0 c0).ownBlock=some g→g < w.heap.size:=fun g hg=>(h.hb.r0.own g hg).2
  have hdel:∀ (wO:World) (fn:Nat) (cap0:Array Value) (K:List Nat),Below W5.heap.size W5.drew wO→(∀ (args:Array Value) (w:World),(callFunc fn args).run Tryz.prog w = .ok (.enter fn args) w)→(∀ k∈K,W5.drew.heap.size≤k∧k < wO.heap.size)→PredK fn cap0 K wO (A0m fs x)→Calls Tryz.prog 70 #[.slice a0 n0 c0,.func (.func fn) #[] cap0] wO fun e w'=>∃ (aq:Option Addr) (nq cq:Nat),e = .returned (.slice aq nq cq)∧(Value.slice aq nq cq).ownBlock=(Value.slice a0 n0 c0).ownBlock∧Row (ekV (LB d)) w' base (.slice aq nq cq) (vals.filter fun a=>!A0m fs x a.number)∧FrB (Value.slice a0 n0 c0).ownBlock.toList wO w':=fun wO fn cap0 K hO hent hK hpk=>by
    have hbO:Below w.heap.size w wO:=BTr hb05 (BTr ((Below.refl W5.heap.size W5).drew) hO)
    have hol:OwnL (ekB d) (OT d) wO base ⟨vals,unk,(a0,n0,c0),(a1,n1,c1)⟩:=h.hb.belowT hbO
    refine(B8k (d:=d) (PT.stays d) hol.r0 hol.rdT hent hpk (fun k hk=>(hK k hk).2) (fun k hk e=>?_) h.num).mono fun e w' ⟨⟨aq,nq,cq⟩,r1,r2,r3,r4⟩=>⟨aq,nq,cq,r1,r2,r3,r4⟩
    have:=q0lt k e
    have h2:W5.heap.size≤k:=(hK k hk).1
    omega
  have hsO:∀ V,Below W5.heap.size W5.drew V→Same V:=fun V hV=>(HSame.out V).2 fun k _ h2=>hV.block k h2
  have hsQ:∀ V V',Below W5.heap.size W5.drew V→FrB (Value.slice a0 n0 c0).ownBlock.toList V V'→Same V':=fun V V' hV hF=>(HSame.out V').2 fun k h1 h2=>(hF.blk (Nat.lt_of_lt_of_le h2 hV.size) (fun hm=>by
    have:=q0lt k (by simpa using hm)
    omega)).trans (hV.block k h2)
  clear far far2 hM hXk q0lt hS2
  obtain⟨⟨m0,m1,m2⟩,k0,k1,k2,k3,k4,k5⟩:=hS _ hD
  go_cut [22] from 21 to 27 (fun _ wc=>∃ (wO wQ:World) (aq:Option Addr) (nq cq:Nat),wc=wQ.setCell ⟨w.heap.size+1,0,none⟩ (.slice aq nq cq)∧Below W5.heap.size W5.drew wO∧(Value.slice aq nq cq).ownBlock=(Value.slice a0 n0 c0).ownBlock∧Row (ekV (LB d)) wQ base (.slice aq nq cq) (vals.filter fun a=>!A0m fs x a.number)∧FrB (Value.slice a0 n0 c0).ownBlock.toList wO wQ)
  case first=>
    go_region_with (first|(go_at_call 71;refine hou.mono ?_;rintro e wO ⟨fn,cap0,K,rfl,hent,hK,hpk,hbO⟩;have hO:=hsO _ hbO;have oB:=hBk _ hO;obtain⟨o0,o1⟩:=A0x oB)|(go_at_call 70;refine(hdel wO fn cap0 K hbO hent hK hpk).mono ?_;rintro e wQ ⟨aq,nq,cq,rfl,hqb,hrow,hfq⟩;have hQ:=hsQ _ _ hbO hfq;have qB:=hBk _ hQ;obtain⟨p0,p1⟩:=A0x qB;have p2:=A0b qB 0))
    all_goals
      go_wp2_with fail
      go_meet
    all_goals exact⟨wO,wQ,aq,nq,cq,rfl,hbO,hqb,hrow,hfq⟩
  case rest=>
    obtain⟨wO,wQ,aq,nq,cq,hwc,hbO,hqb,hrow,hfq⟩:=hcut
    have hQ:=hsQ _ _ hbO hfq
    have qB:=hBk _ hQ
    have hzO:=hbO.size
    have hzQ:=hfq.size
    have hz5:W5.drew.heap.size=W5.heap.size:=rfl
    have wB:wc.heap[w.heap.size+1]?=some (.cells #[.slice aq nq cq,.slice a1 n1 c1] 29 (0,0)):=by rw[hwc];exact heap_setCell_same wQ _ 0 _ _ (.slice aq nq cq) qB
    have woth:∀ k,k≠w.heap.size+1→wc.heap[k]?=wQ.heap[k]?:=fun k hk=>by rw[hwc];exact Below.heap_setCell _ _ _ _ hk
    have wV:=(woth (w.heap.size+2) (by omega)).trans (((HSame.out _).1 hQ _ (by omega) (by omega)).trans c3')
    have wR:=(woth (w.heap.size+3) (by omega)).trans (((HSame.out _).1 hQ _ (by omega) (by omega)).trans c4')
    have wX:=(woth w1.heap.size (by omega)).trans (((HSame.out _).1 hQ _ (by omega) (by omega)).trans x5)
    have hb0O:Below w.heap.size w wO:=BTr hb05 (BTr ((Below.refl W5.heap.size W5).drew) hbO)
    have hf1:FrB [w.heap.size+1] wQ wc:=by rw[hwc];exact A1b qB (by decide)
    have hf0:FrB (own1 (a0,n0,c0)) w wQ:=(FrB.of_below hb0O:FrB (own1 (a0,n0,c0)) w wO).trans hfq (fun _ hi=>hi) (fun _ hi=>.inl hi)
    have hfc:FrB (own1 (a0,n0,c0)) w wc:=hf0.trans hf1 (fun _ hi=>hi) (fun i hi=>.inr (by rw[List.mem_singleton] at hi;omega))
    have hyc:=OwnV.fr (OT.fr d) h.hy hfc (fun k hk hm=>(h.apart k hm).2.2 hk)
    have hq0:own1 (aq,nq,cq)=own1 (a0,n0,c0):=by show(Value.slice aq nq cq).ownBlock.toList=(Value.slice a0 n0 c0).ownBlock.toList;rw[hqb]
    have hrowc:Row (ekV (LB d)) wc base (.slice aq nq cq) (vals.filter fun a=>!A0m fs x a.number):=Row.frB (p:=(aq,nq,cq)) hrow hf1 (fun k hk hm=>by
      rw[hq0] at hk
      rw[List.mem_singleton] at hm
      have:=(h.hb.r0.own1 k hk).2
      omega)
    have hwith:=A7s (P:=PT d) (w:=wc) x (VL.pl (LB.pl d) ⟨nu,bi,by',su,(a2,n2,c2),(a3,n3,c3),(a4,n4,c4)⟩) (a1:=a2) (n1:=n2) (c1:=c2) (a2:=a3) (n2:=n3) (c2:=c3) (a3:=a4) (n3:=n4) (c3:=c4) hyc.r1.rdU (hyc.r2.rdZ hyc.r2y) hyc.rdT
      (by have:=hyc.r1.rdU.len.1;have e:n2=bi.length:=by simpa using this
          omega) (by have:=(hyc.r2.rdZ hyc.r2y).len.1;have e:n3=by'.length:=by simpa using this
                     omega) (by have:=hyc.rdT.len.1;have e:n4=su.length:=by simpa using this
                                omega)
    unfold vFI at hwith
    obtain⟨e0,e1,e2,e3,e4,e5⟩:=A9m wX
    obtain⟨v0,v1,v2,v3⟩:=B1a wV
    have lB:=(Array.getElem?_eq_some_iff.1 wB).1
    have lR:=(Array.getElem?_eq_some_iff.1 wR).1
    have lV:=(Array.getElem?_eq_some_iff.1 wV).1
    have hq0lt:∀ k∈own1 (a0,n0,c0),k < w.heap.size:=fun k hk=>(h.hb.r0.own1 k hk).2
    obtain⟨R,HR⟩:∃ R,Hid (R=vals.filter fun a=>!A0m fs x a.number):=⟨_,rfl⟩
    rw[←HR.out] at hrowc
    have HNUM:Hid (∀ a∈R,I64 a.number):=fun a ha=>by rw[HR.out] at ha;exact h.num a (List.mem_filter.1 ha).1
    have HLEN:Hid ((R.length+1)*80≤140737488355328):=(show(R.length+1)*80≤140737488355328 by
      have h1:=h.len
      have h2:R.length≤vals.length:=by rw[HR.out];exact List.length_filter_le _ _
      have h3:(vals.length+1)*80≤140737488355328:=h1
      omega)
    have hbase:=h.base
    have HOWN:Hid (∀ a∈R,OwnV (ekB d) (OT d) wc base a):=fun a ha=>by
      rw[HR.out] at ha
      have ha':=(List.mem_filter.1 ha).1
      exact OwnV.fr (OT.fr d) (h.hb.r0v a ha') hfc (fun k hk hm=>(h.apart k hm).2.1 a ha' hk)
    have HHY:Hid (OwnV (ekB d) (OT d) wc base ⟨nu,bi,by',su,(a2,n2,c2),(a3,n3,c3),(a4,n4,c4)⟩):=hyc
    clear h hou hdel hsO hsQ HSame hS hBk hD dB d0 d1 hrow hwc woth hyc hb4 hb1 hb01 hb5 hb15 hb05 c1' c2' c3' c4' x5 m0 m1 m2 k0 k1 k2 k3 k4 k5 hQ qB hb0O hf1 hf0 hfq hbO
    cases hq:A0u x (VL.pl (LB.pl d) ⟨nu,bi,by',su,(a2,n2,c2),(a3,n3,c3),(a4,n4,c4)⟩) with
    | true=>
      have HQ:Hid (A0u x (VL.pl (LB.pl d) ⟨nu,bi,by',su,(a2,n2,c2),(a3,n3,c3),(a4,n4,c4)⟩)=true):=hq
      rw[hq] at hwith
      clear hq
      go_wp2_with fail
      refine hwith.mono ?_
      rintro e w9 ⟨rfl,hb9⟩
      obtain⟨t0,t1⟩:=A0x ((hb9.block _ lB).trans wB)
      have y4:=(hb9.block _ lR).trans wR
      obtain⟨u0,u1⟩:=A0x y4
      have f0:=A0b y4 0
      have f1:=A0b y4 1
      clear hwith
      go_wp2_with fail
      refine bodyPost_ret (v:=.agg #[.slice aq nq cq,.slice a1 n1 c1]) (by simp[results,Tryz.results43,go_sem, *]) rfl ?_
      have hfe:=fr2 y4 (x0:=.slice aq nq cq) (x1:=.slice a1 n1 c1)
      refine⟨(aq,nq,cq),rfl,fun k hk=>.inl (by rw[hq0] at hk;exact hk),?_,?_⟩
      · rw[HQ.out,if_pos rfl]
        show Row (ekV (LB d)) _ base (PV.v (aq,nq,cq)) (vals.filter fun a=>!A0m fs x a.number)
        rw[←HR.out]
        refine Row.frB (p:=(aq,nq,cq)) (hrowc.below hb9) hfe (fun k hk hm=>?_)
        rw[hq0] at hk
        rw[List.mem_singleton] at hm
        have:=hq0lt k hk
        omega
      · exact(hfc.on hb9).trans hfe (fun _ hi=>hi) (fun i hi=>.inr (by rw[List.mem_singleton] at hi;omega))
    | false=>
      have HQ:Hid (A0u x (VL.pl (LB.pl d) ⟨nu,bi,by',su,(a2,n2,c2),(a3,n3,c3),(a4,n4,c4)⟩)=false):=hq
      rw[hq] at hwith
      clear hq
      go_wp2_with fail
      refine hwith.mono ?_
      rintro e w9 ⟨rfl,hb9⟩
      obtain⟨pl9,HPL⟩:∃ pl9,Hid (pl9=A0w nu (R.map (VL.pl (LB.pl d)))):=⟨_,rfl⟩
      have hple:pl9≤R.length:=by
        rw[HPL.out]
        unfold A0w
        cases hf:(R.map (VL.pl (LB.pl d))).findIdx? (fun v=>decide (nu < v.number)) with
        | none=>simp
        | some i=>
          obtain⟨a,ha,_⟩:=A4z hf
          have:=(List.getElem?_eq_some_iff.1 ha).1
          simp at this
          show i≤_
          omega
      have hfc9:=hfc.on hb9
      have hz9:=hb9.size
      have nB:=(hb9.block _ lB).trans wB
      have nV:=(hb9.block _ lV).trans wV
      have nR:=(hb9.block _ lR).trans wR
      have hrow9:=hrowc.below hb9
      have HOWN9:Hid (∀ a∈R,OwnV (ekB d) (OT d) w9 base a):=fun a ha=>(HOWN.out a ha).belowT hb9
      have hcl9:∀ V,Below w9.heap.size w9 V→(V.cell? ⟨w.heap.size+1,0,none⟩=some (.slice aq nq cq)∧V.cell? ⟨w.heap.size+1,1,none⟩=some (.slice a1 n1 c1))∧V.cell? ⟨w.heap.size+2,0,none⟩=some (.int .i64 nu)∧V.cell? ⟨w.heap.size+2,1,none⟩=some (.slice a2 n2 c2)∧V.cell? ⟨w.heap.size+2,2,none⟩=some (.slice a3 n3 c3)∧V.cell? ⟨w.heap.size+2,3,none⟩=some (.slice a4 n4 c4):=fun V hV=>⟨A0x ((hV.block _ (by omega)).trans nB),B1a ((hV.block _ (by omega)).trans nV)⟩
      have hpl:∀ V,Below w9.heap.size w9 V→Calls Tryz.prog 74 #[.int .i64 nu,.slice aq nq cq] V fun e w'=>e = .returned (.int .i64 (pl9:Int))∧Below V.heap.size V w':=fun V hV=>by
        have ho:OwnL (ekB d) (OT d) V base ⟨R,[],(aq,nq,cq),(none,0,0)⟩:=⟨hrow9.below hV,fun a ha=>(HOWN9.out a ha).belowT hV,Row.nil _ _ _,fun _ hr=>by simp at hr⟩
        have:=B1u (PT.stays d) ho.rdT nu
        rw[←HPL.out] at this
        exact this
      have hins:∀ V vb,Below w9.heap.size w9 V→V.heap[vb]?=some (.cells #[.int .i64 nu,.slice a2 n2 c2,.slice a3 n3 c3,.slice a4 n4 c4] 34 (0,0))→w9.heap.size≤vb→Calls Tryz.prog 73 #[.slice aq nq cq,.int .i64 (pl9:Int),.slice (some ⟨vb,0,none⟩) 1 1] V fun e w'=>∃ (ai:Option Addr) (ni ci:Nat),e = .returned (.slice ai ni ci)∧(∀ k∈own1 (ai,ni,ci),k∈own1 (a0,n0,c0)∨w.heap.size≤k)∧Hid (Row (ekV (LB d)) w' base (.slice ai ni ci) (R.take pl9++[(⟨nu,bi,by',su,(a2,n2,c2),(a3,n3,c3),(a4,n4,c4)⟩:VL (LB d))]++R.drop pl9))∧Hid (FrB (own1 (a0,n0,c0)) w w')∧w'.heap[w.heap.size+1]?=some (.cells #[.slice aq nq cq,.slice a1 n1 c1] 29 (0,0))∧w'.heap[w.heap.size+3]?=some (.cells #[.slice none 0 0,.slice none 0 0] 29 (0,0))∧w'.heap[w.heap.size+2]?=some (.cells #[.int .i64 nu,.slice a2 n2 c2,.slice a3 n3 c3,.slice a4 n4 c4] 34 (0,0)):=fun V vb hV hx hge=>by
        have hzV:=hV.size
        have hown1:(Value.slice aq nq cq).ownBlock.toList=own1 (a0,n0,c0):=hq0
        have hnin:∀ k,w.heap.size≤k→k∉own1 (a0,n0,c0):=fun k hk hm=>by have:=hq0lt k hm;omega
        refine(C0l (a:=(⟨nu,bi,by',su,(a2,n2,c2),(a3,n3,c3),(a4,n4,c4)⟩:VL (LB d))) (hrow9.below hV) rfl hx (fun e=>?_) hple HLEN.out (by omega)).mono fun e w' ⟨⟨ai,ni,ci⟩,h1,h2,h3,h4⟩=>?_
        · exact hnin vb (by omega) (by rw[←hown1,e];simp)
        · rw[hown1] at h4
          refine⟨ai,ni,ci,h1,fun k hk=>?_,h3,(hfc9.on hV).trans h4 (fun _ hi=>hi) (fun _ hi=>.inl hi),(h4.blk (by omega) (hnin _ (by omega))).trans ((hV.block _ (by omega)).trans nB),(h4.blk (by omega) (hnin _ (by omega))).trans ((hV.block _ (by omega)).trans nR),(h4.blk (by omega) (hnin _ (by omega))).trans ((hV.block _ (by omega)).trans nV)⟩
          rcases h2 k (A0q.1 hk) with h5|h5
          · left;rw[←hown1,h5];simp
          · right;omega
      have hD9:Below w9.heap.size w9 w9.drew:=(Below.refl _ _).drew
      have hA9:Below w9.heap.size w9 (w9.drew.alloc (.cells #[.int .i64 nu,.slice a2 n2 c2,.slice a3 n3 c3,.slice a4 n4 c4] 34)):=hD9.alloc (Nat.le_refl _) _
      obtain⟨⟨d0,d1⟩,d2,d3,d4,d5⟩:=hcl9 _ hD9
      clear hwith wB wV wR lB lR lV hrowc hfc hfc9 hrow9 nB nV nR e0 e1 e2 e3 e4 e5 v0 v1 v2 v3 hple
      go_wp2_with fail
      have hB9:Below w9.heap.size w9 (w9.alloc (.cells #[.int .i64 nu,.slice a2 n2 c2,.slice a3 n3 c3,.slice a4 n4 c4] 34)).drew:=((Below.refl _ _).alloc (Nat.le_refl _) _).drew
      have xB9:(w9.alloc (.cells #[.int .i64 nu,.slice a2 n2 c2,.slice a3 n3 c3,.slice a4 n4 c4] 34)).drew.heap[w9.heap.size]?=some (.cells #[.int .i64 nu,.slice a2 n2 c2,.slice a3 n3 c3,.slice a4 n4 c4] 34):=heap_alloc_new w9 _
      have sB9:w9.heap.size < (w9.alloc (.cells #[.int .i64 nu,.slice a2 n2 c2,.slice a3 n3 c3,.slice a4 n4 c4] 34)).drew.heap.size:=by show w9.heap.size < (w9.alloc (.cells #[.int .i64 nu,.slice a2 n2 c2,.slice a3 n3 c3,.slice a4 n4 c4] 34)).heap.size;simp
      obtain⟨⟨g0,g1⟩,g2,g3,g4,g5⟩:=hcl9 _ hB9
      have hvD:=(hcl9 _ hD9).2
      have hvB:=(hcl9 _ hB9).2
      have far9:∀ (V:World) (_:V.heap[w.heap.size+2]?=some (.cells #[.int .i64 nu,.slice a2 n2 c2,.slice a3 n3 c3,.slice a4 n4 c4] 34 (0,0))) (z:Value),(V.setCell ⟨w.heap.size+1,0,none⟩ z).cell? ⟨w.heap.size+2,0,none⟩=some (.int .i64 nu)∧(V.setCell ⟨w.heap.size+1,0,none⟩ z).cell? ⟨w.heap.size+2,1,none⟩=some (.slice a2 n2 c2)∧(V.setCell ⟨w.heap.size+1,0,none⟩ z).cell? ⟨w.heap.size+2,2,none⟩=some (.slice a3 n3 c3)∧(V.setCell ⟨w.heap.size+1,0,none⟩ z).cell? ⟨w.heap.size+2,3,none⟩=some (.slice a4 n4 c4):=fun V hV z=>B1a ((Below.heap_setCell V _ _ _ (show w.heap.size+2≠w.heap.size+1 by omega)).trans hV)
      clear g2 g3 g4 g5 d2 d3 d4 d5
      refine wp_region_held_drew (S:=(fun V=>V.cell? ⟨w.heap.size+2,0,none⟩=some (.int .i64 nu)∧V.cell? ⟨w.heap.size+2,1,none⟩=some (.slice a2 n2 c2)∧V.cell? ⟨w.heap.size+2,2,none⟩=some (.slice a3 n3 c3)∧V.cell? ⟨w.heap.size+2,3,none⟩=some (.slice a4 n4 c4))) (by kernel_rfl) hvD (fun hHeld=>?_)
      refine tK (i:=0) (v:=?v1) rfl (fun _ _ _ h=>h) ⟨by rfl,?hy1⟩ (by assumption) ?_
      case hy1=>(intro W hSw;(try dsimp only at hSw);go_simp;first|done|with_reducible rfl)
      try simp only[Act.put,List.setIfInBounds_toArray]
      refine tK (i:=2) (v:=?v2) rfl (fun _ _ _ h=>h) ⟨by rfl,?hy2⟩ (by assumption) ?_
      case hy2=>(intro W hSw;(try dsimp only at hSw);go_simp;first|done|with_reducible rfl)
      try simp only[Act.put]
      refine tK (i:=3) (v:=?v3) rfl (fun _ _ _ h=>h) ⟨by rfl,?hy3⟩ (by assumption) ?_
      case hy3=>(intro W hSw;(try dsimp only at hSw);go_simp;first|done|with_reducible rfl)
      try simp only[Act.put]
      refine tK (i:=4) (v:=?v4) rfl (fun _ _ _ h=>h) ⟨by rfl,?hy4⟩ (by assumption) ?_
      case hy4=>(intro W hSw;(try dsimp only at hSw);go_simp;first|done|with_reducible rfl)
      try simp only[Act.put]
      refine tK (i:=7) (v:=?v5) rfl (fun _ _ _ h=>h) ⟨by rfl,?hy5⟩ (by assumption) ?_
      case hy5=>(intro W hSw;(try dsimp only at hSw);go_simp;first|done|with_reducible rfl)
      try simp only[Act.put]
      refine wpAnyH_ready (rs:=[1,5,8]) (by kernel_rfl) (by simp) ?_
      refine AllReadyH.cons rfl (fun K hK=>?_) (AllReadyH.cons rfl (fun K hK=>?_) (AllReadyH.cons rfl (fun K hK=>?_) AllReadyH.nil))
      · skip
        go_simp
        refine hK.out _ _ ?_ (fun hHeld=>?_)
        · (try dsimp only);with_reducible first|exact hvD|exact hvB|exact hvP|exact hvPA|exact hvI|exact hvS
        clear hK K
        try simp only[pT,Act.put]
        refine wpAnyH_ready (rs:=[5,8]) (by kernel_rfl) (by simp) ?_
        refine AllReadyH.cons rfl (fun K hK=>?_) (AllReadyH.cons rfl (fun K hK=>?_) AllReadyH.nil)
        · skip
          go_simp
          refine hK.out _ _ ?_ (fun hHeld=>?_)
          · (try dsimp only);with_reducible first|exact hvD|exact hvB|exact hvP|exact hvPA|exact hvI|exact hvS
          clear hK K
          try simp only[pT,Act.put]
          refine wpAnyH_ready (rs:=[6,8]) (by kernel_rfl) (by simp) ?_
          refine AllReadyH.cons rfl (fun K hK=>?_) (AllReadyH.cons rfl (fun K hK=>?_) AllReadyH.nil)
          · skip
            go_simp
            refine(hpl _ ?_).mono ?_;(with_reducible first|exact hD9|exact hB9);rintro e wP ⟨rfl,hbP⟩;have hP:Below w9.heap.size w9 wP:=(by with_reducible first|exact BTr hD9 hbP|exact BTr hB9 hbP);obtain⟨⟨p0,p1⟩,hvP⟩:=hcl9 _ hP;have hPA:=hP.alloc hP.size (.cells #[.int .i64 nu,.slice a2 n2 c2,.slice a3 n3 c3,.slice a4 n4 c4] 34);have hvPA:=(hcl9 _ hPA).2;obtain⟨pa0,pa1⟩:=(hcl9 _ hPA).1;have xPA:=heap_alloc_new wP (.cells #[.int .i64 nu,.slice a2 n2 c2,.slice a3 n3 c3,.slice a4 n4 c4] 34);have hge:=hP.size;try(with_reducible have xPB:=(hbP.block _ sB9).trans xB9)
            refine hK.out _ _ ?_ (fun hHeld=>?_)
            · (try dsimp only);with_reducible first|exact hvD|exact hvB|exact hvP|exact hvPA|exact hvI|exact hvS
            clear hK K
            try simp only[pT,Act.put]
            refine wpAnyH_ready (rs:=[8]) (by kernel_rfl) (by simp) ?_
            refine AllReadyH.cons rfl (fun K hK=>?_) AllReadyH.nil
            go_simp
            refine hK.out _ _ ?_ (fun hHeld=>?_)
            · (try dsimp only);with_reducible first|exact hvD|exact hvB|exact hvP|exact hvPA|exact hvI|exact hvS
            clear hK K
            try simp only[pT,Act.put]
            refine wpAnyH_ready (rs:=[9]) (by kernel_rfl) (by simp) ?_
            refine AllReadyH.cons rfl (fun K hK=>?_) AllReadyH.nil
            go_simp
            refine(hins _ _ ?_ ?_ ?_).mono ?_;(with_reducible first|exact hPA|exact hP);(with_reducible first|exact xPA|exact xPB);(with_reducible first|exact hge|exact Nat.le_refl _);rintro e wI ⟨ai,ni,ci,rfl,hio,hir,hif,iB,iR,iV⟩;obtain⟨j0,j1⟩:=A0x iB;have j2:=A0b iB 0;have hvI:=B1a iV;have hvS:=far9 wI iV (.slice ai ni ci)
            refine hK.out _ _ ?_ (fun hHeld=>?_)
            · (try dsimp only);with_reducible first|exact hvD|exact hvB|exact hvP|exact hvPA|exact hvI|exact hvS
            clear hK K
            try simp only[pT,Act.put]
            refine tK (i:=10) (v:=?v6) rfl (fun _ _ _ h=>h) ⟨by rfl,?hy6⟩ (by assumption) ?_
            case hy6=>(intro W hSw;(try dsimp only at hSw);go_simp;first|done|with_reducible rfl)
            try simp only[Act.put,List.setIfInBounds_toArray]
            refine wpAnyH_ready (rs:=[11]) (by kernel_rfl) (by simp) ?_
            refine AllReadyH.cons rfl (fun K hK=>?_) AllReadyH.nil
            go_simp
            refine hK.out _ _ ?_ (fun hHeld=>?_)
            · (try dsimp only);with_reducible first|exact hvD|exact hvB|exact hvP|exact hvPA|exact hvI|exact hvS
            clear hK K
            try simp only[pT,Act.put]
            refine wpAnyH_done (by kernel_rfl) ?_ _
            obtain⟨r0,r1⟩:=A0x iR
            have q0:=A0b iR 0
            have q1:=A0b iR 1
            clear hpl hins hcl9
            go_wp2_with fail
            refine bodyPost_ret (v:=.agg #[.slice ai ni ci,.slice a1 n1 c1]) (by simp[results,Tryz.results43,go_sem, *]) rfl ?_
            have hf1:FrB [w.heap.size+1] wI (wI.setCell ⟨w.heap.size+1,0,none⟩ (.slice ai ni ci)):=A1b iB (by decide)
            have iR':(wI.setCell ⟨w.heap.size+1,0,none⟩ (.slice ai ni ci)).heap[w.heap.size+3]?=some (.cells #[.slice none 0 0,.slice none 0 0] 29 (0,0)):=(Below.heap_setCell wI _ _ _ (show w.heap.size+3≠w.heap.size+1 by omega)).trans iR
            have hf2:=fr2 iR' (x0:=.slice ai ni ci) (x1:=.slice a1 n1 c1)
            refine⟨(ai,ni,ci),rfl,hio,?_,?_⟩
            · rw[HQ.out,if_neg (by decide)]
              show Row (ekV (LB d)) _ base (PV.v (ai,ni,ci)) ((vals.filter fun a=>!A0m fs x a.number).take (A0w nu ((vals.filter fun a=>!A0m fs x a.number).map (VL.pl (LB.pl d))))++[(⟨nu,bi,by',su,(a2,n2,c2),(a3,n3,c3),(a4,n4,c4)⟩:VL (LB d))]++(vals.filter fun a=>!A0m fs x a.number).drop (A0w nu ((vals.filter fun a=>!A0m fs x a.number).map (VL.pl (LB.pl d)))))
              rw[←HR.out,←HPL.out]
              have hr1:=Row.frB (p:=(ai,ni,ci)) hir.out hf1 (fun k hk hm=>by rw[List.mem_singleton] at hm;subst hm;exact hir.out.ne_blk iB (by show(29:Nat)≠34;decide) (A0q.1 hk))
              exact Row.frB (p:=(ai,ni,ci)) hr1 hf2 (fun k hk hm=>by rw[List.mem_singleton] at hm;subst hm;exact hr1.ne_blk iR' (by show(29:Nat)≠34;decide) (A0q.1 hk))
            · exact(hif.out.trans hf1 (fun _ hi=>hi) (fun i hi=>.inr (by rw[List.mem_singleton] at hi;omega))).trans hf2 (fun _ hi=>hi) (fun i hi=>.inr (by rw[List.mem_singleton] at hi;omega))
          · skip
            go_simp
            refine hK.out _ _ ?_ (fun hHeld=>?_)
            · (try dsimp only);with_reducible first|exact hvD|exact hvB|exact hvP|exact hvPA|exact hvI|exact hvS
            clear hK K
            try simp only[pT,Act.put]
            refine wpAnyH_ready (rs:=[6]) (by kernel_rfl) (by simp) ?_
            refine AllReadyH.cons rfl (fun K hK=>?_) AllReadyH.nil
            go_simp
            refine(hpl _ ?_).mono ?_;(with_reducible first|exact hD9|exact hB9);rintro e wP ⟨rfl,hbP⟩;have hP:Below w9.heap.size w9 wP:=(by with_reducible first|exact BTr hD9 hbP|exact BTr hB9 hbP);obtain⟨⟨p0,p1⟩,hvP⟩:=hcl9 _ hP;have hPA:=hP.alloc hP.size (.cells #[.int .i64 nu,.slice a2 n2 c2,.slice a3 n3 c3,.slice a4 n4 c4] 34);have hvPA:=(hcl9 _ hPA).2;obtain⟨pa0,pa1⟩:=(hcl9 _ hPA).1;have xPA:=heap_alloc_new wP (.cells #[.int .i64 nu,.slice a2 n2 c2,.slice a3 n3 c3,.slice a4 n4 c4] 34);have hge:=hP.size;try(with_reducible have xPB:=(hbP.block _ sB9).trans xB9)
            refine hK.out _ _ ?_ (fun hHeld=>?_)
            · (try dsimp only);with_reducible first|exact hvD|exact hvB|exact hvP|exact hvPA|exact hvI|exact hvS
            clear hK K
            try simp only[pT,Act.put]
            refine wpAnyH_ready (rs:=[9]) (by kernel_rfl) (by simp) ?_
            refine AllReadyH.cons rfl (fun K hK=>?_) AllReadyH.nil
            go_simp
            refine(hins _ _ ?_ ?_ ?_).mono ?_;(with_reducible first|exact hPA|exact hP);(with_reducible first|exact xPA|exact xPB);(with_reducible first|exact hge|exact Nat.le_refl _);rintro e wI ⟨ai,ni,ci,rfl,hio,hir,hif,iB,iR,iV⟩;obtain⟨j0,j1⟩:=A0x iB;have j2:=A0b iB 0;have hvI:=B1a iV;have hvS:=far9 wI iV (.slice ai ni ci)
            refine hK.out _ _ ?_ (fun hHeld=>?_)
            · (try dsimp only);with_reducible first|exact hvD|exact hvB|exact hvP|exact hvPA|exact hvI|exact hvS
            clear hK K
            try simp only[pT,Act.put]
            refine tK (i:=10) (v:=?v7) rfl (fun _ _ _ h=>h) ⟨by rfl,?hy7⟩ (by assumption) ?_
            case hy7=>(intro W hSw;(try dsimp only at hSw);go_simp;first|done|with_reducible rfl)
            try simp only[Act.put,List.setIfInBounds_toArray]
            refine wpAnyH_ready (rs:=[11]) (by kernel_rfl) (by simp) ?_
            refine AllReadyH.cons rfl (fun K hK=>?_) AllReadyH.nil
            go_simp
            refine hK.out _ _ ?_ (fun hHeld=>?_)
            · (try dsimp only);with_reducible first|exact hvD|exact hvB|exact hvP|exact hvPA|exact hvI|exact hvS
            clear hK K
            try simp only[pT,Act.put]
            refine wpAnyH_done (by kernel_rfl) ?_ _
            obtain⟨r0,r1⟩:=A0x iR
            have q0:=A0b iR 0
            have q1:=A0b iR 1
            clear hpl hins hcl9
            go_wp2_with fail
            refine bodyPost_ret (v:=.agg #[.slice ai ni ci,.slice a1 n1 c1]) (by simp[results,Tryz.results43,go_sem, *]) rfl ?_
            have hf1:FrB [w.heap.size+1] wI (wI.setCell ⟨w.heap.size+1,0,none⟩ (.slice ai ni ci)):=A1b iB (by decide)
            have iR':(wI.setCell ⟨w.heap.size+1,0,none⟩ (.slice ai ni ci)).heap[w.heap.size+3]?=some (.cells #[.slice none 0 0,.slice none 0 0] 29 (0,0)):=(Below.heap_setCell wI _ _ _ (show w.heap.size+3≠w.heap.size+1 by omega)).trans iR
            have hf2:=fr2 iR' (x0:=.slice ai ni ci) (x1:=.slice a1 n1 c1)
            refine⟨(ai,ni,ci),rfl,hio,?_,?_⟩
            · rw[HQ.out,if_neg (by decide)]
              show Row (ekV (LB d)) _ base (PV.v (ai,ni,ci)) ((vals.filter fun a=>!A0m fs x a.number).take (A0w nu ((vals.filter fun a=>!A0m fs x a.number).map (VL.pl (LB.pl d))))++[(⟨nu,bi,by',su,(a2,n2,c2),(a3,n3,c3),(a4,n4,c4)⟩:VL (LB d))]++(vals.filter fun a=>!A0m fs x a.number).drop (A0w nu ((vals.filter fun a=>!A0m fs x a.number).map (VL.pl (LB.pl d)))))
              rw[←HR.out,←HPL.out]
              have hr1:=Row.frB (p:=(ai,ni,ci)) hir.out hf1 (fun k hk hm=>by rw[List.mem_singleton] at hm;subst hm;exact hir.out.ne_blk iB (by show(29:Nat)≠34;decide) (A0q.1 hk))
              exact Row.frB (p:=(ai,ni,ci)) hr1 hf2 (fun k hk hm=>by rw[List.mem_singleton] at hm;subst hm;exact hr1.ne_blk iR' (by show(29:Nat)≠34;decide) (A0q.1 hk))
            · exact(hif.out.trans hf1 (fun _ hi=>hi) (fun i hi=>.inr (by rw[List.mem_singleton] at hi;omega))).trans hf2 (fun _ hi=>hi) (fun i hi=>.inr (by rw[List.mem_singleton] at hi;omega))
        · skip
          go_simp
          refine hK.out _ _ ?_ (fun hHeld=>?_)
          · (try dsimp only);with_reducible first|exact hvD|exact hvB|exact hvP|exact hvPA|exact hvI|exact hvS
          clear hK K
          try simp only[pT,Act.put]
          refine wpAnyH_ready (rs:=[5]) (by kernel_rfl) (by simp) ?_
          refine AllReadyH.cons rfl (fun K hK=>?_) AllReadyH.nil
          go_simp
          refine hK.out _ _ ?_ (fun hHeld=>?_)
          · (try dsimp only);with_reducible first|exact hvD|exact hvB|exact hvP|exact hvPA|exact hvI|exact hvS
          clear hK K
          try simp only[pT,Act.put]
          refine wpAnyH_ready (rs:=[6]) (by kernel_rfl) (by simp) ?_
          refine AllReadyH.cons rfl (fun K hK=>?_) AllReadyH.nil
          go_simp
          refine(hpl _ ?_).mono ?_;(with_reducible first|exact hD9|exact hB9);rintro e wP ⟨rfl,hbP⟩;have hP:Below w9.heap.size w9 wP:=(by with_reducible first|exact BTr hD9 hbP|exact BTr hB9 hbP);obtain⟨⟨p0,p1⟩,hvP⟩:=hcl9 _ hP;have hPA:=hP.alloc hP.size (.cells #[.int .i64 nu,.slice a2 n2 c2,.slice a3 n3 c3,.slice a4 n4 c4] 34);have hvPA:=(hcl9 _ hPA).2;obtain⟨pa0,pa1⟩:=(hcl9 _ hPA).1;have xPA:=heap_alloc_new wP (.cells #[.int .i64 nu,.slice a2 n2 c2,.slice a3 n3 c3,.slice a4 n4 c4] 34);have hge:=hP.size;try(with_reducible have xPB:=(hbP.block _ sB9).trans xB9)
          refine hK.out _ _ ?_ (fun hHeld=>?_)
          · (try dsimp only);with_reducible first|exact hvD|exact hvB|exact hvP|exact hvPA|exact hvI|exact hvS
          clear hK K
          try simp only[pT,Act.put]
          refine wpAnyH_ready (rs:=[9]) (by kernel_rfl) (by simp) ?_
          refine AllReadyH.cons rfl (fun K hK=>?_) AllReadyH.nil
          go_simp
          refine(hins _ _ ?_ ?_ ?_).mono ?_;(with_reducible first|exact hPA|exact hP);(with_reducible first|exact xPA|exact xPB);(with_reducible first|exact hge|exact Nat.le_refl _);rintro e wI ⟨ai,ni,ci,rfl,hio,hir,hif,iB,iR,iV⟩;obtain⟨j0,j1⟩:=A0x iB;have j2:=A0b iB 0;have hvI:=B1a iV;have hvS:=far9 wI iV (.slice ai ni ci)
          refine hK.out _ _ ?_ (fun hHeld=>?_)
          · (try dsimp only);with_reducible first|exact hvD|exact hvB|exact hvP|exact hvPA|exact hvI|exact hvS
          clear hK K
          try simp only[pT,Act.put]
          refine tK (i:=10) (v:=?v8) rfl (fun _ _ _ h=>h) ⟨by rfl,?hy8⟩ (by assumption) ?_
          case hy8=>(intro W hSw;(try dsimp only at hSw);go_simp;first|done|with_reducible rfl)
          try simp only[Act.put,List.setIfInBounds_toArray]
          refine wpAnyH_ready (rs:=[11]) (by kernel_rfl) (by simp) ?_
          refine AllReadyH.cons rfl (fun K hK=>?_) AllReadyH.nil
          go_simp
          refine hK.out _ _ ?_ (fun hHeld=>?_)
          · (try dsimp only);with_reducible first|exact hvD|exact hvB|exact hvP|exact hvPA|exact hvI|exact hvS
          clear hK K
          try simp only[pT,Act.put]
          refine wpAnyH_done (by kernel_rfl) ?_ _
          obtain⟨r0,r1⟩:=A0x iR
          have q0:=A0b iR 0
          have q1:=A0b iR 1
          clear hpl hins hcl9
          go_wp2_with fail
          refine bodyPost_ret (v:=.agg #[.slice ai ni ci,.slice a1 n1 c1]) (by simp[results,Tryz.results43,go_sem, *]) rfl ?_
          have hf1:FrB [w.heap.size+1] wI (wI.setCell ⟨w.heap.size+1,0,none⟩ (.slice ai ni ci)):=A1b iB (by decide)
          have iR':(wI.setCell ⟨w.heap.size+1,0,none⟩ (.slice ai ni ci)).heap[w.heap.size+3]?=some (.cells #[.slice none 0 0,.slice none 0 0] 29 (0,0)):=(Below.heap_setCell wI _ _ _ (show w.heap.size+3≠w.heap.size+1 by omega)).trans iR
          have hf2:=fr2 iR' (x0:=.slice ai ni ci) (x1:=.slice a1 n1 c1)
          refine⟨(ai,ni,ci),rfl,hio,?_,?_⟩
          · rw[HQ.out,if_neg (by decide)]
            show Row (ekV (LB d)) _ base (PV.v (ai,ni,ci)) ((vals.filter fun a=>!A0m fs x a.number).take (A0w nu ((vals.filter fun a=>!A0m fs x a.number).map (VL.pl (LB.pl d))))++[(⟨nu,bi,by',su,(a2,n2,c2),(a3,n3,c3),(a4,n4,c4)⟩:VL (LB d))]++(vals.filter fun a=>!A0m fs x a.number).drop (A0w nu ((vals.filter fun a=>!A0m fs x a.number).map (VL.pl (LB.pl d)))))
            rw[←HR.out,←HPL.out]
            have hr1:=Row.frB (p:=(ai,ni,ci)) hir.out hf1 (fun k hk hm=>by rw[List.mem_singleton] at hm;subst hm;exact hir.out.ne_blk iB (by show(29:Nat)≠34;decide) (A0q.1 hk))
            exact Row.frB (p:=(ai,ni,ci)) hr1 hf2 (fun k hk hm=>by rw[List.mem_singleton] at hm;subst hm;exact hr1.ne_blk iR' (by show(29:Nat)≠34;decide) (A0q.1 hk))
          · exact(hif.out.trans hf1 (fun _ hi=>hi) (fun i hi=>.inr (by rw[List.mem_singleton] at hi;omega))).trans hf2 (fun _ hi=>hi) (fun i hi=>.inr (by rw[List.mem_singleton] at hi;omega))
      · skip
        go_simp
        refine hK.out _ _ ?_ (fun hHeld=>?_)
        · (try dsimp only);with_reducible first|exact hvD|exact hvB|exact hvP|exact hvPA|exact hvI|exact hvS
        clear hK K
        try simp only[pT,Act.put]
        refine wpAnyH_ready (rs:=[1,6,8]) (by kernel_rfl) (by simp) ?_
        refine AllReadyH.cons rfl (fun K hK=>?_) (AllReadyH.cons rfl (fun K hK=>?_) (AllReadyH.cons rfl (fun K hK=>?_) AllReadyH.nil))
        · skip
          go_simp
          refine hK.out _ _ ?_ (fun hHeld=>?_)
          · (try dsimp only);with_reducible first|exact hvD|exact hvB|exact hvP|exact hvPA|exact hvI|exact hvS
          clear hK K
          try simp only[pT,Act.put]
          refine wpAnyH_ready (rs:=[6,8]) (by kernel_rfl) (by simp) ?_
          refine AllReadyH.cons rfl (fun K hK=>?_) (AllReadyH.cons rfl (fun K hK=>?_) AllReadyH.nil)
          · skip
            go_simp
            refine(hpl _ ?_).mono ?_;(with_reducible first|exact hD9|exact hB9);rintro e wP ⟨rfl,hbP⟩;have hP:Below w9.heap.size w9 wP:=(by with_reducible first|exact BTr hD9 hbP|exact BTr hB9 hbP);obtain⟨⟨p0,p1⟩,hvP⟩:=hcl9 _ hP;have hPA:=hP.alloc hP.size (.cells #[.int .i64 nu,.slice a2 n2 c2,.slice a3 n3 c3,.slice a4 n4 c4] 34);have hvPA:=(hcl9 _ hPA).2;obtain⟨pa0,pa1⟩:=(hcl9 _ hPA).1;have xPA:=heap_alloc_new wP (.cells #[.int .i64 nu,.slice a2 n2 c2,.slice a3 n3 c3,.slice a4 n4 c4] 34);have hge:=hP.size;try(with_reducible have xPB:=(hbP.block _ sB9).trans xB9)
            refine hK.out _ _ ?_ (fun hHeld=>?_)
            · (try dsimp only);with_reducible first|exact hvD|exact hvB|exact hvP|exact hvPA|exact hvI|exact hvS
            clear hK K
            try simp only[pT,Act.put]
            refine wpAnyH_ready (rs:=[8]) (by kernel_rfl) (by simp) ?_
            refine AllReadyH.cons rfl (fun K hK=>?_) AllReadyH.nil
            go_simp
            refine hK.out _ _ ?_ (fun hHeld=>?_)
            · (try dsimp only);with_reducible first|exact hvD|exact hvB|exact hvP|exact hvPA|exact hvI|exact hvS
            clear hK K
            try simp only[pT,Act.put]
            refine wpAnyH_ready (rs:=[9]) (by kernel_rfl) (by simp) ?_
            refine AllReadyH.cons rfl (fun K hK=>?_) AllReadyH.nil
            go_simp
            refine(hins _ _ ?_ ?_ ?_).mono ?_;(with_reducible first|exact hPA|exact hP);(with_reducible first|exact xPA|exact xPB);(with_reducible first|exact hge|exact Nat.le_refl _);rintro e wI ⟨ai,ni,ci,rfl,hio,hir,hif,iB,iR,iV⟩;obtain⟨j0,j1⟩:=A0x iB;have j2:=A0b iB 0;have hvI:=B1a iV;have hvS:=far9 wI iV (.slice ai ni ci)
            refine hK.out _ _ ?_ (fun hHeld=>?_)
            · (try dsimp only);with_reducible first|exact hvD|exact hvB|exact hvP|exact hvPA|exact hvI|exact hvS
            clear hK K
            try simp only[pT,Act.put]
            refine tK (i:=10) (v:=?v9) rfl (fun _ _ _ h=>h) ⟨by rfl,?hy9⟩ (by assumption) ?_
            case hy9=>(intro W hSw;(try dsimp only at hSw);go_simp;first|done|with_reducible rfl)
            try simp only[Act.put,List.setIfInBounds_toArray]
            refine wpAnyH_ready (rs:=[11]) (by kernel_rfl) (by simp) ?_
            refine AllReadyH.cons rfl (fun K hK=>?_) AllReadyH.nil
            go_simp
            refine hK.out _ _ ?_ (fun hHeld=>?_)
            · (try dsimp only);with_reducible first|exact hvD|exact hvB|exact hvP|exact hvPA|exact hvI|exact hvS
            clear hK K
            try simp only[pT,Act.put]
            refine wpAnyH_done (by kernel_rfl) ?_ _
            obtain⟨r0,r1⟩:=A0x iR
            have q0:=A0b iR 0
            have q1:=A0b iR 1
            clear hpl hins hcl9
            go_wp2_with fail
            refine bodyPost_ret (v:=.agg #[.slice ai ni ci,.slice a1 n1 c1]) (by simp[results,Tryz.results43,go_sem, *]) rfl ?_
            have hf1:FrB [w.heap.size+1] wI (wI.setCell ⟨w.heap.size+1,0,none⟩ (.slice ai ni ci)):=A1b iB (by decide)
            have iR':(wI.setCell ⟨w.heap.size+1,0,none⟩ (.slice ai ni ci)).heap[w.heap.size+3]?=some (.cells #[.slice none 0 0,.slice none 0 0] 29 (0,0)):=(Below.heap_setCell wI _ _ _ (show w.heap.size+3≠w.heap.size+1 by omega)).trans iR
            have hf2:=fr2 iR' (x0:=.slice ai ni ci) (x1:=.slice a1 n1 c1)
            refine⟨(ai,ni,ci),rfl,hio,?_,?_⟩
            · rw[HQ.out,if_neg (by decide)]
              show Row (ekV (LB d)) _ base (PV.v (ai,ni,ci)) ((vals.filter fun a=>!A0m fs x a.number).take (A0w nu ((vals.filter fun a=>!A0m fs x a.number).map (VL.pl (LB.pl d))))++[(⟨nu,bi,by',su,(a2,n2,c2),(a3,n3,c3),(a4,n4,c4)⟩:VL (LB d))]++(vals.filter fun a=>!A0m fs x a.number).drop (A0w nu ((vals.filter fun a=>!A0m fs x a.number).map (VL.pl (LB.pl d)))))
              rw[←HR.out,←HPL.out]
              have hr1:=Row.frB (p:=(ai,ni,ci)) hir.out hf1 (fun k hk hm=>by rw[List.mem_singleton] at hm;subst hm;exact hir.out.ne_blk iB (by show(29:Nat)≠34;decide) (A0q.1 hk))
              exact Row.frB (p:=(ai,ni,ci)) hr1 hf2 (fun k hk hm=>by rw[List.mem_singleton] at hm;subst hm;exact hr1.ne_blk iR' (by show(29:Nat)≠34;decide) (A0q.1 hk))
            · exact(hif.out.trans hf1 (fun _ hi=>hi) (fun i hi=>.inr (by rw[List.mem_singleton] at hi;omega))).trans hf2 (fun _ hi=>hi) (fun i hi=>.inr (by rw[List.mem_singleton] at hi;omega))
          · skip
            go_simp
            refine hK.out _ _ ?_ (fun hHeld=>?_)
            · (try dsimp only);with_reducible first|exact hvD|exact hvB|exact hvP|exact hvPA|exact hvI|exact hvS
            clear hK K
            try simp only[pT,Act.put]
            refine wpAnyH_ready (rs:=[6]) (by kernel_rfl) (by simp) ?_
            refine AllReadyH.cons rfl (fun K hK=>?_) AllReadyH.nil
            go_simp
            refine(hpl _ ?_).mono ?_;(with_reducible first|exact hD9|exact hB9);rintro e wP ⟨rfl,hbP⟩;have hP:Below w9.heap.size w9 wP:=(by with_reducible first|exact BTr hD9 hbP|exact BTr hB9 hbP);obtain⟨⟨p0,p1⟩,hvP⟩:=hcl9 _ hP;have hPA:=hP.alloc hP.size (.cells #[.int .i64 nu,.slice a2 n2 c2,.slice a3 n3 c3,.slice a4 n4 c4] 34);have hvPA:=(hcl9 _ hPA).2;obtain⟨pa0,pa1⟩:=(hcl9 _ hPA).1;have xPA:=heap_alloc_new wP (.cells #[.int .i64 nu,.slice a2 n2 c2,.slice a3 n3 c3,.slice a4 n4 c4] 34);have hge:=hP.size;try(with_reducible have xPB:=(hbP.block _ sB9).trans xB9)
            refine hK.out _ _ ?_ (fun hHeld=>?_)
            · (try dsimp only);with_reducible first|exact hvD|exact hvB|exact hvP|exact hvPA|exact hvI|exact hvS
            clear hK K
            try simp only[pT,Act.put]
            refine wpAnyH_ready (rs:=[9]) (by kernel_rfl) (by simp) ?_
            refine AllReadyH.cons rfl (fun K hK=>?_) AllReadyH.nil
            go_simp
            refine(hins _ _ ?_ ?_ ?_).mono ?_;(with_reducible first|exact hPA|exact hP);(with_reducible first|exact xPA|exact xPB);(with_reducible first|exact hge|exact Nat.le_refl _);rintro e wI ⟨ai,ni,ci,rfl,hio,hir,hif,iB,iR,iV⟩;obtain⟨j0,j1⟩:=A0x iB;have j2:=A0b iB 0;have hvI:=B1a iV;have hvS:=far9 wI iV (.slice ai ni ci)
            refine hK.out _ _ ?_ (fun hHeld=>?_)
            · (try dsimp only);with_reducible first|exact hvD|exact hvB|exact hvP|exact hvPA|exact hvI|exact hvS
            clear hK K
            try simp only[pT,Act.put]
            refine tK (i:=10) (v:=?v10) rfl (fun _ _ _ h=>h) ⟨by rfl,?hy10⟩ (by assumption) ?_
            case hy10=>(intro W hSw;(try dsimp only at hSw);go_simp;first|done|with_reducible rfl)
            try simp only[Act.put,List.setIfInBounds_toArray]
            refine wpAnyH_ready (rs:=[11]) (by kernel_rfl) (by simp) ?_
            refine AllReadyH.cons rfl (fun K hK=>?_) AllReadyH.nil
            go_simp
            refine hK.out _ _ ?_ (fun hHeld=>?_)
            · (try dsimp only);with_reducible first|exact hvD|exact hvB|exact hvP|exact hvPA|exact hvI|exact hvS
            clear hK K
            try simp only[pT,Act.put]
            refine wpAnyH_done (by kernel_rfl) ?_ _
            obtain⟨r0,r1⟩:=A0x iR
            have q0:=A0b iR 0
            have q1:=A0b iR 1
            clear hpl hins hcl9
            go_wp2_with fail
            refine bodyPost_ret (v:=.agg #[.slice ai ni ci,.slice a1 n1 c1]) (by simp[results,Tryz.results43,go_sem, *]) rfl ?_
            have hf1:FrB [w.heap.size+1] wI (wI.setCell ⟨w.heap.size+1,0,none⟩ (.slice ai ni ci)):=A1b iB (by decide)
            have iR':(wI.setCell ⟨w.heap.size+1,0,none⟩ (.slice ai ni ci)).heap[w.heap.size+3]?=some (.cells #[.slice none 0 0,.slice none 0 0] 29 (0,0)):=(Below.heap_setCell wI _ _ _ (show w.heap.size+3≠w.heap.size+1 by omega)).trans iR
            have hf2:=fr2 iR' (x0:=.slice ai ni ci) (x1:=.slice a1 n1 c1)
            refine⟨(ai,ni,ci),rfl,hio,?_,?_⟩
            · rw[HQ.out,if_neg (by decide)]
              show Row (ekV (LB d)) _ base (PV.v (ai,ni,ci)) ((vals.filter fun a=>!A0m fs x a.number).take (A0w nu ((vals.filter fun a=>!A0m fs x a.number).map (VL.pl (LB.pl d))))++[(⟨nu,bi,by',su,(a2,n2,c2),(a3,n3,c3),(a4,n4,c4)⟩:VL (LB d))]++(vals.filter fun a=>!A0m fs x a.number).drop (A0w nu ((vals.filter fun a=>!A0m fs x a.number).map (VL.pl (LB.pl d)))))
              rw[←HR.out,←HPL.out]
              have hr1:=Row.frB (p:=(ai,ni,ci)) hir.out hf1 (fun k hk hm=>by rw[List.mem_singleton] at hm;subst hm;exact hir.out.ne_blk iB (by show(29:Nat)≠34;decide) (A0q.1 hk))
              exact Row.frB (p:=(ai,ni,ci)) hr1 hf2 (fun k hk hm=>by rw[List.mem_singleton] at hm;subst hm;exact hr1.ne_blk iR' (by show(29:Nat)≠34;decide) (A0q.1 hk))
            · exact(hif.out.trans hf1 (fun _ hi=>hi) (fun i hi=>.inr (by rw[List.mem_singleton] at hi;omega))).trans hf2 (fun _ hi=>hi) (fun i hi=>.inr (by rw[List.mem_singleton] at hi;omega))
        · skip
          go_simp
          refine(hpl _ ?_).mono ?_;(with_reducible first|exact hD9|exact hB9);rintro e wP ⟨rfl,hbP⟩;have hP:Below w9.heap.size w9 wP:=(by with_reducible first|exact BTr hD9 hbP|exact BTr hB9 hbP);obtain⟨⟨p0,p1⟩,hvP⟩:=hcl9 _ hP;have hPA:=hP.alloc hP.size (.cells #[.int .i64 nu,.slice a2 n2 c2,.slice a3 n3 c3,.slice a4 n4 c4] 34);have hvPA:=(hcl9 _ hPA).2;obtain⟨pa0,pa1⟩:=(hcl9 _ hPA).1;have xPA:=heap_alloc_new wP (.cells #[.int .i64 nu,.slice a2 n2 c2,.slice a3 n3 c3,.slice a4 n4 c4] 34);have hge:=hP.size;try(with_reducible have xPB:=(hbP.block _ sB9).trans xB9)
          refine hK.out _ _ ?_ (fun hHeld=>?_)
          · (try dsimp only);with_reducible first|exact hvD|exact hvB|exact hvP|exact hvPA|exact hvI|exact hvS
          clear hK K
          try simp only[pT,Act.put]
          refine wpAnyH_ready (rs:=[1,8]) (by kernel_rfl) (by simp) ?_
          refine AllReadyH.cons rfl (fun K hK=>?_) (AllReadyH.cons rfl (fun K hK=>?_) AllReadyH.nil)
          · skip
            go_simp
            refine hK.out _ _ ?_ (fun hHeld=>?_)
            · (try dsimp only);with_reducible first|exact hvD|exact hvB|exact hvP|exact hvPA|exact hvI|exact hvS
            clear hK K
            try simp only[pT,Act.put]
            refine wpAnyH_ready (rs:=[8]) (by kernel_rfl) (by simp) ?_
            refine AllReadyH.cons rfl (fun K hK=>?_) AllReadyH.nil
            go_simp
            refine hK.out _ _ ?_ (fun hHeld=>?_)
            · (try dsimp only);with_reducible first|exact hvD|exact hvB|exact hvP|exact hvPA|exact hvI|exact hvS
            clear hK K
            try simp only[pT,Act.put]
            refine wpAnyH_ready (rs:=[9]) (by kernel_rfl) (by simp) ?_
            refine AllReadyH.cons rfl (fun K hK=>?_) AllReadyH.nil
            go_simp
            refine(hins _ _ ?_ ?_ ?_).mono ?_;(with_reducible first|exact hPA|exact hP);(with_reducible first|exact xPA|exact xPB);(with_reducible first|exact hge|exact Nat.le_refl _);rintro e wI ⟨ai,ni,ci,rfl,hio,hir,hif,iB,iR,iV⟩;obtain⟨j0,j1⟩:=A0x iB;have j2:=A0b iB 0;have hvI:=B1a iV;have hvS:=far9 wI iV (.slice ai ni ci)
            refine hK.out _ _ ?_ (fun hHeld=>?_)
            · (try dsimp only);with_reducible first|exact hvD|exact hvB|exact hvP|exact hvPA|exact hvI|exact hvS
            clear hK K
            try simp only[pT,Act.put]
            refine tK (i:=10) (v:=?v11) rfl (fun _ _ _ h=>h) ⟨by rfl,?hy11⟩ (by assumption) ?_
            case hy11=>(intro W hSw;(try dsimp only at hSw);go_simp;first|done|with_reducible rfl)
            try simp only[Act.put,List.setIfInBounds_toArray]
            refine wpAnyH_ready (rs:=[11]) (by kernel_rfl) (by simp) ?_
            refine AllReadyH.cons rfl (fun K hK=>?_) AllReadyH.nil
            go_simp
            refine hK.out _ _ ?_ (fun hHeld=>?_)
            · (try dsimp only);with_reducible first|exact hvD|exact hvB|exact hvP|exact hvPA|exact hvI|exact hvS
            clear hK K
            try simp only[pT,Act.put]
            refine wpAnyH_done (by kernel_rfl) ?_ _
            obtain⟨r0,r1⟩:=A0x iR
            have q0:=A0b iR 0
            have q1:=A0b iR 1
            clear hpl hins hcl9
            go_wp2_with fail
            refine bodyPost_ret (v:=.agg #[.slice ai ni ci,.slice a1 n1 c1]) (by simp[results,Tryz.results43,go_sem, *]) rfl ?_
            have hf1:FrB [w.heap.size+1] wI (wI.setCell ⟨w.heap.size+1,0,none⟩ (.slice ai ni ci)):=A1b iB (by decide)
            have iR':(wI.setCell ⟨w.heap.size+1,0,none⟩ (.slice ai ni ci)).heap[w.heap.size+3]?=some (.cells #[.slice none 0 0,.slice none 0 0] 29 (0,0)):=(Below.heap_setCell wI _ _ _ (show w.heap.size+3≠w.heap.size+1 by omega)).trans iR
            have hf2:=fr2 iR' (x0:=.slice ai ni ci) (x1:=.slice a1 n1 c1)
            refine⟨(ai,ni,ci),rfl,hio,?_,?_⟩
            · rw[HQ.out,if_neg (by decide)]
              show Row (ekV (LB d)) _ base (PV.v (ai,ni,ci)) ((vals.filter fun a=>!A0m fs x a.number).take (A0w nu ((vals.filter fun a=>!A0m fs x a.number).map (VL.pl (LB.pl d))))++[(⟨nu,bi,by',su,(a2,n2,c2),(a3,n3,c3),(a4,n4,c4)⟩:VL (LB d))]++(vals.filter fun a=>!A0m fs x a.number).drop (A0w nu ((vals.filter fun a=>!A0m fs x a.number).map (VL.pl (LB.pl d)))))
              rw[←HR.out,←HPL.out]
              have hr1:=Row.frB (p:=(ai,ni,ci)) hir.out hf1 (fun k hk hm=>by rw[List.mem_singleton] at hm;subst hm;exact hir.out.ne_blk iB (by show(29:Nat)≠34;decide) (A0q.1 hk))
              exact Row.frB (p:=(ai,ni,ci)) hr1 hf2 (fun k hk hm=>by rw[List.mem_singleton] at hm;subst hm;exact hr1.ne_blk iR' (by show(29:Nat)≠34;decide) (A0q.1 hk))
            · exact(hif.out.trans hf1 (fun _ hi=>hi) (fun i hi=>.inr (by rw[List.mem_singleton] at hi;omega))).trans hf2 (fun _ hi=>hi) (fun i hi=>.inr (by rw[List.mem_singleton] at hi;omega))
          · skip
            go_simp
            refine hK.out _ _ ?_ (fun hHeld=>?_)
            · (try dsimp only);with_reducible first|exact hvD|exact hvB|exact hvP|exact hvPA|exact hvI|exact hvS
            clear hK K
            try simp only[pT,Act.put]
            refine wpAnyH_ready (rs:=[1]) (by kernel_rfl) (by simp) ?_
            refine AllReadyH.cons rfl (fun K hK=>?_) AllReadyH.nil
            go_simp
            refine hK.out _ _ ?_ (fun hHeld=>?_)
            · (try dsimp only);with_reducible first|exact hvD|exact hvB|exact hvP|exact hvPA|exact hvI|exact hvS
            clear hK K
            try simp only[pT,Act.put]
            refine wpAnyH_ready (rs:=[9]) (by kernel_rfl) (by simp) ?_
            refine AllReadyH.cons rfl (fun K hK=>?_) AllReadyH.nil
            go_simp
            refine(hins _ _ ?_ ?_ ?_).mono ?_;(with_reducible first|exact hPA|exact hP);(with_reducible first|exact xPA|exact xPB);(with_reducible first|exact hge|exact Nat.le_refl _);rintro e wI ⟨ai,ni,ci,rfl,hio,hir,hif,iB,iR,iV⟩;obtain⟨j0,j1⟩:=A0x iB;have j2:=A0b iB 0;have hvI:=B1a iV;have hvS:=far9 wI iV (.slice ai ni ci)
            refine hK.out _ _ ?_ (fun hHeld=>?_)
            · (try dsimp only);with_reducible first|exact hvD|exact hvB|exact hvP|exact hvPA|exact hvI|exact hvS
            clear hK K
            try simp only[pT,Act.put]
            refine tK (i:=10) (v:=?v12) rfl (fun _ _ _ h=>h) ⟨by rfl,?hy12⟩ (by assumption) ?_
            case hy12=>(intro W hSw;(try dsimp only at hSw);go_simp;first|done|with_reducible rfl)
            try simp only[Act.put,List.setIfInBounds_toArray]
            refine wpAnyH_ready (rs:=[11]) (by kernel_rfl) (by simp) ?_
            refine AllReadyH.cons rfl (fun K hK=>?_) AllReadyH.nil
            go_simp
            refine hK.out _ _ ?_ (fun hHeld=>?_)
            · (try dsimp only);with_reducible first|exact hvD|exact hvB|exact hvP|exact hvPA|exact hvI|exact hvS
            clear hK K
            try simp only[pT,Act.put]
            refine wpAnyH_done (by kernel_rfl) ?_ _
            obtain⟨r0,r1⟩:=A0x iR
            have q0:=A0b iR 0
            have q1:=A0b iR 1
            clear hpl hins hcl9
            go_wp2_with fail
            refine bodyPost_ret (v:=.agg #[.slice ai ni ci,.slice a1 n1 c1]) (by simp[results,Tryz.results43,go_sem, *]) rfl ?_
            have hf1:FrB [w.heap.size+1] wI (wI.setCell ⟨w.heap.size+1,0,none⟩ (.slice ai ni ci)):=A1b iB (by decide)
            have iR':(wI.setCell ⟨w.heap.size+1,0,none⟩ (.slice ai ni ci)).heap[w.heap.size+3]?=some (.cells #[.slice none 0 0,.slice none 0 0] 29 (0,0)):=(Below.heap_setCell wI _ _ _ (show w.heap.size+3≠w.heap.size+1 by omega)).trans iR
            have hf2:=fr2 iR' (x0:=.slice ai ni ci) (x1:=.slice a1 n1 c1)
            refine⟨(ai,ni,ci),rfl,hio,?_,?_⟩
            · rw[HQ.out,if_neg (by decide)]
              show Row (ekV (LB d)) _ base (PV.v (ai,ni,ci)) ((vals.filter fun a=>!A0m fs x a.number).take (A0w nu ((vals.filter fun a=>!A0m fs x a.number).map (VL.pl (LB.pl d))))++[(⟨nu,bi,by',su,(a2,n2,c2),(a3,n3,c3),(a4,n4,c4)⟩:VL (LB d))]++(vals.filter fun a=>!A0m fs x a.number).drop (A0w nu ((vals.filter fun a=>!A0m fs x a.number).map (VL.pl (LB.pl d)))))
              rw[←HR.out,←HPL.out]
              have hr1:=Row.frB (p:=(ai,ni,ci)) hir.out hf1 (fun k hk hm=>by rw[List.mem_singleton] at hm;subst hm;exact hir.out.ne_blk iB (by show(29:Nat)≠34;decide) (A0q.1 hk))
              exact Row.frB (p:=(ai,ni,ci)) hr1 hf2 (fun k hk hm=>by rw[List.mem_singleton] at hm;subst hm;exact hr1.ne_blk iR' (by show(29:Nat)≠34;decide) (A0q.1 hk))
            · exact(hif.out.trans hf1 (fun _ hi=>hi) (fun i hi=>.inr (by rw[List.mem_singleton] at hi;omega))).trans hf2 (fun _ hi=>hi) (fun i hi=>.inr (by rw[List.mem_singleton] at hi;omega))
        · skip
          go_simp
          refine hK.out _ _ ?_ (fun hHeld=>?_)
          · (try dsimp only);with_reducible first|exact hvD|exact hvB|exact hvP|exact hvPA|exact hvI|exact hvS
          clear hK K
          try simp only[pT,Act.put]
          refine wpAnyH_ready (rs:=[1,6]) (by kernel_rfl) (by simp) ?_
          refine AllReadyH.cons rfl (fun K hK=>?_) (AllReadyH.cons rfl (fun K hK=>?_) AllReadyH.nil)
          · skip
            go_simp
            refine hK.out _ _ ?_ (fun hHeld=>?_)
            · (try dsimp only);with_reducible first|exact hvD|exact hvB|exact hvP|exact hvPA|exact hvI|exact hvS
            clear hK K
            try simp only[pT,Act.put]
            refine wpAnyH_ready (rs:=[6]) (by kernel_rfl) (by simp) ?_
            refine AllReadyH.cons rfl (fun K hK=>?_) AllReadyH.nil
            go_simp
            refine(hpl _ ?_).mono ?_;(with_reducible first|exact hD9|exact hB9);rintro e wP ⟨rfl,hbP⟩;have hP:Below w9.heap.size w9 wP:=(by with_reducible first|exact BTr hD9 hbP|exact BTr hB9 hbP);obtain⟨⟨p0,p1⟩,hvP⟩:=hcl9 _ hP;have hPA:=hP.alloc hP.size (.cells #[.int .i64 nu,.slice a2 n2 c2,.slice a3 n3 c3,.slice a4 n4 c4] 34);have hvPA:=(hcl9 _ hPA).2;obtain⟨pa0,pa1⟩:=(hcl9 _ hPA).1;have xPA:=heap_alloc_new wP (.cells #[.int .i64 nu,.slice a2 n2 c2,.slice a3 n3 c3,.slice a4 n4 c4] 34);have hge:=hP.size;try(with_reducible have xPB:=(hbP.block _ sB9).trans xB9)
            refine hK.out _ _ ?_ (fun hHeld=>?_)
            · (try dsimp only);with_reducible first|exact hvD|exact hvB|exact hvP|exact hvPA|exact hvI|exact hvS
            clear hK K
            try simp only[pT,Act.put]
            refine wpAnyH_ready (rs:=[9]) (by kernel_rfl) (by simp) ?_
            refine AllReadyH.cons rfl (fun K hK=>?_) AllReadyH.nil
            go_simp
            refine(hins _ _ ?_ ?_ ?_).mono ?_;(with_reducible first|exact hPA|exact hP);(with_reducible first|exact xPA|exact xPB);(with_reducible first|exact hge|exact Nat.le_refl _);rintro e wI ⟨ai,ni,ci,rfl,hio,hir,hif,iB,iR,iV⟩;obtain⟨j0,j1⟩:=A0x iB;have j2:=A0b iB 0;have hvI:=B1a iV;have hvS:=far9 wI iV (.slice ai ni ci)
            refine hK.out _ _ ?_ (fun hHeld=>?_)
            · (try dsimp only);with_reducible first|exact hvD|exact hvB|exact hvP|exact hvPA|exact hvI|exact hvS
            clear hK K
            try simp only[pT,Act.put]
            refine tK (i:=10) (v:=?v13) rfl (fun _ _ _ h=>h) ⟨by rfl,?hy13⟩ (by assumption) ?_
            case hy13=>(intro W hSw;(try dsimp only at hSw);go_simp;first|done|with_reducible rfl)
            try simp only[Act.put,List.setIfInBounds_toArray]
            refine wpAnyH_ready (rs:=[11]) (by kernel_rfl) (by simp) ?_
            refine AllReadyH.cons rfl (fun K hK=>?_) AllReadyH.nil
            go_simp
            refine hK.out _ _ ?_ (fun hHeld=>?_)
            · (try dsimp only);with_reducible first|exact hvD|exact hvB|exact hvP|exact hvPA|exact hvI|exact hvS
            clear hK K
            try simp only[pT,Act.put]
            refine wpAnyH_done (by kernel_rfl) ?_ _
            obtain⟨r0,r1⟩:=A0x iR
            have q0:=A0b iR 0
            have q1:=A0b iR 1
            clear hpl hins hcl9
            go_wp2_with fail
            refine bodyPost_ret (v:=.agg #[.slice ai ni ci,.slice a1 n1 c1]) (by simp[results,Tryz.results43,go_sem, *]) rfl ?_
            have hf1:FrB [w.heap.size+1] wI (wI.setCell ⟨w.heap.size+1,0,none⟩ (.slice ai ni ci)):=A1b iB (by decide)
            have iR':(wI.setCell ⟨w.heap.size+1,0,none⟩ (.slice ai ni ci)).heap[w.heap.size+3]?=some (.cells #[.slice none 0 0,.slice none 0 0] 29 (0,0)):=(Below.heap_setCell wI _ _ _ (show w.heap.size+3≠w.heap.size+1 by omega)).trans iR
            have hf2:=fr2 iR' (x0:=.slice ai ni ci) (x1:=.slice a1 n1 c1)
            refine⟨(ai,ni,ci),rfl,hio,?_,?_⟩
            · rw[HQ.out,if_neg (by decide)]
              show Row (ekV (LB d)) _ base (PV.v (ai,ni,ci)) ((vals.filter fun a=>!A0m fs x a.number).take (A0w nu ((vals.filter fun a=>!A0m fs x a.number).map (VL.pl (LB.pl d))))++[(⟨nu,bi,by',su,(a2,n2,c2),(a3,n3,c3),(a4,n4,c4)⟩:VL (LB d))]++(vals.filter fun a=>!A0m fs x a.number).drop (A0w nu ((vals.filter fun a=>!A0m fs x a.number).map (VL.pl (LB.pl d)))))
              rw[←HR.out,←HPL.out]
              have hr1:=Row.frB (p:=(ai,ni,ci)) hir.out hf1 (fun k hk hm=>by rw[List.mem_singleton] at hm;subst hm;exact hir.out.ne_blk iB (by show(29:Nat)≠34;decide) (A0q.1 hk))
              exact Row.frB (p:=(ai,ni,ci)) hr1 hf2 (fun k hk hm=>by rw[List.mem_singleton] at hm;subst hm;exact hr1.ne_blk iR' (by show(29:Nat)≠34;decide) (A0q.1 hk))
            · exact(hif.out.trans hf1 (fun _ hi=>hi) (fun i hi=>.inr (by rw[List.mem_singleton] at hi;omega))).trans hf2 (fun _ hi=>hi) (fun i hi=>.inr (by rw[List.mem_singleton] at hi;omega))
          · skip
            go_simp
            refine(hpl _ ?_).mono ?_;(with_reducible first|exact hD9|exact hB9);rintro e wP ⟨rfl,hbP⟩;have hP:Below w9.heap.size w9 wP:=(by with_reducible first|exact BTr hD9 hbP|exact BTr hB9 hbP);obtain⟨⟨p0,p1⟩,hvP⟩:=hcl9 _ hP;have hPA:=hP.alloc hP.size (.cells #[.int .i64 nu,.slice a2 n2 c2,.slice a3 n3 c3,.slice a4 n4 c4] 34);have hvPA:=(hcl9 _ hPA).2;obtain⟨pa0,pa1⟩:=(hcl9 _ hPA).1;have xPA:=heap_alloc_new wP (.cells #[.int .i64 nu,.slice a2 n2 c2,.slice a3 n3 c3,.slice a4 n4 c4] 34);have hge:=hP.size;try(with_reducible have xPB:=(hbP.block _ sB9).trans xB9)
            refine hK.out _ _ ?_ (fun hHeld=>?_)
            · (try dsimp only);with_reducible first|exact hvD|exact hvB|exact hvP|exact hvPA|exact hvI|exact hvS
            clear hK K
            try simp only[pT,Act.put]
            refine wpAnyH_ready (rs:=[1]) (by kernel_rfl) (by simp) ?_
            refine AllReadyH.cons rfl (fun K hK=>?_) AllReadyH.nil
            go_simp
            refine hK.out _ _ ?_ (fun hHeld=>?_)
            · (try dsimp only);with_reducible first|exact hvD|exact hvB|exact hvP|exact hvPA|exact hvI|exact hvS
            clear hK K
            try simp only[pT,Act.put]
            refine wpAnyH_ready (rs:=[9]) (by kernel_rfl) (by simp) ?_
            refine AllReadyH.cons rfl (fun K hK=>?_) AllReadyH.nil
            go_simp
            refine(hins _ _ ?_ ?_ ?_).mono ?_;(with_reducible first|exact hPA|exact hP);(with_reducible first|exact xPA|exact xPB);(with_reducible first|exact hge|exact Nat.le_refl _);rintro e wI ⟨ai,ni,ci,rfl,hio,hir,hif,iB,iR,iV⟩;obtain⟨j0,j1⟩:=A0x iB;have j2:=A0b iB 0;have hvI:=B1a iV;have hvS:=far9 wI iV (.slice ai ni ci)
            refine hK.out _ _ ?_ (fun hHeld=>?_)
            · (try dsimp only);with_reducible first|exact hvD|exact hvB|exact hvP|exact hvPA|exact hvI|exact hvS
            clear hK K
            try simp only[pT,Act.put]
            refine tK (i:=10) (v:=?v14) rfl (fun _ _ _ h=>h) ⟨by rfl,?hy14⟩ (by assumption) ?_
            case hy14=>(intro W hSw;(try dsimp only at hSw);go_simp;first|done|with_reducible rfl)
            try simp only[Act.put,List.setIfInBounds_toArray]
            refine wpAnyH_ready (rs:=[11]) (by kernel_rfl) (by simp) ?_
            refine AllReadyH.cons rfl (fun K hK=>?_) AllReadyH.nil
            go_simp
            refine hK.out _ _ ?_ (fun hHeld=>?_)
            · (try dsimp only);with_reducible first|exact hvD|exact hvB|exact hvP|exact hvPA|exact hvI|exact hvS
            clear hK K
            try simp only[pT,Act.put]
            refine wpAnyH_done (by kernel_rfl) ?_ _
            obtain⟨r0,r1⟩:=A0x iR
            have q0:=A0b iR 0
            have q1:=A0b iR 1
            clear hpl hins hcl9
            go_wp2_with fail
            refine bodyPost_ret (v:=.agg #[.slice ai ni ci,.slice a1 n1 c1]) (by simp[results,Tryz.results43,go_sem, *]) rfl ?_
            have hf1:FrB [w.heap.size+1] wI (wI.setCell ⟨w.heap.size+1,0,none⟩ (.slice ai ni ci)):=A1b iB (by decide)
            have iR':(wI.setCell ⟨w.heap.size+1,0,none⟩ (.slice ai ni ci)).heap[w.heap.size+3]?=some (.cells #[.slice none 0 0,.slice none 0 0] 29 (0,0)):=(Below.heap_setCell wI _ _ _ (show w.heap.size+3≠w.heap.size+1 by omega)).trans iR
            have hf2:=fr2 iR' (x0:=.slice ai ni ci) (x1:=.slice a1 n1 c1)
            refine⟨(ai,ni,ci),rfl,hio,?_,?_⟩
            · rw[HQ.out,if_neg (by decide)]
              show Row (ekV (LB d)) _ base (PV.v (ai,ni,ci)) ((vals.filter fun a=>!A0m fs x a.number).take (A0w nu ((vals.filter fun a=>!A0m fs x a.number).map (VL.pl (LB.pl d))))++[(⟨nu,bi,by',su,(a2,n2,c2),(a3,n3,c3),(a4,n4,c4)⟩:VL (LB d))]++(vals.filter fun a=>!A0m fs x a.number).drop (A0w nu ((vals.filter fun a=>!A0m fs x a.number).map (VL.pl (LB.pl d)))))
              rw[←HR.out,←HPL.out]
              have hr1:=Row.frB (p:=(ai,ni,ci)) hir.out hf1 (fun k hk hm=>by rw[List.mem_singleton] at hm;subst hm;exact hir.out.ne_blk iB (by show(29:Nat)≠34;decide) (A0q.1 hk))
              exact Row.frB (p:=(ai,ni,ci)) hr1 hf2 (fun k hk hm=>by rw[List.mem_singleton] at hm;subst hm;exact hr1.ne_blk iR' (by show(29:Nat)≠34;decide) (A0q.1 hk))
            · exact(hif.out.trans hf1 (fun _ hi=>hi) (fun i hi=>.inr (by rw[List.mem_singleton] at hi;omega))).trans hf2 (fun _ hi=>hi) (fun i hi=>.inr (by rw[List.mem_singleton] at hi;omega))
      · skip
        go_simp
        refine hK.out _ _ ?_ (fun hHeld=>?_)
        · (try dsimp only);with_reducible first|exact hvD|exact hvB|exact hvP|exact hvPA|exact hvI|exact hvS
        clear hK K
        try simp only[pT,Act.put]
        refine wpAnyH_ready (rs:=[1,5]) (by kernel_rfl) (by simp) ?_
        refine AllReadyH.cons rfl (fun K hK=>?_) (AllReadyH.cons rfl (fun K hK=>?_) AllReadyH.nil)
        · skip
          go_simp
          refine hK.out _ _ ?_ (fun hHeld=>?_)
          · (try dsimp only);with_reducible first|exact hvD|exact hvB|exact hvP|exact hvPA|exact hvI|exact hvS
          clear hK K
          try simp only[pT,Act.put]
          refine wpAnyH_ready (rs:=[5]) (by kernel_rfl) (by simp) ?_
          refine AllReadyH.cons rfl (fun K hK=>?_) AllReadyH.nil
          go_simp
          refine hK.out _ _ ?_ (fun hHeld=>?_)
          · (try dsimp only);with_reducible first|exact hvD|exact hvB|exact hvP|exact hvPA|exact hvI|exact hvS
          clear hK K
          try simp only[pT,Act.put]
          refine wpAnyH_ready (rs:=[6]) (by kernel_rfl) (by simp) ?_
          refine AllReadyH.cons rfl (fun K hK=>?_) AllReadyH.nil
          go_simp
          refine(hpl _ ?_).mono ?_;(with_reducible first|exact hD9|exact hB9);rintro e wP ⟨rfl,hbP⟩;have hP:Below w9.heap.size w9 wP:=(by with_reducible first|exact BTr hD9 hbP|exact BTr hB9 hbP);obtain⟨⟨p0,p1⟩,hvP⟩:=hcl9 _ hP;have hPA:=hP.alloc hP.size (.cells #[.int .i64 nu,.slice a2 n2 c2,.slice a3 n3 c3,.slice a4 n4 c4] 34);have hvPA:=(hcl9 _ hPA).2;obtain⟨pa0,pa1⟩:=(hcl9 _ hPA).1;have xPA:=heap_alloc_new wP (.cells #[.int .i64 nu,.slice a2 n2 c2,.slice a3 n3 c3,.slice a4 n4 c4] 34);have hge:=hP.size;try(with_reducible have xPB:=(hbP.block _ sB9).trans xB9)
          refine hK.out _ _ ?_ (fun hHeld=>?_)
          · (try dsimp only);with_reducible first|exact hvD|exact hvB|exact hvP|exact hvPA|exact hvI|exact hvS
          clear hK K
          try simp only[pT,Act.put]
          refine wpAnyH_ready (rs:=[9]) (by kernel_rfl) (by simp) ?_
          refine AllReadyH.cons rfl (fun K hK=>?_) AllReadyH.nil
          go_simp
          refine(hins _ _ ?_ ?_ ?_).mono ?_;(with_reducible first|exact hPA|exact hP);(with_reducible first|exact xPA|exact xPB);(with_reducible first|exact hge|exact Nat.le_refl _);rintro e wI ⟨ai,ni,ci,rfl,hio,hir,hif,iB,iR,iV⟩;obtain⟨j0,j1⟩:=A0x iB;have j2:=A0b iB 0;have hvI:=B1a iV;have hvS:=far9 wI iV (.slice ai ni ci)
          refine hK.out _ _ ?_ (fun hHeld=>?_)
          · (try dsimp only);with_reducible first|exact hvD|exact hvB|exact hvP|exact hvPA|exact hvI|exact hvS
          clear hK K
          try simp only[pT,Act.put]
          refine tK (i:=10) (v:=?v15) rfl (fun _ _ _ h=>h) ⟨by rfl,?hy15⟩ (by assumption) ?_
          case hy15=>(intro W hSw;(try dsimp only at hSw);go_simp;first|done|with_reducible rfl)
          try simp only[Act.put,List.setIfInBounds_toArray]
          refine wpAnyH_ready (rs:=[11]) (by kernel_rfl) (by simp) ?_
          refine AllReadyH.cons rfl (fun K hK=>?_) AllReadyH.nil
          go_simp
          refine hK.out _ _ ?_ (fun hHeld=>?_)
          · (try dsimp only);with_reducible first|exact hvD|exact hvB|exact hvP|exact hvPA|exact hvI|exact hvS
          clear hK K
          try simp only[pT,Act.put]
          refine wpAnyH_done (by kernel_rfl) ?_ _
          obtain⟨r0,r1⟩:=A0x iR
          have q0:=A0b iR 0
          have q1:=A0b iR 1
          clear hpl hins hcl9
          go_wp2_with fail
          refine bodyPost_ret (v:=.agg #[.slice ai ni ci,.slice a1 n1 c1]) (by simp[results,Tryz.results43,go_sem, *]) rfl ?_
          have hf1:FrB [w.heap.size+1] wI (wI.setCell ⟨w.heap.size+1,0,none⟩ (.slice ai ni ci)):=A1b iB (by decide)
          have iR':(wI.setCell ⟨w.heap.size+1,0,none⟩ (.slice ai ni ci)).heap[w.heap.size+3]?=some (.cells #[.slice none 0 0,.slice none 0 0] 29 (0,0)):=(Below.heap_setCell wI _ _ _ (show w.heap.size+3≠w.heap.size+1 by omega)).trans iR
          have hf2:=fr2 iR' (x0:=.slice ai ni ci) (x1:=.slice a1 n1 c1)
          refine⟨(ai,ni,ci),rfl,hio,?_,?_⟩
          · rw[HQ.out,if_neg (by decide)]
            show Row (ekV (LB d)) _ base (PV.v (ai,ni,ci)) ((vals.filter fun a=>!A0m fs x a.number).take (A0w nu ((vals.filter fun a=>!A0m fs x a.number).map (VL.pl (LB.pl d))))++[(⟨nu,bi,by',su,(a2,n2,c2),(a3,n3,c3),(a4,n4,c4)⟩:VL (LB d))]++(vals.filter fun a=>!A0m fs x a.number).drop (A0w nu ((vals.filter fun a=>!A0m fs x a.number).map (VL.pl (LB.pl d)))))
            rw[←HR.out,←HPL.out]
            have hr1:=Row.frB (p:=(ai,ni,ci)) hir.out hf1 (fun k hk hm=>by rw[List.mem_singleton] at hm;subst hm;exact hir.out.ne_blk iB (by show(29:Nat)≠34;decide) (A0q.1 hk))
            exact Row.frB (p:=(ai,ni,ci)) hr1 hf2 (fun k hk hm=>by rw[List.mem_singleton] at hm;subst hm;exact hr1.ne_blk iR' (by show(29:Nat)≠34;decide) (A0q.1 hk))
          · exact(hif.out.trans hf1 (fun _ hi=>hi) (fun i hi=>.inr (by rw[List.mem_singleton] at hi;omega))).trans hf2 (fun _ hi=>hi) (fun i hi=>.inr (by rw[List.mem_singleton] at hi;omega))
        · skip
          go_simp
          refine hK.out _ _ ?_ (fun hHeld=>?_)
          · (try dsimp only);with_reducible first|exact hvD|exact hvB|exact hvP|exact hvPA|exact hvI|exact hvS
          clear hK K
          try simp only[pT,Act.put]
          refine wpAnyH_ready (rs:=[1,6]) (by kernel_rfl) (by simp) ?_
          refine AllReadyH.cons rfl (fun K hK=>?_) (AllReadyH.cons rfl (fun K hK=>?_) AllReadyH.nil)
          · skip
            go_simp
            refine hK.out _ _ ?_ (fun hHeld=>?_)
            · (try dsimp only);with_reducible first|exact hvD|exact hvB|exact hvP|exact hvPA|exact hvI|exact hvS
            clear hK K
            try simp only[pT,Act.put]
            refine wpAnyH_ready (rs:=[6]) (by kernel_rfl) (by simp) ?_
            refine AllReadyH.cons rfl (fun K hK=>?_) AllReadyH.nil
            go_simp
            refine(hpl _ ?_).mono ?_;(with_reducible first|exact hD9|exact hB9);rintro e wP ⟨rfl,hbP⟩;have hP:Below w9.heap.size w9 wP:=(by with_reducible first|exact BTr hD9 hbP|exact BTr hB9 hbP);obtain⟨⟨p0,p1⟩,hvP⟩:=hcl9 _ hP;have hPA:=hP.alloc hP.size (.cells #[.int .i64 nu,.slice a2 n2 c2,.slice a3 n3 c3,.slice a4 n4 c4] 34);have hvPA:=(hcl9 _ hPA).2;obtain⟨pa0,pa1⟩:=(hcl9 _ hPA).1;have xPA:=heap_alloc_new wP (.cells #[.int .i64 nu,.slice a2 n2 c2,.slice a3 n3 c3,.slice a4 n4 c4] 34);have hge:=hP.size;try(with_reducible have xPB:=(hbP.block _ sB9).trans xB9)
            refine hK.out _ _ ?_ (fun hHeld=>?_)
            · (try dsimp only);with_reducible first|exact hvD|exact hvB|exact hvP|exact hvPA|exact hvI|exact hvS
            clear hK K
            try simp only[pT,Act.put]
            refine wpAnyH_ready (rs:=[9]) (by kernel_rfl) (by simp) ?_
            refine AllReadyH.cons rfl (fun K hK=>?_) AllReadyH.nil
            go_simp
            refine(hins _ _ ?_ ?_ ?_).mono ?_;(with_reducible first|exact hPA|exact hP);(with_reducible first|exact xPA|exact xPB);(with_reducible first|exact hge|exact Nat.le_refl _);rintro e wI ⟨ai,ni,ci,rfl,hio,hir,hif,iB,iR,iV⟩;obtain⟨j0,j1⟩:=A0x iB;have j2:=A0b iB 0;have hvI:=B1a iV;have hvS:=far9 wI iV (.slice ai ni ci)
            refine hK.out _ _ ?_ (fun hHeld=>?_)
            · (try dsimp only);with_reducible first|exact hvD|exact hvB|exact hvP|exact hvPA|exact hvI|exact hvS
            clear hK K
            try simp only[pT,Act.put]
            refine tK (i:=10) (v:=?v16) rfl (fun _ _ _ h=>h) ⟨by rfl,?hy16⟩ (by assumption) ?_
            case hy16=>(intro W hSw;(try dsimp only at hSw);go_simp;first|done|with_reducible rfl)
            try simp only[Act.put,List.setIfInBounds_toArray]
            refine wpAnyH_ready (rs:=[11]) (by kernel_rfl) (by simp) ?_
            refine AllReadyH.cons rfl (fun K hK=>?_) AllReadyH.nil
            go_simp
            refine hK.out _ _ ?_ (fun hHeld=>?_)
            · (try dsimp only);with_reducible first|exact hvD|exact hvB|exact hvP|exact hvPA|exact hvI|exact hvS
            clear hK K
            try simp only[pT,Act.put]
            refine wpAnyH_done (by kernel_rfl) ?_ _
            obtain⟨r0,r1⟩:=A0x iR
            have q0:=A0b iR 0
            have q1:=A0b iR 1
            clear hpl hins hcl9
            go_wp2_with fail
            refine bodyPost_ret (v:=.agg #[.slice ai ni ci,.slice a1 n1 c1]) (by simp[results,Tryz.results43,go_sem, *]) rfl ?_
            have hf1:FrB [w.heap.size+1] wI (wI.setCell ⟨w.heap.size+1,0,none⟩ (.slice ai ni ci)):=A1b iB (by decide)
            have iR':(wI.setCell ⟨w.heap.size+1,0,none⟩ (.slice ai ni ci)).heap[w.heap.size+3]?=some (.cells #[.slice none 0 0,.slice none 0 0] 29 (0,0)):=(Below.heap_setCell wI _ _ _ (show w.heap.size+3≠w.heap.size+1 by omega)).trans iR
            have hf2:=fr2 iR' (x0:=.slice ai ni ci) (x1:=.slice a1 n1 c1)
            refine⟨(ai,ni,ci),rfl,hio,?_,?_⟩
            · rw[HQ.out,if_neg (by decide)]
              show Row (ekV (LB d)) _ base (PV.v (ai,ni,ci)) ((vals.filter fun a=>!A0m fs x a.number).take (A0w nu ((vals.filter fun a=>!A0m fs x a.number).map (VL.pl (LB.pl d))))++[(⟨nu,bi,by',su,(a2,n2,c2),(a3,n3,c3),(a4,n4,c4)⟩:VL (LB d))]++(vals.filter fun a=>!A0m fs x a.number).drop (A0w nu ((vals.filter fun a=>!A0m fs x a.number).map (VL.pl (LB.pl d)))))
              rw[←HR.out,←HPL.out]
              have hr1:=Row.frB (p:=(ai,ni,ci)) hir.out hf1 (fun k hk hm=>by rw[List.mem_singleton] at hm;subst hm;exact hir.out.ne_blk iB (by show(29:Nat)≠34;decide) (A0q.1 hk))
              exact Row.frB (p:=(ai,ni,ci)) hr1 hf2 (fun k hk hm=>by rw[List.mem_singleton] at hm;subst hm;exact hr1.ne_blk iR' (by show(29:Nat)≠34;decide) (A0q.1 hk))
            · exact(hif.out.trans hf1 (fun _ hi=>hi) (fun i hi=>.inr (by rw[List.mem_singleton] at hi;omega))).trans hf2 (fun _ hi=>hi) (fun i hi=>.inr (by rw[List.mem_singleton] at hi;omega))
          · skip
            go_simp
            refine(hpl _ ?_).mono ?_;(with_reducible first|exact hD9|exact hB9);rintro e wP ⟨rfl,hbP⟩;have hP:Below w9.heap.size w9 wP:=(by with_reducible first|exact BTr hD9 hbP|exact BTr hB9 hbP);obtain⟨⟨p0,p1⟩,hvP⟩:=hcl9 _ hP;have hPA:=hP.alloc hP.size (.cells #[.int .i64 nu,.slice a2 n2 c2,.slice a3 n3 c3,.slice a4 n4 c4] 34);have hvPA:=(hcl9 _ hPA).2;obtain⟨pa0,pa1⟩:=(hcl9 _ hPA).1;have xPA:=heap_alloc_new wP (.cells #[.int .i64 nu,.slice a2 n2 c2,.slice a3 n3 c3,.slice a4 n4 c4] 34);have hge:=hP.size;try(with_reducible have xPB:=(hbP.block _ sB9).trans xB9)
            refine hK.out _ _ ?_ (fun hHeld=>?_)
            · (try dsimp only);with_reducible first|exact hvD|exact hvB|exact hvP|exact hvPA|exact hvI|exact hvS
            clear hK K
            try simp only[pT,Act.put]
            refine wpAnyH_ready (rs:=[1]) (by kernel_rfl) (by simp) ?_
            refine AllReadyH.cons rfl (fun K hK=>?_) AllReadyH.nil
            go_simp
            refine hK.out _ _ ?_ (fun hHeld=>?_)
            · (try dsimp only);with_reducible first|exact hvD|exact hvB|exact hvP|exact hvPA|exact hvI|exact hvS
            clear hK K
            try simp only[pT,Act.put]
            refine wpAnyH_ready (rs:=[9]) (by kernel_rfl) (by simp) ?_
            refine AllReadyH.cons rfl (fun K hK=>?_) AllReadyH.nil
            go_simp
            refine(hins _ _ ?_ ?_ ?_).mono ?_;(with_reducible first|exact hPA|exact hP);(with_reducible first|exact xPA|exact xPB);(with_reducible first|exact hge|exact Nat.le_refl _);rintro e wI ⟨ai,ni,ci,rfl,hio,hir,hif,iB,iR,iV⟩;obtain⟨j0,j1⟩:=A0x iB;have j2:=A0b iB 0;have hvI:=B1a iV;have hvS:=far9 wI iV (.slice ai ni ci)
            refine hK.out _ _ ?_ (fun hHeld=>?_)
            · (try dsimp only);with_reducible first|exact hvD|exact hvB|exact hvP|exact hvPA|exact hvI|exact hvS
            clear hK K
            try simp only[pT,Act.put]
            refine tK (i:=10) (v:=?v17) rfl (fun _ _ _ h=>h) ⟨by rfl,?hy17⟩ (by assumption) ?_
            case hy17=>(intro W hSw;(try dsimp only at hSw);go_simp;first|done|with_reducible rfl)
            try simp only[Act.put,List.setIfInBounds_toArray]
            refine wpAnyH_ready (rs:=[11]) (by kernel_rfl) (by simp) ?_
            refine AllReadyH.cons rfl (fun K hK=>?_) AllReadyH.nil
            go_simp
            refine hK.out _ _ ?_ (fun hHeld=>?_)
            · (try dsimp only);with_reducible first|exact hvD|exact hvB|exact hvP|exact hvPA|exact hvI|exact hvS
            clear hK K
            try simp only[pT,Act.put]
            refine wpAnyH_done (by kernel_rfl) ?_ _
            obtain⟨r0,r1⟩:=A0x iR
            have q0:=A0b iR 0
            have q1:=A0b iR 1
            clear hpl hins hcl9
            go_wp2_with fail
            refine bodyPost_ret (v:=.agg #[.slice ai ni ci,.slice a1 n1 c1]) (by simp[results,Tryz.results43,go_sem, *]) rfl ?_
            have hf1:FrB [w.heap.size+1] wI (wI.setCell ⟨w.heap.size+1,0,none⟩ (.slice ai ni ci)):=A1b iB (by decide)
            have iR':(wI.setCell ⟨w.heap.size+1,0,none⟩ (.slice ai ni ci)).heap[w.heap.size+3]?=some (.cells #[.slice none 0 0,.slice none 0 0] 29 (0,0)):=(Below.heap_setCell wI _ _ _ (show w.heap.size+3≠w.heap.size+1 by omega)).trans iR
            have hf2:=fr2 iR' (x0:=.slice ai ni ci) (x1:=.slice a1 n1 c1)
            refine⟨(ai,ni,ci),rfl,hio,?_,?_⟩
            · rw[HQ.out,if_neg (by decide)]
              show Row (ekV (LB d)) _ base (PV.v (ai,ni,ci)) ((vals.filter fun a=>!A0m fs x a.number).take (A0w nu ((vals.filter fun a=>!A0m fs x a.number).map (VL.pl (LB.pl d))))++[(⟨nu,bi,by',su,(a2,n2,c2),(a3,n3,c3),(a4,n4,c4)⟩:VL (LB d))]++(vals.filter fun a=>!A0m fs x a.number).drop (A0w nu ((vals.filter fun a=>!A0m fs x a.number).map (VL.pl (LB.pl d)))))
              rw[←HR.out,←HPL.out]
              have hr1:=Row.frB (p:=(ai,ni,ci)) hir.out hf1 (fun k hk hm=>by rw[List.mem_singleton] at hm;subst hm;exact hir.out.ne_blk iB (by show(29:Nat)≠34;decide) (A0q.1 hk))
              exact Row.frB (p:=(ai,ni,ci)) hr1 hf2 (fun k hk hm=>by rw[List.mem_singleton] at hm;subst hm;exact hr1.ne_blk iR' (by show(29:Nat)≠34;decide) (A0q.1 hk))
            · exact(hif.out.trans hf1 (fun _ hi=>hi) (fun i hi=>.inr (by rw[List.mem_singleton] at hi;omega))).trans hf2 (fun _ hi=>hi) (fun i hi=>.inr (by rw[List.mem_singleton] at hi;omega))
end L
end Go.Proofs.YtelmjekjohbmjaaGreatDoor
