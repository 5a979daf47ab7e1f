import Derived.Test.YtgaoojpakjjdnaaGreatDoorV15
set_option maxHeartbeats 32000000
set_option maxRecDepth 100000
namespace Go.Proofs.YtgaoojpakjjdnaaGreatDoor
namespace L
open Go.RowKit
theorem B9u {w:World}{g:Nat}{a0 a1 a2 a3:Value}{t:TypeId}(h:w.heap[g]?=some (.cells #[a0,a1,a2,a3] t (0,0))) :
    w.cell? ⟨g,0,none⟩=some a0∧w.cell? ⟨g,1,none⟩=some a1∧w.cell? ⟨g,2,none⟩=some a2∧w.cell? ⟨g,3,none⟩=some a3:=
  ⟨A0a h 0 _ rfl,A0a h 1 _ rfl,A0a h 2 _ rfl,A0a h 3 _ rfl⟩
def D7c (d:Nat)(w:World)(base:Nat)(fs:List FI)(b:BL (LB d))(y:VL (LB d))(x:FI)(e:Ending)(w':World):Prop:=
  ∃ q:PV,e = .returned (.agg #[q.v,b.q1.v])∧(∀ k∈own1 q,k∈own1 b.q0∨w.heap.size≤k)∧Row (ekV (LB d)) w' base q.v (if A0p x (VL.pl (LB.pl d) y) then b.vals.filter (fun a=>!A0q fs x a.number) else(b.vals.filter fun a=>!A0q fs x a.number).take (A1h y.number ((b.vals.filter fun a=>!A0q fs x a.number).map (VL.pl (LB.pl d))))++[y]++(b.vals.filter fun a=>!A0q fs x a.number).drop (A1h y.number ((b.vals.filter fun a=>!A0q fs x a.number).map (VL.pl (LB.pl d)))))∧FrB (own1 b.q0) w w'
theorem D3f {d:Nat}{w:World}{base:Nat}{fs:List FI}{vf vb nm:Value}{b:BL (LB d)}{y:VL (LB d)}(h:PutIn d w base fs vf b y)(gz:∃ ao n cap,vb = .slice ao n cap)(gw:∃ s:List UInt8,nm = .string (S s)){k:Nat}{x:FI}(hk:fs.findIdx? (fun f=>decide (f.number=y.number))=some k)(hx:fs[k]?=some x)
    (ii:y.bits.length≤140737488355328) (hl2:y.bytes.length≤140737488355328) (ij:y.subs.length≤140737488355328) (ik:I64 y.number) :
    Calls Tryz.prog 30 #[.agg #[nm,vf,vb],.agg #[b.q0.v,b.q1.v],.agg #[.int .i64 y.number,y.p1.v,y.p2.v,y.p3.v]] w fun e w'=>D7c d w base fs b y x e w':=by
  obtain⟨af,nf,cf,rfl,Hn,gu⟩:=h.hf.shape
  obtain⟨ab,nb,cb,rfl⟩:=gz
  obtain⟨s,rfl⟩:=gw
  obtain⟨vals,unk,⟨a0,n0,c0⟩,⟨a1,n1,c1⟩⟩:=b
  obtain⟨nu,bi,bw,su,⟨a2,n2,c2⟩,⟨a3,n3,c3⟩,⟨a4,n4,c4⟩⟩:=y
  obtain⟨W4,fq⟩:∃ W4,Hid (W4=(((w.alloc (.cells #[.string (S s),.slice af nf cf,.slice ab nb cb] 38)).alloc (.cells #[.slice a0 n0 c0,.slice a1 n1 c1] 29)).alloc (.cells #[.int .i64 nu,.slice a2 n2 c2,.slice a3 n3 c3,.slice a4 n4 c4] 62)).alloc (.cells #[.slice none 0 0,.slice none 0 0] 29)):=⟨_,rfl⟩
  obtain⟨b1,b2,b3,b4,bz⟩:=C1r w (.cells #[.string (S s),.slice af nf cf,.slice ab nb cb] 38) (.cells #[.slice a0 n0 c0,.slice a1 n1 c1] 29) (.cells #[.int .i64 nu,.slice a2 n2 c2,.slice a3 n3 c3,.slice a4 n4 c4] 62) (.cells #[.slice none 0 0,.slice none 0 0] 29)
  have hb4:Below w.heap.size w W4:=by rw[fq.out];exact((((Below.refl _ _).alloc (Nat.le_refl _) _).alloc (by simp) _).alloc (by simp;omega) _).alloc (by simp;omega) _
  rw[←fq.out] at b1 b2 b3 b4 bz
  have g8:=Nat.le_of_eq bz
  have gp:=Nat.le_of_eq bz.symm
  have ee:=A3e (h.hf.below FAt.stays hb4) ⟨ab,nb,cb,rfl⟩ ⟨s,rfl⟩ nu
  have e1:A0k (fun f:FI=>decide (f.number=nu)) fs=(k:Int):=by unfold A0k;rw[hk]
  have HX:Hid (fs[k]?=some x):=hx
  have ig:(k:Int)<(nf:Int):=by have:=(List.getElem?_eq_some_iff.1 hx).1;have:=Hn.out;omega
  have ie:¬ (k:Int)<0:=by omega
  rw[e1] at ee
  unfold PV.v
  clear bz e1 hk hx
  go_enter Tryz.func30,Tryz.ntmps30
  go_wp2_with fail
  rw[←fq.out]
  refine ee.mono ?_
  rintro e w1 ⟨rfl,hb1⟩
  have ew:=BTr hb4 hb1
  have hz1:=hb1.size
  obtain⟨gf,off,rfl,hat⟩:=(h.hf.below FAt.stays ew).get FAt.plain HX.out
  obtain⟨s0,s1,s2,s3,s4,s5⟩:=hat.at
  obtain⟨t0,t1,t2⟩:=A4p ((hb1.block _ (by omega)).trans b1)
  obtain⟨W5,fj⟩:∃ W5,Hid (W5=w1.alloc (.cells #[.string (S x.name),.int .i64 x.number,.int .i64 x.kind,.string (S x.type),.bool x.many,.int .i64 x.choice] 40)):=⟨_,rfl⟩
  have gc:Below w1.heap.size w1 W5:=by rw[fj.out];exact(Below.refl _ _).alloc (Nat.le_refl _) _
  have x5:W5.heap[w1.heap.size]?=some (.cells #[.string (S x.name),.int .i64 x.number,.int .i64 x.kind,.string (S x.type),.bool x.many,.int .i64 x.choice] 40 (0,0)):=by rw[fj.out];exact heap_alloc_new _ _
  have z5:w1.heap.size+1≤W5.heap.size:=by rw[fj.out];simp
  have cu:=BTr hb1 gc
  have dw:=BTr hb4 cu
  have c1':=(cu.block _ (by omega)).trans b1
  have fy:=(cu.block _ (by omega)).trans b2
  have fz:=(cu.block _ (by omega)).trans b3
  have f6:=(cu.block _ (by omega)).trans b4
  clear ee b1 b2 b3 b4
  go_wp2_with fail
  rw[←fj.out]
  clear s0 s1 s2 s3 s4 s5 t0 t1 t2 hat
  obtain⟨bu,ba⟩:∃ bu:World→Prop,Hid (∀ V,bu V↔∀ k,w.heap.size≤k→k<W5.heap.size→V.heap[k]?=W5.heap[k]?):=⟨fun V=>∀ k,w.heap.size≤k→k<W5.heap.size→V.heap[k]?=W5.heap[k]?,fun _=>Iff.rfl⟩
  have hM:∀ V,bu V→V.cell? ⟨w.heap.size,0,none⟩=some (.string (S s))∧V.cell? ⟨w.heap.size,1,none⟩=some (.slice (some ⟨gf,off,none⟩) nf cf)∧V.cell? ⟨w.heap.size,2,none⟩=some (.slice ab nb cb):=fun V hV=>A4p (((ba.out V).1 hV _ (by omega) (by omega)).trans c1')
  have eu:∀ V,bu V→V.heap[w.heap.size+1]?=some (.cells #[.slice a0 n0 c0,.slice a1 n1 c1] 29 (0,0)):=fun V hV=>((ba.out V).1 hV _ (by omega) (by omega)).trans fy
  have f9:∀ V,bu V→V.cell? ⟨w1.heap.size,0,none⟩=some (.string (S x.name))∧V.cell? ⟨w1.heap.size,1,none⟩=some (.int .i64 x.number)∧V.cell? ⟨w1.heap.size,2,none⟩=some (.int .i64 x.kind)∧V.cell? ⟨w1.heap.size,3,none⟩=some (.string (S x.type))∧V.cell? ⟨w1.heap.size,4,none⟩=some (.bool x.many)∧V.cell? ⟨w1.heap.size,5,none⟩=some (.int .i64 x.choice):=fun V hV=>B0h (((ba.out V).1 hV _ (by omega) (by omega)).trans x5)
  have hS:∀ V,bu V→(V.cell? ⟨w.heap.size,0,none⟩=some (.string (S s))∧V.cell? ⟨w.heap.size,1,none⟩=some (.slice (some ⟨gf,off,none⟩) nf cf)∧V.cell? ⟨w.heap.size,2,none⟩=some (.slice ab nb cb))∧V.cell? ⟨w1.heap.size,0,none⟩=some (.string (S x.name))∧V.cell? ⟨w1.heap.size,1,none⟩=some (.int .i64 x.number)∧V.cell? ⟨w1.heap.size,2,none⟩=some (.int .i64 x.kind)∧V.cell? ⟨w1.heap.size,3,none⟩=some (.string (S x.type))∧V.cell? ⟨w1.heap.size,4,none⟩=some (.bool x.many)∧V.cell? ⟨w1.heap.size,5,none⟩=some (.int .i64 x.choice):=fun V hV=>⟨hM V hV,f9 V hV⟩
  have far:∀ (V:World) (j:Nat) (z:Value),(V.setCell ⟨w.heap.size+1,0,none⟩ z).cell? ⟨w.heap.size,j,none⟩=V.cell? ⟨w.heap.size,j,none⟩:=fun V j z=>World.cell?_setCell_far V _ _ _ (by simp)
  have et:∀ (V:World) (j:Nat) (z:Value),(V.setCell ⟨w.heap.size+1,0,none⟩ z).cell? ⟨w1.heap.size,j,none⟩=V.cell? ⟨w1.heap.size,j,none⟩:=fun V j z=>World.cell?_setCell_far V _ _ _ (by simp;omega)
  have gq:∀ V,bu V→∀ z,((V.setCell ⟨w.heap.size+1,0,none⟩ z).cell? ⟨w.heap.size,0,none⟩=some (.string (S s))∧(V.setCell ⟨w.heap.size+1,0,none⟩ z).cell? ⟨w.heap.size,1,none⟩=some (.slice (some ⟨gf,off,none⟩) nf cf)∧(V.setCell ⟨w.heap.size+1,0,none⟩ z).cell? ⟨w.heap.size,2,none⟩=some (.slice ab nb cb))∧(V.setCell ⟨w.heap.size+1,0,none⟩ z).cell? ⟨w1.heap.size,0,none⟩=some (.string (S x.name))∧(V.setCell ⟨w.heap.size+1,0,none⟩ z).cell? ⟨w1.heap.size,1,none⟩=some (.int .i64 x.number)∧(V.setCell ⟨w.heap.size+1,0,none⟩ z).cell? ⟨w1.heap.size,2,none⟩=some (.int .i64 x.kind)∧(V.setCell ⟨w.heap.size+1,0,none⟩ z).cell? ⟨w1.heap.size,3,none⟩=some (.string (S x.type))∧(V.setCell ⟨w.heap.size+1,0,none⟩ z).cell? ⟨w1.heap.size,4,none⟩=some (.bool x.many)∧(V.setCell ⟨w.heap.size+1,0,none⟩ z).cell? ⟨w1.heap.size,5,none⟩=some (.int .i64 x.choice):=fun V hV z=>by
    simp only[far,et]
    exact hS V hV
  have hD:bu W5.drew:=(ba.out _).2 fun _ _ _=>rfl
  have dB:=eu _ hD
  obtain⟨d0,d1⟩:=A0y dB
  have ft:=C5i (w:=W5.drew) (h.hf.below FAt.stays (BTr dw ((Below.refl _ _).drew))) ⟨ab,nb,cb,rfl⟩ ⟨s,rfl⟩ h.fok h.fl x
  unfold vFI at ft
  have ej:∀ g,(Value.slice a0 n0 c0).ownBlock=some g→g<w.heap.size:=fun g hg=>(h.hb.r0.own g hg).2
  have hdel:∀ (wO:World) (fn:Nat) (df:Array Value) (K:List Nat),Below W5.heap.size W5.drew wO→(∀ (args:Array Value) (w:World),(callFunc fn args).run Tryz.prog w = .ok (.enter fn args) w)→(∀ k∈K,W5.drew.heap.size≤k∧k<wO.heap.size)→PredK fn df K wO (A0q fs x)→Calls Tryz.prog 68 #[.slice a0 n0 c0,.func (.func fn) #[] df] wO fun e w'=>∃ (aq:Option Addr) (nq cq:Nat),e = .returned (.slice aq nq cq)∧(Value.slice aq nq cq).ownBlock=(Value.slice a0 n0 c0).ownBlock∧Row (ekV (LB d)) w' base (.slice aq nq cq) (vals.filter fun a=>!A0q fs x a.number)∧FrB (Value.slice a0 n0 c0).ownBlock.toList wO w':=fun wO fn df K hO d9 hK fu=>by
    have dg:Below w.heap.size w wO:=BTr dw (BTr ((Below.refl W5.heap.size W5).drew) hO)
    have gi:OwnL (ekB d) (OT d) wO base ⟨vals,unk,(a0,n0,c0),(a1,n1,c1)⟩:=h.hb.belowT dg
    refine(D1m (d:=d) (PT.stays d) gi.r0 gi.rdT d9 fu (fun k hk=>(hK k hk).2) (fun k hk e=>?_) h.num).mono fun e w' ⟨⟨aq,nq,cq⟩,r1,r2,r3,r4⟩=>⟨aq,nq,cq,r1,r2,r3,r4⟩
    have:=ej k e
    have h2:W5.heap.size≤k:=(hK k hk).1
    omega
  have gj:∀ V,Below W5.heap.size W5.drew V→bu V:=fun V hV=>(ba.out V).2 fun k _ h2=>hV.block k h2
  have fx:∀ V V',Below W5.heap.size W5.drew V→FrB (Value.slice a0 n0 c0).ownBlock.toList V V'→bu V':=fun V V' hV hF=>(ba.out V').2 fun k h1 h2=>(hF.blk (Nat.lt_of_lt_of_le h2 hV.size) (fun hm=>by
    have:=ej k (by simpa using hm)
    omega)).trans (hV.block k h2)
  clear far et hM f9 ej gq
  obtain⟨⟨m0,m1,m2⟩,k0,k1,k2,k3,k4,k5⟩:=hS _ hD
  go_cut [22] from 21 to 27 (fun _ wc=>∃ (wO wQ:World) (aq:Option Addr) (nq cq:Nat),wc=wQ.setCell ⟨w.heap.size+1,0,none⟩ (.slice aq nq cq)∧Below W5.heap.size W5.drew wO∧(Value.slice aq nq cq).ownBlock=(Value.slice a0 n0 c0).ownBlock∧Row (ekV (LB d)) wQ base (.slice aq nq cq) (vals.filter fun a=>!A0q fs x a.number)∧FrB (Value.slice a0 n0 c0).ownBlock.toList wO wQ)
  case first=>
    go_region_with (first|(go_at_call 69;refine ft.mono ?_;rintro e wO ⟨fn,df,K,rfl,d9,hK,fu,dg⟩;have hO:=gj _ dg;have oB:=eu _ hO;obtain⟨o0,o1⟩:=A0y oB)|(go_at_call 68;refine(hdel wO fn df K dg d9 hK fu).mono ?_;rintro e wQ ⟨aq,nq,cq,rfl,fw,hrow,eh⟩;have hQ:=fx _ _ dg eh;have qB:=eu _ hQ;obtain⟨p0,p1⟩:=A0y qB;have p2:=A0b qB 0))
    all_goals
      go_wp2_with fail
      go_meet
    all_goals exact⟨wO,wQ,aq,nq,cq,rfl,dg,fw,hrow,eh⟩
  case rest=>
    obtain⟨wO,wQ,aq,nq,cq,hwc,dg,fw,hrow,eh⟩:=hcut
    have hQ:=fx _ _ dg eh
    have qB:=eu _ hQ
    have ip:=dg.size
    have iq:=eh.size
    have im:W5.drew.heap.size=W5.heap.size:=rfl
    have wB:wc.heap[w.heap.size+1]?=some (.cells #[.slice aq nq cq,.slice a1 n1 c1] 29 (0,0)):=by rw[hwc];exact heap_setCell_same wQ _ 0 _ _ (.slice aq nq cq) qB
    have dy:∀ k,k≠w.heap.size+1→wc.heap[k]?=wQ.heap[k]?:=fun k hk=>by rw[hwc];exact Below.heap_setCell _ _ _ _ hk
    have wV:=(dy (w.heap.size+2) (by omega)).trans (((ba.out _).1 hQ _ (by omega) (by omega)).trans fz)
    have wR:=(dy (w.heap.size+3) (by omega)).trans (((ba.out _).1 hQ _ (by omega) (by omega)).trans f6)
    have wX:=(dy w1.heap.size (by omega)).trans (((ba.out _).1 hQ _ (by omega) (by omega)).trans x5)
    have fc:Below w.heap.size w wO:=BTr dw (BTr ((Below.refl W5.heap.size W5).drew) dg)
    have ak:FrB [w.heap.size+1] wQ wc:=by rw[hwc];exact A1l qB (by decide)
    have gg:FrB (own1 (a0,n0,c0)) w wQ:=(FrB.of_below fc:FrB (own1 (a0,n0,c0)) w wO).trans eh (fun _ hi=>hi) (fun _ hi=>.inl hi)
    have fd:FrB (own1 (a0,n0,c0)) w wc:=gg.trans ak (fun _ hi=>hi) (fun i hi=>.inr (by rw[List.mem_singleton] at hi;omega))
    have dr:=OwnV.fr (OT.fr d) h.hy fd (fun k hk hm=>(h.apart k hm).2.2 hk)
    have fk:own1 (aq,nq,cq)=own1 (a0,n0,c0):=by show(Value.slice aq nq cq).ownBlock.toList=(Value.slice a0 n0 c0).ownBlock.toList;rw[fw]
    have cj:Row (ekV (LB d)) wc base (.slice aq nq cq) (vals.filter fun a=>!A0q fs x a.number):=Row.frB (p:=(aq,nq,cq)) hrow ak (fun k hk hm=>by
      rw[fk] at hk
      rw[List.mem_singleton] at hm
      have:=(h.hb.r0.own1 k hk).2
      omega)
    have bq:=B3p (P:=PT d) (w:=wc) x (VL.pl (LB.pl d) ⟨nu,bi,bw,su,(a2,n2,c2),(a3,n3,c3),(a4,n4,c4)⟩) (a1:=a2) (n1:=n2) (c1:=c2) (a2:=a3) (n2:=n3) (c2:=c3) (a3:=a4) (n3:=n4) (c3:=c4) dr.r1.rdU (dr.r2.rdZ dr.r2y) dr.rdT
      (by have:=dr.r1.rdU.len.1;have e:n2=bi.length:=by simpa using this
          omega) (by have:=(dr.r2.rdZ dr.r2y).len.1;have e:n3=bw.length:=by simpa using this
                     omega) (by have:=dr.rdT.len.1;have e:n4=su.length:=by simpa using this
                                omega)
    unfold vFI at bq
    obtain⟨e0,e1,e2,e3,e4,e5⟩:=B0h wX
    obtain⟨v0,v1,v2,v3⟩:=B9u wV
    have lB:=(Array.getElem?_eq_some_iff.1 wB).1
    have lR:=(Array.getElem?_eq_some_iff.1 wR).1
    have lV:=(Array.getElem?_eq_some_iff.1 wV).1
    have dz:∀ k∈own1 (a0,n0,c0),k<w.heap.size:=fun k hk=>(h.hb.r0.own1 k hk).2
    obtain⟨R,HR⟩:∃ R,Hid (R=vals.filter fun a=>!A0q fs x a.number):=⟨_,rfl⟩
    rw[←HR.out] at cj
    have gl:Hid (∀ a∈R,I64 a.number):=fun a ha=>by rw[HR.out] at ha;exact h.num a (List.mem_filter.1 ha).1
    have HLEN:Hid ((R.length+1)*80≤140737488355328):=(show(R.length+1)*80≤140737488355328 by
      have h1:=h.len
      have h2:R.length≤vals.length:=by rw[HR.out];exact List.length_filter_le _ _
      have h3:(vals.length+1)*80≤140737488355328:=h1
      omega)
    have hbase:=h.base
    have fo:Hid (∀ a∈R,OwnV (ekB d) (OT d) wc base a):=fun a ha=>by
      rw[HR.out] at ha
      have ha':=(List.mem_filter.1 ha).1
      exact OwnV.fr (OT.fr d) (h.hb.r0v a ha') fd (fun k hk hm=>(h.apart k hm).2.1 a ha' hk)
    have g7:Hid (OwnV (ekB d) (OT d) wc base ⟨nu,bi,bw,su,(a2,n2,c2),(a3,n3,c3),(a4,n4,c4)⟩):=dr
    clear h ft hdel gj fx ba hS eu hD dB d0 d1 hrow hwc dy dr hb4 hb1 ew gc cu dw c1' fy fz f6 x5 m0 m1 m2 k0 k1 k2 k3 k4 k5 hQ qB fc ak gg eh dg
    cases hq:A0p x (VL.pl (LB.pl d) ⟨nu,bi,bw,su,(a2,n2,c2),(a3,n3,c3),(a4,n4,c4)⟩) with
    | true=>
      have HQ:Hid (A0p x (VL.pl (LB.pl d) ⟨nu,bi,bw,su,(a2,n2,c2),(a3,n3,c3),(a4,n4,c4)⟩)=true):=hq
      rw[hq] at bq
      clear hq
      go_wp2_with fail
      refine bq.mono ?_
      rintro e w9 ⟨rfl,cw⟩
      obtain⟨t0,t1⟩:=A0y ((cw.block _ lB).trans wB)
      have y4:=(cw.block _ lR).trans wR
      obtain⟨u0,u1⟩:=A0y y4
      have f0:=A0b y4 0
      have f1:=A0b y4 1
      clear bq
      go_wp2_with fail
      refine bodyPost_ret (v:=.agg #[.slice aq nq cq,.slice a1 n1 c1]) (by simp[results,Tryz.results30,go_sem, *]) rfl ?_
      have gh:=fr2 y4 (x0:=.slice aq nq cq) (x1:=.slice a1 n1 c1)
      refine⟨(aq,nq,cq),rfl,fun k hk=>.inl (by rw[fk] at hk;exact hk),?_,?_⟩
      · rw[HQ.out,if_pos rfl]
        show Row (ekV (LB d)) _ base (PV.v (aq,nq,cq)) (vals.filter fun a=>!A0q fs x a.number)
        rw[←HR.out]
        refine Row.frB (p:=(aq,nq,cq)) (cj.below cw) gh (fun k hk hm=>?_)
        rw[fk] at hk
        rw[List.mem_singleton] at hm
        have:=dz k hk
        omega
      · exact(fd.on cw).trans gh (fun _ hi=>hi) (fun i hi=>.inr (by rw[List.mem_singleton] at hi;omega))
    | false=>
      have HQ:Hid (A0p x (VL.pl (LB.pl d) ⟨nu,bi,bw,su,(a2,n2,c2),(a3,n3,c3),(a4,n4,c4)⟩)=false):=hq
      rw[hq] at bq
      clear hq
      go_wp2_with fail
      refine bq.mono ?_
      rintro e w9 ⟨rfl,cw⟩
      obtain⟨ei,cg⟩:∃ ei,Hid (ei=A1h nu (R.map (VL.pl (LB.pl d)))):=⟨_,rfl⟩
      have fh:ei≤R.length:=by
        rw[cg.out]
        unfold A1h
        cases hf:(R.map (VL.pl (LB.pl d))).findIdx? (fun v=>decide (nu<v.number)) with
        | none=>simp
        | some i=>
          obtain⟨a,ha,_⟩:=A8h hf
          have:=(List.getElem?_eq_some_iff.1 ha).1
          simp at this
          show i≤_
          omega
      have fe:=fd.on cw
      have io:=cw.size
      have nB:=(cw.block _ lB).trans wB
      have nV:=(cw.block _ lV).trans wV
      have nR:=(cw.block _ lR).trans wR
      have dh:=cj.below cw
      have eo:Hid (∀ a∈R,OwnV (ekB d) (OT d) w9 base a):=fun a ha=>(fo.out a ha).belowT cw
      have ac:∀ V,Below w9.heap.size w9 V→(V.cell? ⟨w.heap.size+1,0,none⟩=some (.slice aq nq cq)∧V.cell? ⟨w.heap.size+1,1,none⟩=some (.slice a1 n1 c1))∧V.cell? ⟨w.heap.size+2,0,none⟩=some (.int .i64 nu)∧V.cell? ⟨w.heap.size+2,1,none⟩=some (.slice a2 n2 c2)∧V.cell? ⟨w.heap.size+2,2,none⟩=some (.slice a3 n3 c3)∧V.cell? ⟨w.heap.size+2,3,none⟩=some (.slice a4 n4 c4):=fun V hV=>⟨A0y ((hV.block _ (by omega)).trans nB),B9u ((hV.block _ (by omega)).trans nV)⟩
      have hpl:∀ V,Below w9.heap.size w9 V→Calls Tryz.prog 72 #[.int .i64 nu,.slice aq nq cq] V fun e w'=>e = .returned (.int .i64 (ei:Int))∧Below V.heap.size V w':=fun V hV=>by
        have ho:OwnL (ekB d) (OT d) V base ⟨R,[],(aq,nq,cq),(none,0,0)⟩:=⟨dh.below hV,fun a ha=>(eo.out a ha).belowT hV,Row.nil _ _ _,fun _ hr=>by simp at hr⟩
        have:=C0z (PT.stays d) ho.rdT nu
        rw[←cg.out] at this
        exact this
      have ag:∀ V vb,Below w9.heap.size w9 V→V.heap[vb]?=some (.cells #[.int .i64 nu,.slice a2 n2 c2,.slice a3 n3 c3,.slice a4 n4 c4] 62 (0,0))→w9.heap.size≤vb→Calls Tryz.prog 71 #[.slice aq nq cq,.int .i64 (ei:Int),.slice (some ⟨vb,0,none⟩) 1 1] V fun e w'=>∃ (ai:Option Addr) (ni ci:Nat),e = .returned (.slice ai ni ci)∧(∀ k∈own1 (ai,ni,ci),k∈own1 (a0,n0,c0)∨w.heap.size≤k)∧Hid (Row (ekV (LB d)) w' base (.slice ai ni ci) (R.take ei++[(⟨nu,bi,bw,su,(a2,n2,c2),(a3,n3,c3),(a4,n4,c4)⟩:VL (LB d))]++R.drop ei))∧Hid (FrB (own1 (a0,n0,c0)) w w')∧w'.heap[w.heap.size+1]?=some (.cells #[.slice aq nq cq,.slice a1 n1 c1] 29 (0,0))∧w'.heap[w.heap.size+3]?=some (.cells #[.slice none 0 0,.slice none 0 0] 29 (0,0))∧w'.heap[w.heap.size+2]?=some (.cells #[.int .i64 nu,.slice a2 n2 c2,.slice a3 n3 c3,.slice a4 n4 c4] 62 (0,0)):=fun V vb hV hx bk=>by
        have ir:=hV.size
        have hown1:(Value.slice aq nq cq).ownBlock.toList=own1 (a0,n0,c0):=fk
        have dx:∀ k,w.heap.size≤k→k∉own1 (a0,n0,c0):=fun k hk hm=>by have:=dz k hm;omega
        refine(D5v (a:=(⟨nu,bi,bw,su,(a2,n2,c2),(a3,n3,c3),(a4,n4,c4)⟩:VL (LB d))) (dh.below hV) rfl hx (fun e=>?_) fh HLEN.out (by omega)).mono fun e w' ⟨⟨ai,ni,ci⟩,h1,h2,h3,h4⟩=>?_
        · exact dx vb (by omega) (by rw[←hown1,e];simp)
        · rw[hown1] at h4
          refine⟨ai,ni,ci,h1,fun k hk=>?_,h3,(fe.on hV).trans h4 (fun _ hi=>hi) (fun _ hi=>.inl hi),(h4.blk (by omega) (dx _ (by omega))).trans ((hV.block _ (by omega)).trans nB),(h4.blk (by omega) (dx _ (by omega))).trans ((hV.block _ (by omega)).trans nR),(h4.blk (by omega) (dx _ (by omega))).trans ((hV.block _ (by omega)).trans nV)⟩
          rcases h2 k (A0u.1 hk) with h5|h5
          · left;rw[←hown1,h5];simp
          · right;omega
      have bg:Below w9.heap.size w9 w9.drew:=(Below.refl _ _).drew
      have g9:Below w9.heap.size w9 (w9.drew.alloc (.cells #[.int .i64 nu,.slice a2 n2 c2,.slice a3 n3 c3,.slice a4 n4 c4] 62)):=bg.alloc (Nat.le_refl _) _
      obtain⟨⟨d0,d1⟩,d2,d3,d4,d5⟩:=ac _ bg
      clear bq wB wV wR lB lR lV cj fd fe dh nB nV nR e0 e1 e2 e3 e4 e5 v0 v1 v2 v3 fh
      go_wp2_with fail
      have bh:Below w9.heap.size w9 (w9.alloc (.cells #[.int .i64 nu,.slice a2 n2 c2,.slice a3 n3 c3,.slice a4 n4 c4] 62)).drew:=((Below.refl _ _).alloc (Nat.le_refl _) _).drew
      have dn:(w9.alloc (.cells #[.int .i64 nu,.slice a2 n2 c2,.slice a3 n3 c3,.slice a4 n4 c4] 62)).drew.heap[w9.heap.size]?=some (.cells #[.int .i64 nu,.slice a2 n2 c2,.slice a3 n3 c3,.slice a4 n4 c4] 62):=heap_alloc_new w9 _
      have dm:w9.heap.size<(w9.alloc (.cells #[.int .i64 nu,.slice a2 n2 c2,.slice a3 n3 c3,.slice a4 n4 c4] 62)).drew.heap.size:=by show w9.heap.size<(w9.alloc (.cells #[.int .i64 nu,.slice a2 n2 c2,.slice a3 n3 c3,.slice a4 n4 c4] 62)).heap.size;simp
      obtain⟨⟨g0,g1⟩,g2,g3,g4,g5⟩:=ac _ bh
      have gy:=(ac _ bg).2
      have il:=(ac _ bh).2
      have bc:∀ (V:World) (_:V.heap[w.heap.size+2]?=some (.cells #[.int .i64 nu,.slice a2 n2 c2,.slice a3 n3 c3,.slice a4 n4 c4] 62 (0,0))) (z:Value),(V.setCell ⟨w.heap.size+1,0,none⟩ z).cell? ⟨w.heap.size+2,0,none⟩=some (.int .i64 nu)∧(V.setCell ⟨w.heap.size+1,0,none⟩ z).cell? ⟨w.heap.size+2,1,none⟩=some (.slice a2 n2 c2)∧(V.setCell ⟨w.heap.size+1,0,none⟩ z).cell? ⟨w.heap.size+2,2,none⟩=some (.slice a3 n3 c3)∧(V.setCell ⟨w.heap.size+1,0,none⟩ z).cell? ⟨w.heap.size+2,3,none⟩=some (.slice a4 n4 c4):=fun V hV z=>B9u ((Below.heap_setCell V _ _ _ (show w.heap.size+2≠w.heap.size+1 by omega)).trans hV)
      clear g2 g3 g4 g5 d2 d3 d4 d5
      refine wp_region_held_drew (S:=(fun V=>V.cell? ⟨w.heap.size+2,0,none⟩=some (.int .i64 nu)∧V.cell? ⟨w.heap.size+2,1,none⟩=some (.slice a2 n2 c2)∧V.cell? ⟨w.heap.size+2,2,none⟩=some (.slice a3 n3 c3)∧V.cell? ⟨w.heap.size+2,3,none⟩=some (.slice a4 n4 c4))) (by kernel_rfl) gy (fun hHeld=>?_)
      refine tK (i:=0) (v:=?v1) rfl ⟨by rfl,?hy1⟩ ?_
      case hy1=>(intro W hSw;(try dsimp only at hSw);go_simp;first|done|with_reducible rfl)
      try simp only[Act.put,List.setIfInBounds_toArray]
      refine tK (i:=2) (v:=?v2) rfl ⟨by rfl,?hy2⟩ ?_
      case hy2=>(intro W hSw;(try dsimp only at hSw);go_simp;first|done|with_reducible rfl)
      try simp only[Act.put]
      refine tK (i:=3) (v:=?v3) rfl ⟨by rfl,?hy3⟩ ?_
      case hy3=>(intro W hSw;(try dsimp only at hSw);go_simp;first|done|with_reducible rfl)
      try simp only[Act.put]
      refine tK (i:=4) (v:=?v4) rfl ⟨by rfl,?hy4⟩ ?_
      case hy4=>(intro W hSw;(try dsimp only at hSw);go_simp;first|done|with_reducible rfl)
      try simp only[Act.put]
      refine tK (i:=7) (v:=?v5) rfl ⟨by rfl,?hy5⟩ ?_
      case hy5=>(intro W hSw;(try dsimp only at hSw);go_simp;first|done|with_reducible rfl)
      try simp only[Act.put]
      refine wpAnyH_ready (rs:=[1,5,8]) (by kernel_rfl) (by simp) ?_
      refine AllReadyH.cons rfl (fun K hK=>?_) (AllReadyH.cons rfl (fun K hK=>?_) (AllReadyH.cons rfl (fun K hK=>?_) AllReadyH.nil))
      · skip
        go_simp
        refine hK.out _ _ ?_ (fun hHeld=>?_)
        · (try dsimp only);with_reducible assumption
        clear hK K
        try simp only[pT,Act.put]
        refine rB (i:=5) (j:=8) rfl (fun K hK=>?_) rfl fun K hK=>?_
        · skip
          go_simp
          refine hK.out _ _ ?_ (fun hHeld=>?_)
          · (try dsimp only);with_reducible assumption
          clear hK K
          try simp only[pT,Act.put]
          refine rB (i:=6) (j:=8) rfl (fun K hK=>?_) rfl fun K hK=>?_
          rotate_right
          focus
            skip
            go_simp
            refine hK.out _ _ ?_ (fun hHeld=>?_)
            · (try dsimp only);with_reducible assumption
            clear hK K
            try simp only[pT,Act.put]
            refine rA (i:=6) rfl fun K hK=>?_
            go_simp
            refine(hpl _ ?_).mono ?_;(with_reducible first|exact bg|exact bh);rintro e wP ⟨rfl,aj⟩;have hP:Below w9.heap.size w9 wP:=(by with_reducible first|exact BTr bg aj|exact BTr bh aj);obtain⟨⟨p0,p1⟩,dp⟩:=ac _ hP;have ah:=hP.alloc hP.size (.cells #[.int .i64 nu,.slice a2 n2 c2,.slice a3 n3 c3,.slice a4 n4 c4] 62);have bv:=(ac _ ah).2;obtain⟨dt,dv⟩:=(ac _ ah).1;have br:=heap_alloc_new wP (.cells #[.int .i64 nu,.slice a2 n2 c2,.slice a3 n3 c3,.slice a4 n4 c4] 62);have bk:=hP.size;try(with_reducible have bt:=(aj.block _ dm).trans dn)
            refine hK.out _ _ ?_ (fun hHeld=>?_)
            · (try dsimp only);with_reducible assumption
            clear hK K
            try simp only[pT,Act.put]
            refine rA (i:=9) rfl fun K hK=>?_
            go_simp
            refine(ag _ _ ?_ ?_ ?_).mono ?_;(with_reducible first|exact ah|exact hP);(with_reducible first|exact br|exact bt);(with_reducible first|exact bk|exact Nat.le_refl _);rintro e wI ⟨ai,ni,ci,rfl,bp,au,bn,iB,iR,iV⟩;obtain⟨j0,j1⟩:=A0y iB;have j2:=A0b iB 0;have di:=B9u iV;have dl:=bc wI iV (.slice ai ni ci)
            refine hK.out _ _ ?_ (fun hHeld=>?_)
            · (try dsimp only);with_reducible assumption
            clear hK K
            try simp only[pT,Act.put]
            refine tK (i:=10) (v:=?v7) rfl ⟨by rfl,?hy7⟩ ?_
            case hy7=>(intro W hSw;(try dsimp only at hSw);go_simp;first|done|with_reducible rfl)
          rotate_right
          focus
            skip
            go_simp
            refine(hpl _ ?_).mono ?_;(with_reducible first|exact bg|exact bh);rintro e wP ⟨rfl,aj⟩;have hP:Below w9.heap.size w9 wP:=(by with_reducible first|exact BTr bg aj|exact BTr bh aj);obtain⟨⟨p0,p1⟩,dp⟩:=ac _ hP;have ah:=hP.alloc hP.size (.cells #[.int .i64 nu,.slice a2 n2 c2,.slice a3 n3 c3,.slice a4 n4 c4] 62);have bv:=(ac _ ah).2;obtain⟨dt,dv⟩:=(ac _ ah).1;have br:=heap_alloc_new wP (.cells #[.int .i64 nu,.slice a2 n2 c2,.slice a3 n3 c3,.slice a4 n4 c4] 62);have bk:=hP.size;try(with_reducible have bt:=(aj.block _ dm).trans dn)
            refine hK.out _ _ ?_ (fun hHeld=>?_)
            · (try dsimp only);with_reducible assumption
            clear hK K
            try simp only[pT,Act.put]
            refine rA (i:=8) rfl fun K hK=>?_
            go_simp
            refine hK.out _ _ ?_ (fun hHeld=>?_)
            · (try dsimp only);with_reducible assumption
            clear hK K
            try simp only[pT,Act.put]
            refine rA (i:=9) rfl fun K hK=>?_
            go_simp
            refine(ag _ _ ?_ ?_ ?_).mono ?_;(with_reducible first|exact ah|exact hP);(with_reducible first|exact br|exact bt);(with_reducible first|exact bk|exact Nat.le_refl _);rintro e wI ⟨ai,ni,ci,rfl,bp,au,bn,iB,iR,iV⟩;obtain⟨j0,j1⟩:=A0y iB;have j2:=A0b iB 0;have di:=B9u iV;have dl:=bc wI iV (.slice ai ni ci)
            refine hK.out _ _ ?_ (fun hHeld=>?_)
            · (try dsimp only);with_reducible assumption
            clear hK K
            try simp only[pT,Act.put]
            refine tK (i:=10) (v:=?v6) rfl ⟨by rfl,?hy6⟩ ?_
            case hy6=>(intro W hSw;(try dsimp only at hSw);go_simp;first|done|with_reducible rfl)
          all_goals
            try simp only[Act.put,List.setIfInBounds_toArray]
            refine rA (i:=11) rfl fun K hK=>?_
            go_simp
            refine hK.out _ _ ?_ (fun hHeld=>?_)
            · (try dsimp only);with_reducible assumption
            clear hK K
            try simp only[pT,Act.put]
            refine wpAnyH_done (by kernel_rfl) ?_ _
            obtain⟨r0,r1⟩:=A0y iR
            have q0:=A0b iR 0
            have q1:=A0b iR 1
            clear hpl ag ac
            go_wp2_with fail
            refine bodyPost_ret (v:=.agg #[.slice ai ni ci,.slice a1 n1 c1]) (by simp[results,Tryz.results30,go_sem, *]) rfl ?_
            have ak:FrB [w.heap.size+1] wI (wI.setCell ⟨w.heap.size+1,0,none⟩ (.slice ai ni ci)):=A1l iB (by decide)
            have aw:(wI.setCell ⟨w.heap.size+1,0,none⟩ (.slice ai ni ci)).heap[w.heap.size+3]?=some (.cells #[.slice none 0 0,.slice none 0 0] 29 (0,0)):=(Below.heap_setCell wI _ _ _ (show w.heap.size+3≠w.heap.size+1 by omega)).trans iR
            have hf2:=fr2 aw (x0:=.slice ai ni ci) (x1:=.slice a1 n1 c1)
            refine⟨(ai,ni,ci),rfl,bp,?_,?_⟩
            · rw[HQ.out,if_neg (by decide)]
              show Row (ekV (LB d)) _ base (PV.v (ai,ni,ci)) ((vals.filter fun a=>!A0q fs x a.number).take (A1h nu ((vals.filter fun a=>!A0q fs x a.number).map (VL.pl (LB.pl d))))++[(⟨nu,bi,bw,su,(a2,n2,c2),(a3,n3,c3),(a4,n4,c4)⟩:VL (LB d))]++(vals.filter fun a=>!A0q fs x a.number).drop (A1h nu ((vals.filter fun a=>!A0q fs x a.number).map (VL.pl (LB.pl d)))))
              rw[←HR.out,←cg.out]
              have hr1:=Row.frB (p:=(ai,ni,ci)) au.out ak (fun k hk hm=>by rw[List.mem_singleton] at hm;subst hm;exact au.out.ne_blk iB (by show(29:Nat)≠62;decide) (A0u.1 hk))
              exact Row.frB (p:=(ai,ni,ci)) hr1 hf2 (fun k hk hm=>by rw[List.mem_singleton] at hm;subst hm;exact hr1.ne_blk aw (by show(29:Nat)≠62;decide) (A0u.1 hk))
            · exact(bn.out.trans ak (fun _ hi=>hi) (fun i hi=>.inr (by rw[List.mem_singleton] at hi;omega))).trans hf2 (fun _ hi=>hi) (fun i hi=>.inr (by rw[List.mem_singleton] at hi;omega))
        · skip
          go_simp
          refine hK.out _ _ ?_ (fun hHeld=>?_)
          · (try dsimp only);with_reducible assumption
          clear hK K
          try simp only[pT,Act.put]
          refine rA (i:=5) rfl fun K hK=>?_
          go_simp
          refine hK.out _ _ ?_ (fun hHeld=>?_)
          · (try dsimp only);with_reducible assumption
          clear hK K
          try simp only[pT,Act.put]
          refine rA (i:=6) rfl fun K hK=>?_
          go_simp
          refine(hpl _ ?_).mono ?_;(with_reducible first|exact bg|exact bh);rintro e wP ⟨rfl,aj⟩;have hP:Below w9.heap.size w9 wP:=(by with_reducible first|exact BTr bg aj|exact BTr bh aj);obtain⟨⟨p0,p1⟩,dp⟩:=ac _ hP;have ah:=hP.alloc hP.size (.cells #[.int .i64 nu,.slice a2 n2 c2,.slice a3 n3 c3,.slice a4 n4 c4] 62);have bv:=(ac _ ah).2;obtain⟨dt,dv⟩:=(ac _ ah).1;have br:=heap_alloc_new wP (.cells #[.int .i64 nu,.slice a2 n2 c2,.slice a3 n3 c3,.slice a4 n4 c4] 62);have bk:=hP.size;try(with_reducible have bt:=(aj.block _ dm).trans dn)
          refine hK.out _ _ ?_ (fun hHeld=>?_)
          · (try dsimp only);with_reducible assumption
          clear hK K
          try simp only[pT,Act.put]
          refine rA (i:=9) rfl fun K hK=>?_
          go_simp
          refine(ag _ _ ?_ ?_ ?_).mono ?_;(with_reducible first|exact ah|exact hP);(with_reducible first|exact br|exact bt);(with_reducible first|exact bk|exact Nat.le_refl _);rintro e wI ⟨ai,ni,ci,rfl,bp,au,bn,iB,iR,iV⟩;obtain⟨j0,j1⟩:=A0y iB;have j2:=A0b iB 0;have di:=B9u iV;have dl:=bc wI iV (.slice ai ni ci)
          refine hK.out _ _ ?_ (fun hHeld=>?_)
          · (try dsimp only);with_reducible assumption
          clear hK K
          try simp only[pT,Act.put]
          refine tK (i:=10) (v:=?v8) rfl ⟨by rfl,?hy8⟩ ?_
          case hy8=>(intro W hSw;(try dsimp only at hSw);go_simp;first|done|with_reducible rfl)
          try simp only[Act.put,List.setIfInBounds_toArray]
          refine rA (i:=11) rfl fun K hK=>?_
          go_simp
          refine hK.out _ _ ?_ (fun hHeld=>?_)
          · (try dsimp only);with_reducible assumption
          clear hK K
          try simp only[pT,Act.put]
          refine wpAnyH_done (by kernel_rfl) ?_ _
          obtain⟨r0,r1⟩:=A0y iR
          have q0:=A0b iR 0
          have q1:=A0b iR 1
          clear hpl ag ac
          go_wp2_with fail
          refine bodyPost_ret (v:=.agg #[.slice ai ni ci,.slice a1 n1 c1]) (by simp[results,Tryz.results30,go_sem, *]) rfl ?_
          have ak:FrB [w.heap.size+1] wI (wI.setCell ⟨w.heap.size+1,0,none⟩ (.slice ai ni ci)):=A1l iB (by decide)
          have aw:(wI.setCell ⟨w.heap.size+1,0,none⟩ (.slice ai ni ci)).heap[w.heap.size+3]?=some (.cells #[.slice none 0 0,.slice none 0 0] 29 (0,0)):=(Below.heap_setCell wI _ _ _ (show w.heap.size+3≠w.heap.size+1 by omega)).trans iR
          have hf2:=fr2 aw (x0:=.slice ai ni ci) (x1:=.slice a1 n1 c1)
          refine⟨(ai,ni,ci),rfl,bp,?_,?_⟩
          · rw[HQ.out,if_neg (by decide)]
            show Row (ekV (LB d)) _ base (PV.v (ai,ni,ci)) ((vals.filter fun a=>!A0q fs x a.number).take (A1h nu ((vals.filter fun a=>!A0q fs x a.number).map (VL.pl (LB.pl d))))++[(⟨nu,bi,bw,su,(a2,n2,c2),(a3,n3,c3),(a4,n4,c4)⟩:VL (LB d))]++(vals.filter fun a=>!A0q fs x a.number).drop (A1h nu ((vals.filter fun a=>!A0q fs x a.number).map (VL.pl (LB.pl d)))))
            rw[←HR.out,←cg.out]
            have hr1:=Row.frB (p:=(ai,ni,ci)) au.out ak (fun k hk hm=>by rw[List.mem_singleton] at hm;subst hm;exact au.out.ne_blk iB (by show(29:Nat)≠62;decide) (A0u.1 hk))
            exact Row.frB (p:=(ai,ni,ci)) hr1 hf2 (fun k hk hm=>by rw[List.mem_singleton] at hm;subst hm;exact hr1.ne_blk aw (by show(29:Nat)≠62;decide) (A0u.1 hk))
          · exact(bn.out.trans ak (fun _ hi=>hi) (fun i hi=>.inr (by rw[List.mem_singleton] at hi;omega))).trans hf2 (fun _ hi=>hi) (fun i hi=>.inr (by rw[List.mem_singleton] at hi;omega))
      · skip
        go_simp
        refine hK.out _ _ ?_ (fun hHeld=>?_)
        · (try dsimp only);with_reducible assumption
        clear hK K
        try simp only[pT,Act.put]
        refine wpAnyH_ready (rs:=[1,6,8]) (by kernel_rfl) (by simp) ?_
        refine AllReadyH.cons rfl (fun K hK=>?_) (AllReadyH.cons rfl (fun K hK=>?_) (AllReadyH.cons rfl (fun K hK=>?_) AllReadyH.nil))
        rotate_right
        focus
          skip
          go_simp
          refine hK.out _ _ ?_ (fun hHeld=>?_)
          · (try dsimp only);with_reducible assumption
          clear hK K
          try simp only[pT,Act.put]
          refine rB (i:=1) (j:=6) rfl (fun K hK=>?_) rfl fun K hK=>?_
          rotate_right
          focus
            skip
            go_simp
            refine(hpl _ ?_).mono ?_;(with_reducible first|exact bg|exact bh);rintro e wP ⟨rfl,aj⟩;have hP:Below w9.heap.size w9 wP:=(by with_reducible first|exact BTr bg aj|exact BTr bh aj);obtain⟨⟨p0,p1⟩,dp⟩:=ac _ hP;have ah:=hP.alloc hP.size (.cells #[.int .i64 nu,.slice a2 n2 c2,.slice a3 n3 c3,.slice a4 n4 c4] 62);have bv:=(ac _ ah).2;obtain⟨dt,dv⟩:=(ac _ ah).1;have br:=heap_alloc_new wP (.cells #[.int .i64 nu,.slice a2 n2 c2,.slice a3 n3 c3,.slice a4 n4 c4] 62);have bk:=hP.size;try(with_reducible have bt:=(aj.block _ dm).trans dn)
            refine hK.out _ _ ?_ (fun hHeld=>?_)
            · (try dsimp only);with_reducible assumption
            clear hK K
            try simp only[pT,Act.put]
            refine rA (i:=1) rfl fun K hK=>?_
            go_simp
            refine hK.out _ _ ?_ (fun hHeld=>?_)
            · (try dsimp only);with_reducible assumption
            clear hK K
            try simp only[pT,Act.put]
            refine rA (i:=9) rfl fun K hK=>?_
            go_simp
            refine(ag _ _ ?_ ?_ ?_).mono ?_;(with_reducible first|exact ah|exact hP);(with_reducible first|exact br|exact bt);(with_reducible first|exact bk|exact Nat.le_refl _);rintro e wI ⟨ai,ni,ci,rfl,bp,au,bn,iB,iR,iV⟩;obtain⟨j0,j1⟩:=A0y iB;have j2:=A0b iB 0;have di:=B9u iV;have dl:=bc wI iV (.slice ai ni ci)
            refine hK.out _ _ ?_ (fun hHeld=>?_)
            · (try dsimp only);with_reducible assumption
            clear hK K
            try simp only[pT,Act.put]
            refine tK (i:=10) (v:=?v14) rfl ⟨by rfl,?hy14⟩ ?_
            case hy14=>(intro W hSw;(try dsimp only at hSw);go_simp;first|done|with_reducible rfl)
          rotate_right
          focus
            skip
            go_simp
            refine hK.out _ _ ?_ (fun hHeld=>?_)
            · (try dsimp only);with_reducible assumption
            clear hK K
            try simp only[pT,Act.put]
            refine rA (i:=6) rfl fun K hK=>?_
            go_simp
            refine(hpl _ ?_).mono ?_;(with_reducible first|exact bg|exact bh);rintro e wP ⟨rfl,aj⟩;have hP:Below w9.heap.size w9 wP:=(by with_reducible first|exact BTr bg aj|exact BTr bh aj);obtain⟨⟨p0,p1⟩,dp⟩:=ac _ hP;have ah:=hP.alloc hP.size (.cells #[.int .i64 nu,.slice a2 n2 c2,.slice a3 n3 c3,.slice a4 n4 c4] 62);have bv:=(ac _ ah).2;obtain⟨dt,dv⟩:=(ac _ ah).1;have br:=heap_alloc_new wP (.cells #[.int .i64 nu,.slice a2 n2 c2,.slice a3 n3 c3,.slice a4 n4 c4] 62);have bk:=hP.size;try(with_reducible have bt:=(aj.block _ dm).trans dn)
            refine hK.out _ _ ?_ (fun hHeld=>?_)
            · (try dsimp only);with_reducible assumption
            clear hK K
            try simp only[pT,Act.put]
            refine rA (i:=9) rfl fun K hK=>?_
            go_simp
            refine(ag _ _ ?_ ?_ ?_).mono ?_;(with_reducible first|exact ah|exact hP);(with_reducible first|exact br|exact bt);(with_reducible first|exact bk|exact Nat.le_refl _);rintro e wI ⟨ai,ni,ci,rfl,bp,au,bn,iB,iR,iV⟩;obtain⟨j0,j1⟩:=A0y iB;have j2:=A0b iB 0;have di:=B9u iV;have dl:=bc wI iV (.slice ai ni ci)
            refine hK.out _ _ ?_ (fun hHeld=>?_)
            · (try dsimp only);with_reducible assumption
            clear hK K
            try simp only[pT,Act.put]
            refine tK (i:=10) (v:=?v13) rfl ⟨by rfl,?hy13⟩ ?_
            case hy13=>(intro W hSw;(try dsimp only at hSw);go_simp;first|done|with_reducible rfl)
        rotate_right
        focus
          skip
          go_simp
          refine(hpl _ ?_).mono ?_;(with_reducible first|exact bg|exact bh);rintro e wP ⟨rfl,aj⟩;have hP:Below w9.heap.size w9 wP:=(by with_reducible first|exact BTr bg aj|exact BTr bh aj);obtain⟨⟨p0,p1⟩,dp⟩:=ac _ hP;have ah:=hP.alloc hP.size (.cells #[.int .i64 nu,.slice a2 n2 c2,.slice a3 n3 c3,.slice a4 n4 c4] 62);have bv:=(ac _ ah).2;obtain⟨dt,dv⟩:=(ac _ ah).1;have br:=heap_alloc_new wP (.cells #[.int .i64 nu,.slice a2 n2 c2,.slice a3 n3 c3,.slice a4 n4 c4] 62);have bk:=hP.size;try(with_reducible have bt:=(aj.block _ dm).trans dn)
          refine hK.out _ _ ?_ (fun hHeld=>?_)
          · (try dsimp only);with_reducible assumption
          clear hK K
          try simp only[pT,Act.put]
          refine rB (i:=1) (j:=8) rfl (fun K hK=>?_) rfl fun K hK=>?_
          rotate_right
          focus
            skip
            go_simp
            refine hK.out _ _ ?_ (fun hHeld=>?_)
            · (try dsimp only);with_reducible assumption
            clear hK K
            try simp only[pT,Act.put]
            refine rA (i:=1) rfl fun K hK=>?_
            go_simp
            refine hK.out _ _ ?_ (fun hHeld=>?_)
            · (try dsimp only);with_reducible assumption
            clear hK K
            try simp only[pT,Act.put]
            refine rA (i:=9) rfl fun K hK=>?_
            go_simp
            refine(ag _ _ ?_ ?_ ?_).mono ?_;(with_reducible first|exact ah|exact hP);(with_reducible first|exact br|exact bt);(with_reducible first|exact bk|exact Nat.le_refl _);rintro e wI ⟨ai,ni,ci,rfl,bp,au,bn,iB,iR,iV⟩;obtain⟨j0,j1⟩:=A0y iB;have j2:=A0b iB 0;have di:=B9u iV;have dl:=bc wI iV (.slice ai ni ci)
            refine hK.out _ _ ?_ (fun hHeld=>?_)
            · (try dsimp only);with_reducible assumption
            clear hK K
            try simp only[pT,Act.put]
            refine tK (i:=10) (v:=?v12) rfl ⟨by rfl,?hy12⟩ ?_
            case hy12=>(intro W hSw;(try dsimp only at hSw);go_simp;first|done|with_reducible rfl)
          rotate_right
          focus
            skip
            go_simp
            refine hK.out _ _ ?_ (fun hHeld=>?_)
            · (try dsimp only);with_reducible assumption
            clear hK K
            try simp only[pT,Act.put]
            refine rA (i:=8) rfl fun K hK=>?_
            go_simp
            refine hK.out _ _ ?_ (fun hHeld=>?_)
            · (try dsimp only);with_reducible assumption
            clear hK K
            try simp only[pT,Act.put]
            refine rA (i:=9) rfl fun K hK=>?_
            go_simp
            refine(ag _ _ ?_ ?_ ?_).mono ?_;(with_reducible first|exact ah|exact hP);(with_reducible first|exact br|exact bt);(with_reducible first|exact bk|exact Nat.le_refl _);rintro e wI ⟨ai,ni,ci,rfl,bp,au,bn,iB,iR,iV⟩;obtain⟨j0,j1⟩:=A0y iB;have j2:=A0b iB 0;have di:=B9u iV;have dl:=bc wI iV (.slice ai ni ci)
            refine hK.out _ _ ?_ (fun hHeld=>?_)
            · (try dsimp only);with_reducible assumption
            clear hK K
            try simp only[pT,Act.put]
            refine tK (i:=10) (v:=?v11) rfl ⟨by rfl,?hy11⟩ ?_
            case hy11=>(intro W hSw;(try dsimp only at hSw);go_simp;first|done|with_reducible rfl)
        rotate_right
        focus
          skip
          go_simp
          refine hK.out _ _ ?_ (fun hHeld=>?_)
          · (try dsimp only);with_reducible assumption
          clear hK K
          try simp only[pT,Act.put]
          refine rB (i:=6) (j:=8) rfl (fun K hK=>?_) rfl fun K hK=>?_
          rotate_right
          focus
            skip
            go_simp
            refine hK.out _ _ ?_ (fun hHeld=>?_)
            · (try dsimp only);with_reducible assumption
            clear hK K
            try simp only[pT,Act.put]
            refine rA (i:=6) rfl fun K hK=>?_
            go_simp
            refine(hpl _ ?_).mono ?_;(with_reducible first|exact bg|exact bh);rintro e wP ⟨rfl,aj⟩;have hP:Below w9.heap.size w9 wP:=(by with_reducible first|exact BTr bg aj|exact BTr bh aj);obtain⟨⟨p0,p1⟩,dp⟩:=ac _ hP;have ah:=hP.alloc hP.size (.cells #[.int .i64 nu,.slice a2 n2 c2,.slice a3 n3 c3,.slice a4 n4 c4] 62);have bv:=(ac _ ah).2;obtain⟨dt,dv⟩:=(ac _ ah).1;have br:=heap_alloc_new wP (.cells #[.int .i64 nu,.slice a2 n2 c2,.slice a3 n3 c3,.slice a4 n4 c4] 62);have bk:=hP.size;try(with_reducible have bt:=(aj.block _ dm).trans dn)
            refine hK.out _ _ ?_ (fun hHeld=>?_)
            · (try dsimp only);with_reducible assumption
            clear hK K
            try simp only[pT,Act.put]
            refine rA (i:=9) rfl fun K hK=>?_
            go_simp
            refine(ag _ _ ?_ ?_ ?_).mono ?_;(with_reducible first|exact ah|exact hP);(with_reducible first|exact br|exact bt);(with_reducible first|exact bk|exact Nat.le_refl _);rintro e wI ⟨ai,ni,ci,rfl,bp,au,bn,iB,iR,iV⟩;obtain⟨j0,j1⟩:=A0y iB;have j2:=A0b iB 0;have di:=B9u iV;have dl:=bc wI iV (.slice ai ni ci)
            refine hK.out _ _ ?_ (fun hHeld=>?_)
            · (try dsimp only);with_reducible assumption
            clear hK K
            try simp only[pT,Act.put]
            refine tK (i:=10) (v:=?v10) rfl ⟨by rfl,?hy10⟩ ?_
            case hy10=>(intro W hSw;(try dsimp only at hSw);go_simp;first|done|with_reducible rfl)
          rotate_right
          focus
            skip
            go_simp
            refine(hpl _ ?_).mono ?_;(with_reducible first|exact bg|exact bh);rintro e wP ⟨rfl,aj⟩;have hP:Below w9.heap.size w9 wP:=(by with_reducible first|exact BTr bg aj|exact BTr bh aj);obtain⟨⟨p0,p1⟩,dp⟩:=ac _ hP;have ah:=hP.alloc hP.size (.cells #[.int .i64 nu,.slice a2 n2 c2,.slice a3 n3 c3,.slice a4 n4 c4] 62);have bv:=(ac _ ah).2;obtain⟨dt,dv⟩:=(ac _ ah).1;have br:=heap_alloc_new wP (.cells #[.int .i64 nu,.slice a2 n2 c2,.slice a3 n3 c3,.slice a4 n4 c4] 62);have bk:=hP.size;try(with_reducible have bt:=(aj.block _ dm).trans dn)
            refine hK.out _ _ ?_ (fun hHeld=>?_)
            · (try dsimp only);with_reducible assumption
            clear hK K
            try simp only[pT,Act.put]
            refine rA (i:=8) rfl fun K hK=>?_
            go_simp
            refine hK.out _ _ ?_ (fun hHeld=>?_)
            · (try dsimp only);with_reducible assumption
            clear hK K
            try simp only[pT,Act.put]
            refine rA (i:=9) rfl fun K hK=>?_
            go_simp
            refine(ag _ _ ?_ ?_ ?_).mono ?_;(with_reducible first|exact ah|exact hP);(with_reducible first|exact br|exact bt);(with_reducible first|exact bk|exact Nat.le_refl _);rintro e wI ⟨ai,ni,ci,rfl,bp,au,bn,iB,iR,iV⟩;obtain⟨j0,j1⟩:=A0y iB;have j2:=A0b iB 0;have di:=B9u iV;have dl:=bc wI iV (.slice ai ni ci)
            refine hK.out _ _ ?_ (fun hHeld=>?_)
            · (try dsimp only);with_reducible assumption
            clear hK K
            try simp only[pT,Act.put]
            refine tK (i:=10) (v:=?v9) rfl ⟨by rfl,?hy9⟩ ?_
            case hy9=>(intro W hSw;(try dsimp only at hSw);go_simp;first|done|with_reducible rfl)
        all_goals
          all_goals
            try simp only[Act.put,List.setIfInBounds_toArray]
            refine rA (i:=11) rfl fun K hK=>?_
            go_simp
            refine hK.out _ _ ?_ (fun hHeld=>?_)
            · (try dsimp only);with_reducible assumption
            clear hK K
            try simp only[pT,Act.put]
            refine wpAnyH_done (by kernel_rfl) ?_ _
            obtain⟨r0,r1⟩:=A0y iR
            have q0:=A0b iR 0
            have q1:=A0b iR 1
            clear hpl ag ac
            go_wp2_with fail
            refine bodyPost_ret (v:=.agg #[.slice ai ni ci,.slice a1 n1 c1]) (by simp[results,Tryz.results30,go_sem, *]) rfl ?_
            have ak:FrB [w.heap.size+1] wI (wI.setCell ⟨w.heap.size+1,0,none⟩ (.slice ai ni ci)):=A1l iB (by decide)
            have aw:(wI.setCell ⟨w.heap.size+1,0,none⟩ (.slice ai ni ci)).heap[w.heap.size+3]?=some (.cells #[.slice none 0 0,.slice none 0 0] 29 (0,0)):=(Below.heap_setCell wI _ _ _ (show w.heap.size+3≠w.heap.size+1 by omega)).trans iR
            have hf2:=fr2 aw (x0:=.slice ai ni ci) (x1:=.slice a1 n1 c1)
            refine⟨(ai,ni,ci),rfl,bp,?_,?_⟩
            · rw[HQ.out,if_neg (by decide)]
              show Row (ekV (LB d)) _ base (PV.v (ai,ni,ci)) ((vals.filter fun a=>!A0q fs x a.number).take (A1h nu ((vals.filter fun a=>!A0q fs x a.number).map (VL.pl (LB.pl d))))++[(⟨nu,bi,bw,su,(a2,n2,c2),(a3,n3,c3),(a4,n4,c4)⟩:VL (LB d))]++(vals.filter fun a=>!A0q fs x a.number).drop (A1h nu ((vals.filter fun a=>!A0q fs x a.number).map (VL.pl (LB.pl d)))))
              rw[←HR.out,←cg.out]
              have hr1:=Row.frB (p:=(ai,ni,ci)) au.out ak (fun k hk hm=>by rw[List.mem_singleton] at hm;subst hm;exact au.out.ne_blk iB (by show(29:Nat)≠62;decide) (A0u.1 hk))
              exact Row.frB (p:=(ai,ni,ci)) hr1 hf2 (fun k hk hm=>by rw[List.mem_singleton] at hm;subst hm;exact hr1.ne_blk aw (by show(29:Nat)≠62;decide) (A0u.1 hk))
            · exact(bn.out.trans ak (fun _ hi=>hi) (fun i hi=>.inr (by rw[List.mem_singleton] at hi;omega))).trans hf2 (fun _ hi=>hi) (fun i hi=>.inr (by rw[List.mem_singleton] at hi;omega))
      · skip
        go_simp
        refine hK.out _ _ ?_ (fun hHeld=>?_)
        · (try dsimp only);with_reducible assumption
        clear hK K
        try simp only[pT,Act.put]
        refine rB (i:=1) (j:=5) rfl (fun K hK=>?_) rfl fun K hK=>?_
        · skip
          go_simp
          refine hK.out _ _ ?_ (fun hHeld=>?_)
          · (try dsimp only);with_reducible assumption
          clear hK K
          try simp only[pT,Act.put]
          refine rA (i:=5) rfl fun K hK=>?_
          go_simp
          refine hK.out _ _ ?_ (fun hHeld=>?_)
          · (try dsimp only);with_reducible assumption
          clear hK K
          try simp only[pT,Act.put]
          refine rA (i:=6) rfl fun K hK=>?_
          go_simp
          refine(hpl _ ?_).mono ?_;(with_reducible first|exact bg|exact bh);rintro e wP ⟨rfl,aj⟩;have hP:Below w9.heap.size w9 wP:=(by with_reducible first|exact BTr bg aj|exact BTr bh aj);obtain⟨⟨p0,p1⟩,dp⟩:=ac _ hP;have ah:=hP.alloc hP.size (.cells #[.int .i64 nu,.slice a2 n2 c2,.slice a3 n3 c3,.slice a4 n4 c4] 62);have bv:=(ac _ ah).2;obtain⟨dt,dv⟩:=(ac _ ah).1;have br:=heap_alloc_new wP (.cells #[.int .i64 nu,.slice a2 n2 c2,.slice a3 n3 c3,.slice a4 n4 c4] 62);have bk:=hP.size;try(with_reducible have bt:=(aj.block _ dm).trans dn)
          refine hK.out _ _ ?_ (fun hHeld=>?_)
          · (try dsimp only);with_reducible assumption
          clear hK K
          try simp only[pT,Act.put]
          refine rA (i:=9) rfl fun K hK=>?_
          go_simp
          refine(ag _ _ ?_ ?_ ?_).mono ?_;(with_reducible first|exact ah|exact hP);(with_reducible first|exact br|exact bt);(with_reducible first|exact bk|exact Nat.le_refl _);rintro e wI ⟨ai,ni,ci,rfl,bp,au,bn,iB,iR,iV⟩;obtain⟨j0,j1⟩:=A0y iB;have j2:=A0b iB 0;have di:=B9u iV;have dl:=bc wI iV (.slice ai ni ci)
          refine hK.out _ _ ?_ (fun hHeld=>?_)
          · (try dsimp only);with_reducible assumption
          clear hK K
          try simp only[pT,Act.put]
          refine tK (i:=10) (v:=?v15) rfl ⟨by rfl,?hy15⟩ ?_
          case hy15=>(intro W hSw;(try dsimp only at hSw);go_simp;first|done|with_reducible rfl)
          try simp only[Act.put,List.setIfInBounds_toArray]
          refine rA (i:=11) rfl fun K hK=>?_
          go_simp
          refine hK.out _ _ ?_ (fun hHeld=>?_)
          · (try dsimp only);with_reducible assumption
          clear hK K
          try simp only[pT,Act.put]
          refine wpAnyH_done (by kernel_rfl) ?_ _
          obtain⟨r0,r1⟩:=A0y iR
          have q0:=A0b iR 0
          have q1:=A0b iR 1
          clear hpl ag ac
          go_wp2_with fail
          refine bodyPost_ret (v:=.agg #[.slice ai ni ci,.slice a1 n1 c1]) (by simp[results,Tryz.results30,go_sem, *]) rfl ?_
          have ak:FrB [w.heap.size+1] wI (wI.setCell ⟨w.heap.size+1,0,none⟩ (.slice ai ni ci)):=A1l iB (by decide)
          have aw:(wI.setCell ⟨w.heap.size+1,0,none⟩ (.slice ai ni ci)).heap[w.heap.size+3]?=some (.cells #[.slice none 0 0,.slice none 0 0] 29 (0,0)):=(Below.heap_setCell wI _ _ _ (show w.heap.size+3≠w.heap.size+1 by omega)).trans iR
          have hf2:=fr2 aw (x0:=.slice ai ni ci) (x1:=.slice a1 n1 c1)
          refine⟨(ai,ni,ci),rfl,bp,?_,?_⟩
          · rw[HQ.out,if_neg (by decide)]
            show Row (ekV (LB d)) _ base (PV.v (ai,ni,ci)) ((vals.filter fun a=>!A0q fs x a.number).take (A1h nu ((vals.filter fun a=>!A0q fs x a.number).map (VL.pl (LB.pl d))))++[(⟨nu,bi,bw,su,(a2,n2,c2),(a3,n3,c3),(a4,n4,c4)⟩:VL (LB d))]++(vals.filter fun a=>!A0q fs x a.number).drop (A1h nu ((vals.filter fun a=>!A0q fs x a.number).map (VL.pl (LB.pl d)))))
            rw[←HR.out,←cg.out]
            have hr1:=Row.frB (p:=(ai,ni,ci)) au.out ak (fun k hk hm=>by rw[List.mem_singleton] at hm;subst hm;exact au.out.ne_blk iB (by show(29:Nat)≠62;decide) (A0u.1 hk))
            exact Row.frB (p:=(ai,ni,ci)) hr1 hf2 (fun k hk hm=>by rw[List.mem_singleton] at hm;subst hm;exact hr1.ne_blk aw (by show(29:Nat)≠62;decide) (A0u.1 hk))
          · exact(bn.out.trans ak (fun _ hi=>hi) (fun i hi=>.inr (by rw[List.mem_singleton] at hi;omega))).trans hf2 (fun _ hi=>hi) (fun i hi=>.inr (by rw[List.mem_singleton] at hi;omega))
        · skip
          go_simp
          refine hK.out _ _ ?_ (fun hHeld=>?_)
          · (try dsimp only);with_reducible assumption
          clear hK K
          try simp only[pT,Act.put]
          refine rB (i:=1) (j:=6) rfl (fun K hK=>?_) rfl fun K hK=>?_
          rotate_right
          focus
            skip
            go_simp
            refine(hpl _ ?_).mono ?_;(with_reducible first|exact bg|exact bh);rintro e wP ⟨rfl,aj⟩;have hP:Below w9.heap.size w9 wP:=(by with_reducible first|exact BTr bg aj|exact BTr bh aj);obtain⟨⟨p0,p1⟩,dp⟩:=ac _ hP;have ah:=hP.alloc hP.size (.cells #[.int .i64 nu,.slice a2 n2 c2,.slice a3 n3 c3,.slice a4 n4 c4] 62);have bv:=(ac _ ah).2;obtain⟨dt,dv⟩:=(ac _ ah).1;have br:=heap_alloc_new wP (.cells #[.int .i64 nu,.slice a2 n2 c2,.slice a3 n3 c3,.slice a4 n4 c4] 62);have bk:=hP.size;try(with_reducible have bt:=(aj.block _ dm).trans dn)
            refine hK.out _ _ ?_ (fun hHeld=>?_)
            · (try dsimp only);with_reducible assumption
            clear hK K
            try simp only[pT,Act.put]
            refine rA (i:=1) rfl fun K hK=>?_
            go_simp
            refine hK.out _ _ ?_ (fun hHeld=>?_)
            · (try dsimp only);with_reducible assumption
            clear hK K
            try simp only[pT,Act.put]
            refine rA (i:=9) rfl fun K hK=>?_
            go_simp
            refine(ag _ _ ?_ ?_ ?_).mono ?_;(with_reducible first|exact ah|exact hP);(with_reducible first|exact br|exact bt);(with_reducible first|exact bk|exact Nat.le_refl _);rintro e wI ⟨ai,ni,ci,rfl,bp,au,bn,iB,iR,iV⟩;obtain⟨j0,j1⟩:=A0y iB;have j2:=A0b iB 0;have di:=B9u iV;have dl:=bc wI iV (.slice ai ni ci)
            refine hK.out _ _ ?_ (fun hHeld=>?_)
            · (try dsimp only);with_reducible assumption
            clear hK K
            try simp only[pT,Act.put]
            refine tK (i:=10) (v:=?v17) rfl ⟨by rfl,?hy17⟩ ?_
            case hy17=>(intro W hSw;(try dsimp only at hSw);go_simp;first|done|with_reducible rfl)
          rotate_right
          focus
            skip
            go_simp
            refine hK.out _ _ ?_ (fun hHeld=>?_)
            · (try dsimp only);with_reducible assumption
            clear hK K
            try simp only[pT,Act.put]
            refine rA (i:=6) rfl fun K hK=>?_
            go_simp
            refine(hpl _ ?_).mono ?_;(with_reducible first|exact bg|exact bh);rintro e wP ⟨rfl,aj⟩;have hP:Below w9.heap.size w9 wP:=(by with_reducible first|exact BTr bg aj|exact BTr bh aj);obtain⟨⟨p0,p1⟩,dp⟩:=ac _ hP;have ah:=hP.alloc hP.size (.cells #[.int .i64 nu,.slice a2 n2 c2,.slice a3 n3 c3,.slice a4 n4 c4] 62);have bv:=(ac _ ah).2;obtain⟨dt,dv⟩:=(ac _ ah).1;have br:=heap_alloc_new wP (.cells #[.int .i64 nu,.slice a2 n2 c2,.slice a3 n3 c3,.slice a4 n4 c4] 62);have bk:=hP.size;try(with_reducible have bt:=(aj.block _ dm).trans dn)
            refine hK.out _ _ ?_ (fun hHeld=>?_)
            · (try dsimp only);with_reducible assumption
            clear hK K
            try simp only[pT,Act.put]
            refine rA (i:=9) rfl fun K hK=>?_
            go_simp
            refine(ag _ _ ?_ ?_ ?_).mono ?_;(with_reducible first|exact ah|exact hP);(with_reducible first|exact br|exact bt);(with_reducible first|exact bk|exact Nat.le_refl _);rintro e wI ⟨ai,ni,ci,rfl,bp,au,bn,iB,iR,iV⟩;obtain⟨j0,j1⟩:=A0y iB;have j2:=A0b iB 0;have di:=B9u iV;have dl:=bc wI iV (.slice ai ni ci)
            refine hK.out _ _ ?_ (fun hHeld=>?_)
            · (try dsimp only);with_reducible assumption
            clear hK K
            try simp only[pT,Act.put]
            refine tK (i:=10) (v:=?v16) rfl ⟨by rfl,?hy16⟩ ?_
            case hy16=>(intro W hSw;(try dsimp only at hSw);go_simp;first|done|with_reducible rfl)
          all_goals
            try simp only[Act.put,List.setIfInBounds_toArray]
            refine rA (i:=11) rfl fun K hK=>?_
            go_simp
            refine hK.out _ _ ?_ (fun hHeld=>?_)
            · (try dsimp only);with_reducible assumption
            clear hK K
            try simp only[pT,Act.put]
            refine wpAnyH_done (by kernel_rfl) ?_ _
            obtain⟨r0,r1⟩:=A0y iR
            have q0:=A0b iR 0
            have q1:=A0b iR 1
            clear hpl ag ac
            go_wp2_with fail
            refine bodyPost_ret (v:=.agg #[.slice ai ni ci,.slice a1 n1 c1]) (by simp[results,Tryz.results30,go_sem, *]) rfl ?_
            have ak:FrB [w.heap.size+1] wI (wI.setCell ⟨w.heap.size+1,0,none⟩ (.slice ai ni ci)):=A1l iB (by decide)
            have aw:(wI.setCell ⟨w.heap.size+1,0,none⟩ (.slice ai ni ci)).heap[w.heap.size+3]?=some (.cells #[.slice none 0 0,.slice none 0 0] 29 (0,0)):=(Below.heap_setCell wI _ _ _ (show w.heap.size+3≠w.heap.size+1 by omega)).trans iR
            have hf2:=fr2 aw (x0:=.slice ai ni ci) (x1:=.slice a1 n1 c1)
            refine⟨(ai,ni,ci),rfl,bp,?_,?_⟩
            · rw[HQ.out,if_neg (by decide)]
              show Row (ekV (LB d)) _ base (PV.v (ai,ni,ci)) ((vals.filter fun a=>!A0q fs x a.number).take (A1h nu ((vals.filter fun a=>!A0q fs x a.number).map (VL.pl (LB.pl d))))++[(⟨nu,bi,bw,su,(a2,n2,c2),(a3,n3,c3),(a4,n4,c4)⟩:VL (LB d))]++(vals.filter fun a=>!A0q fs x a.number).drop (A1h nu ((vals.filter fun a=>!A0q fs x a.number).map (VL.pl (LB.pl d)))))
              rw[←HR.out,←cg.out]
              have hr1:=Row.frB (p:=(ai,ni,ci)) au.out ak (fun k hk hm=>by rw[List.mem_singleton] at hm;subst hm;exact au.out.ne_blk iB (by show(29:Nat)≠62;decide) (A0u.1 hk))
              exact Row.frB (p:=(ai,ni,ci)) hr1 hf2 (fun k hk hm=>by rw[List.mem_singleton] at hm;subst hm;exact hr1.ne_blk aw (by show(29:Nat)≠62;decide) (A0u.1 hk))
            · exact(bn.out.trans ak (fun _ hi=>hi) (fun i hi=>.inr (by rw[List.mem_singleton] at hi;omega))).trans hf2 (fun _ hi=>hi) (fun i hi=>.inr (by rw[List.mem_singleton] at hi;omega))
end L
end Go.Proofs.YtgaoojpakjjdnaaGreatDoor
