import Derived.Test.YthcomdofaaeihaaGreatDoorV05
import Derived.Test.YthcomdofaaeihaaGreatDoorV03
set_option maxHeartbeats 32000000
set_option maxRecDepth 100000
namespace Go.Proofs.YthcomdofaaeihaaGreatDoor
namespace L
open Go.RowKit
variable{w:World}
def D9l (d:Nat)(w:World)(base:Nat)(fs:List FI)(b:BL (LB d))(y:VL (LB d))(x:FI)(e:Ending)(w':World):Prop:=
  ∃ q:PV,e = .returned (.agg #[q.v,b.q1.v])∧(∀ k∈own1 q,k∈own1 b.q0∨w.heap.size≤k)∧Row (ekV (LB d)) w' base q.v (if xQ x (VL.pl (LB.pl d) y) then b.vals.filter (fun a=>!uX fs x a.nU) else(b.vals.filter fun a=>!uX fs x a.nU).take (vW y.nU ((b.vals.filter fun a=>!uX fs x a.nU).map (VL.pl (LB.pl d))))++[y]++(b.vals.filter fun a=>!uX fs x a.nU).drop (vW y.nU ((b.vals.filter fun a=>!uX fs x a.nU).map (VL.pl (LB.pl d)))))∧FrB (own1 b.q0) w w'
theorem Qf2{P:Prop}(h:P:=by
 clear hK K
 try simp only[zE]
 refine xT 9 rfl (fun K hK=>?_);go_simp;refine(bn _ _ ?_ ?_ ?_).mono ?_;(with_reducible first|exact cj|exact hP);(with_reducible first|exact fy|exact fz);(with_reducible first|exact eo|exact zG _);rintro e wI ⟨ai,ni,ci,rfl,fh,dz,fe,iB,iR,iV⟩;obtain⟨j0,j1⟩:=zO iB;have j2:=zJ iB 0;have ee:=vI iV;refine hK.out _ _ (fun _=>⟨⟨j0,j1⟩,ee⟩) ?_;clear hK K
 try simp only[zE]
 refine tkF 10 rfl ⟨⟨j0,j1⟩,ee⟩ (fun _ h=>h) ?_
 try simp only[zE]
 refine xT 11 rfl (fun K hK=>?_);go_simp;refine hK.out _ _ (fun h=>(h rfl).elim) ?_;clear hK K
 try simp only[zE]
 refine dnL ?_;obtain⟨r0,r1⟩:=zO iR;have q0:=zJ iR 0;have q1:=zJ iR 1;clear hpl bn ac;go_wp2_with fail
 refine bodyPost_ret (v:=.agg #[.slice ai ni ci,.slice a1 n1 c1]) (by simp[results,Tryz.results182,go_sem, *]) rfl ?_;have bl:FrB [w.heap.size+1] wI (wI.setCell ⟨w.heap.size+1,0,none⟩ (.slice ai ni ci)):=uW iB (by decide);have eh:(wI.setCell ⟨w.heap.size+1,0,none⟩ (.slice ai ni ci)).heap[w.heap.size+3]?=some (.cells #[.slice none 0 0,.slice none 0 0] 29 (0,0)):=(zZ wI _ _ _ (show w.heap.size+3≠w.heap.size+1 by omega)).trans iR;have hf2:=fr2 eh (x0:=.slice ai ni ci) (x1:=.slice a1 n1 c1);refine⟨(ai,ni,ci),rfl,fh,?_,?_⟩
 · rw[HQ.out,zC (by decide)];show Row (ekV (LB d)) _ base (PV.v (ai,ni,ci)) ((vals.filter fun a=>!uX fs x a.nU).take (vW nu ((vals.filter fun a=>!uX fs x a.nU).map (VL.pl (LB.pl d))))++[(⟨nu,bi,cw,su,(a2,n2,c2),(a3,n3,c3),(a4,n4,c4)⟩:VL (LB d))]++(vals.filter fun a=>!uX fs x a.nU).drop (vW nu ((vals.filter fun a=>!uX fs x a.nU).map (VL.pl (LB.pl d)))));rw[←HR.out,←ei.out];have hr1:=Row.frB (p:=(ai,ni,ci)) dz.out bl (fun k hk hm=>by rw[zS] at hm;subst hm;exact dz.out.ne_blk iB (by show(29:Nat)≠63;decide) (rZ.1 hk));exact Row.frB (p:=(ai,ni,ci)) hr1 hf2 (fun k hk hm=>by rw[zS] at hm;subst hm;exact hr1.ne_blk eh (by show(29:Nat)≠63;decide) (rZ.1 hk))
 · exact(fe.out.trans bl (fun _ hi=>hi) (fun i hi=>.inr (by rw[zS] at hi;omega))).trans hf2 (fun _ hi=>hi) (fun i hi=>.inr (by rw[zS] at hi;omega))):P:=h
theorem C2v {d:Nat}{base:Nat}{fs:List FI}{vf vb nm:Value}{b:BL (LB d)}{y:VL (LB d)}(h:PutIn d w base fs vf b y)(ii:∃ ao n cap,vb = .slice ao n cap)(ie:∃ s:List UInt8,nm = .string (S s)){k:Nat}{x:FI}(hk:fs.findIdx? (fun f=>decide (f.nU=y.nU))=some k)(hx:fs[k]?=some x)
    (ir:y.bits.length≤140737488355328) (hl2:y.bytes.length≤140737488355328) (iu:y.subs.length≤140737488355328) (iw:I64 y.nU) :
    Calls Tryz.prog 182 #[.agg #[nm,vf,vb],.agg #[b.q0.v,b.q1.v],.agg #[.int .i64 y.nU,y.p1.v,y.p2.v,y.p3.v]] w fun e w'=>D9l d w base fs b y x e w':=by
  obtain⟨af,nf,cf,rfl,Hn,g9⟩:=h.hf.sH;obtain⟨ab,nb,cb,rfl⟩:=ii;obtain⟨s,rfl⟩:=ie;obtain⟨vals,unk,⟨a0,n0,c0⟩,⟨a1,n1,c1⟩⟩:=b;obtain⟨nu,bi,cw,su,⟨a2,n2,c2⟩,⟨a3,n3,c3⟩,⟨a4,n4,c4⟩⟩:=y;obtain⟨W4,fd⟩:=zM ((((w.alloc (.cells #[.string (S s),.slice af nf cf,.slice ab nb cb] 35)).alloc (.cells #[.slice a0 n0 c0,.slice a1 n1 c1] 29)).alloc (.cells #[.int .i64 nu,.slice a2 n2 c2,.slice a3 n3 c3,.slice a4 n4 c4] 63)).alloc (.cells #[.slice none 0 0,.slice none 0 0] 29));obtain⟨b1,b2,b3,b4,bz⟩:=ZK w (.cells #[.string (S s),.slice af nf cf,.slice ab nb cb] 35) (.cells #[.slice a0 n0 c0,.slice a1 n1 c1] 29) (.cells #[.int .i64 nu,.slice a2 n2 c2,.slice a3 n3 c3,.slice a4 n4 c4] 63) (.cells #[.slice none 0 0,.slice none 0 0] 29);have hb4:zB w W4:=by rw[fd.out];exact((((zH _ _).alloc (zG _) _).alloc (by simp) _).alloc (by simp;omega) _).alloc (by simp;omega) _
  rw[←fd.out] at b1 b2 b3 b4 bz;have im:=xD bz;have g7:=xD bz.symm;have dh:=iU (h.hf.bL FAt.sT hb4) ⟨ab,nb,cb,rfl⟩ ⟨s,rfl⟩ nu;have e1:yK (fun f:FI=>decide (f.nU=nu)) fs=(k:Int):=by unfold yK;rw[hk]
  have HX:=zI hx;have iq:(k:Int)<(nf:Int):=by have:=(yG.1 hx).1;have:=Hn.out;omega
  have ip:¬ (k:Int)<0:=by omega
  rw[e1] at dh;unfold PV.v;clear bz e1 hk hx;go_enter Tryz.func182,Tryz.ntmps182;go_wp2_with fail
  rw[←fd.out];refine dh.mono ?_;rintro e w1 ⟨rfl,hb1⟩;have dv:=zP hb4 hb1;have hz1:=hb1.size;obtain⟨gf,off,rfl,hat⟩:=(h.hf.bL FAt.sT dv).get FAt.plain HX.out;obtain⟨s0,s1,s2,s3,s4,s5⟩:=hat.at;obtain⟨t0,t1,t2⟩:=uG ((zN hb1).trans b1);obtain⟨W5,gz,gh,x5,z5⟩:=zV w1 (.cells #[.string (S x.name),.int .i64 x.nU,.int .i64 x.kind,.string (S x.type),.bool x.many,.int .i64 x.cE] 47);have av:=zP hb1 gh;have bk:=zP hb4 av;have c1':=(zN av).trans b1;have f6:=(zN av).trans b2;have f9:=(zN av).trans b3;have gc:=(zN av).trans b4;clear dh b1 b2 b3 b4;go_wp2_with fail
  rw[←gz.out];clear s0 s1 s2 s3 s4 s5 t0 t1 t2 hat;obtain⟨aj,ag⟩:∃ aj:World→Prop,Hid (∀ V,aj V↔∀ k,w.heap.size≤k→k<W5.heap.size→V.heap[k]?=W5.heap[k]?):=⟨fun V=>∀ k,w.heap.size≤k→k<W5.heap.size→V.heap[k]?=W5.heap[k]?,fun _=>Iff.rfl⟩
  have hM:=fun V (hV:aj V)=>uG (((ag.out V).1 hV _ (by omega) (by omega)).trans c1')
  have dt:=fun V (hV:aj V)=>((ag.out V).1 hV _ (by omega) (by omega)).trans f6
  have gg:=fun V (hV:aj V)=>tW (((ag.out V).1 hV _ (by omega) (by omega)).trans x5)
  have hS:=fun V (hV:aj V)=>yH (hM V hV) (gg V hV)
  have far:∀ (V:World) (j:Nat) (z:Value),(V.setCell ⟨w.heap.size+1,0,none⟩ z).cell? ⟨w.heap.size,j,none⟩=V.cell? ⟨w.heap.size,j,none⟩:=fun V j z=>bO V _ _ _ (by simp)
  have dr:∀ (V:World) (j:Nat) (z:Value),(V.setCell ⟨w.heap.size+1,0,none⟩ z).cell? ⟨w1.heap.size,j,none⟩=V.cell? ⟨w1.heap.size,j,none⟩:=fun V j z=>bO V _ _ _ (by simp;omega)
  have g8:∀ V,aj V→∀ z,((V.setCell ⟨w.heap.size+1,0,none⟩ z).cell? ⟨w.heap.size,0,none⟩=some (.string (S s))∧(V.setCell ⟨w.heap.size+1,0,none⟩ z).cell? ⟨w.heap.size,1,none⟩=some (.slice (some ⟨gf,off,none⟩) nf cf)∧(V.setCell ⟨w.heap.size+1,0,none⟩ z).cell? ⟨w.heap.size,2,none⟩=some (.slice ab nb cb))∧(V.setCell ⟨w.heap.size+1,0,none⟩ z).cell? ⟨w1.heap.size,0,none⟩=some (.string (S x.name))∧(V.setCell ⟨w.heap.size+1,0,none⟩ z).cell? ⟨w1.heap.size,1,none⟩=some (.int .i64 x.nU)∧(V.setCell ⟨w.heap.size+1,0,none⟩ z).cell? ⟨w1.heap.size,2,none⟩=some (.int .i64 x.kind)∧(V.setCell ⟨w.heap.size+1,0,none⟩ z).cell? ⟨w1.heap.size,3,none⟩=some (.string (S x.type))∧(V.setCell ⟨w.heap.size+1,0,none⟩ z).cell? ⟨w1.heap.size,4,none⟩=some (.bool x.many)∧(V.setCell ⟨w.heap.size+1,0,none⟩ z).cell? ⟨w1.heap.size,5,none⟩=some (.int .i64 x.cE):=fun V hV z=>by
    simp only[far,dr];exact hS V hV
  have hD:aj W5.drew:=(ag.out _).2 fun _ _ _=>rfl
  have dB:=dt _ hD;obtain⟨d0,d1⟩:=zO dB;have fj:=C5p (w:=W5.drew) (h.hf.bL FAt.sT (zP bk ((zH _ _).drew))) ⟨ab,nb,cb,rfl⟩ ⟨s,rfl⟩ h.fok h.fl x;unfold vFI at fj;have dm:=fun g (hg:(Value.slice a0 n0 c0).ownBlock=some g)=>(h.hb.r0.own g hg).2
  have hdel:∀ (wO:World) (fn:Nat) (ba:Array Value) (K:List Nat),Below W5.heap.size W5.drew wO→(∀ (args:Array Value) (w:World),(callFunc fn args).run Tryz.prog w = .ok (.enter fn args) w)→(∀ k∈K,W5.drew.heap.size≤k∧k<wO.heap.size)→ZG fn ba K wO (uX fs x)→Calls Tryz.prog 215 #[.slice a0 n0 c0,.func (.func fn) #[] ba] wO fun e w'=>∃ (aq:Option Addr) (nq cq:Nat),e = .returned (.slice aq nq cq)∧(Value.slice aq nq cq).ownBlock=(Value.slice a0 n0 c0).ownBlock∧Row (ekV (LB d)) w' base (.slice aq nq cq) (vals.filter fun a=>!uX fs x a.nU)∧FrB (Value.slice a0 n0 c0).ownBlock.toList wO w':=fun wO fn ba K hO dg hK fk=>by
    have bc:=zP bk (zP ((zH W5.heap.size W5).drew) hO);have gl:=h.hb.belowT bc;refine(D3l (d:=d) (PT.sT d) gl.r0 gl.rdT dg fk (fun k hk=>(hK k hk).2) (fun k hk e=>?_) h.num).mono fun e w' ⟨⟨aq,nq,cq⟩,r1,r2,r3,r4⟩=>⟨aq,nq,cq,r1,r2,r3,r4⟩
    have:=dm k e;have h2:W5.heap.size≤k:=(hK k hk).1;omega
  have gp:=fun V (hV:Below W5.heap.size W5.drew V)=>(ag.out V).2 fun k _ h2=>hV.block k h2
  have fu:∀ V V',Below W5.heap.size W5.drew V→FrB (Value.slice a0 n0 c0).ownBlock.toList V V'→aj V':=fun V V' hV hF=>(ag.out V').2 fun k h1 h2=>(hF.blk (nD h2 hV.size) (fun hm=>by
    have:=dm k (by simpa using hm);omega)).trans (hV.block k h2)
  clear far dr hM gg dm g8;obtain⟨⟨m0,m1,m2⟩,k0,k1,k2,k3,k4,k5⟩:=hS _ hD;go_cut [22] from 21 to 27 (fun _ wc=>∃ (wO wQ:World) (aq:Option Addr) (nq cq:Nat),wc=wQ.setCell ⟨w.heap.size+1,0,none⟩ (.slice aq nq cq)∧Below W5.heap.size W5.drew wO∧(Value.slice aq nq cq).ownBlock=(Value.slice a0 n0 c0).ownBlock∧Row (ekV (LB d)) wQ base (.slice aq nq cq) (vals.filter fun a=>!uX fs x a.nU)∧FrB (Value.slice a0 n0 c0).ownBlock.toList wO wQ)
  case first=>
    go_region_with (first|(go_at_call 216;refine fj.mono ?_;rintro e wO ⟨fn,ba,K,rfl,dg,hK,fk,bc⟩;have hO:=gp _ bc;have oB:=dt _ hO;obtain⟨o0,o1⟩:=zO oB)|(go_at_call 215;refine(hdel wO fn ba K bc dg hK fk).mono ?_;rintro e wQ ⟨aq,nq,cq,rfl,fq,hrow,di⟩;have hQ:=fu _ _ bc di;have qB:=dt _ hQ;obtain⟨p0,p1⟩:=zO qB;have p2:=zJ qB 0))
    all_goals
      go_wp2_with fail
      go_meet
    all_goals exact⟨wO,wQ,aq,nq,cq,rfl,bc,fq,hrow,di⟩
  case rest=>
    obtain⟨wO,wQ,aq,nq,cq,hwc,bc,fq,hrow,di⟩:=hcut;have hQ:=fu _ _ bc di;have qB:=dt _ hQ;have iz:=bc.size;have i5:=di.size;have ix:W5.drew.heap.size=W5.heap.size:=rfl;have wB:wc.heap[w.heap.size+1]?=some (.cells #[.slice aq nq cq,.slice a1 n1 c1] 29 (0,0)):=by rw[hwc];exact yO wQ _ 0 _ _ (.slice aq nq cq) qB
    have cg:∀ k,k≠w.heap.size+1→wc.heap[k]?=wQ.heap[k]?:=fun k hk=>by rw[hwc];exact zZ _ _ _ _ hk
    have wV:=(cg (w.heap.size+2) (by omega)).trans (((ag.out _).1 hQ _ (by omega) (by omega)).trans f9);have wR:=(cg (w.heap.size+3) (by omega)).trans (((ag.out _).1 hQ _ (by omega) (by omega)).trans gc);have wX:=(cg w1.heap.size (by omega)).trans (((ag.out _).1 hQ _ (by omega) (by omega)).trans x5);have dw:=zP bk (zP ((zH W5.heap.size W5).drew) bc);have bl:FrB [w.heap.size+1] wQ wc:=by rw[hwc];exact uW qB (by decide)
    have gi:=(FrB.of_below dw:FrB (own1 (a0,n0,c0)) w wO).trans di (fun _ hi=>hi) (fun _ hi=>.inl hi);have dx:=gi.trans bl (fun _ hi=>hi) (fun i hi=>.inr (by rw[zS] at hi;omega));have bh:=OwnV.fr (OT.fr d) h.hy dx (fun k hk hm=>(h.apart k hm).2.2 hk);have eu:own1 (aq,nq,cq)=own1 (a0,n0,c0):=by show(Value.slice aq nq cq).ownBlock.toList=(Value.slice a0 n0 c0).ownBlock.toList;rw[fq]
    have au:Row (ekV (LB d)) wc base (.slice aq nq cq) (vals.filter fun a=>!uX fs x a.nU):=Row.frB (p:=(aq,nq,cq)) hrow bl (fun k hk hm=>by
      rw[eu] at hk;rw[zS] at hm;have:=(h.hb.r0.own1 k hk).2;omega)
    have ah:=B3f (P:=PT d) (w:=wc) x (VL.pl (LB.pl d) ⟨nu,bi,cw,su,(a2,n2,c2),(a3,n3,c3),(a4,n4,c4)⟩) (a1:=a2) (n1:=n2) (c1:=c2) (a2:=a3) (n2:=n3) (c2:=c3) (a3:=a4) (n3:=n4) (c3:=c4) bh.r1.rdU (bh.r2.rdZ bh.r2y) bh.rdT
      (by have:=bh.r1.rdU.len.1;have e:n2=bi.length:=by simpa using this
          omega) (by have:=(bh.r2.rdZ bh.r2y).len.1;have e:n3=cw.length:=by simpa using this
                     omega) (by have:=bh.rdT.len.1;have e:n4=su.length:=by simpa using this
                                omega)
    unfold vFI at ah;obtain⟨e0,e1,e2,e3,e4,e5⟩:=tW wX;obtain⟨v0,v1,v2,v3⟩:=vI wV;have lB:=(zR wB)
    have lR:=(zR wR)
    have lV:=(zR wV)
    have cu:∀ k∈own1 (a0,n0,c0),k<w.heap.size:=fun k hk=>(h.hb.r0.own1 k hk).2
    obtain⟨R,HR⟩:=zM (vals.filter fun a=>!uX fs x a.nU);rw[←HR.out] at au;have gw:Hid (∀ a∈R,I64 a.nU):=fun a ha=>by rw[HR.out] at ha;exact h.num a (sC.1 ha).1
    have HLEN:Hid ((R.length+1)*80≤140737488355328):=(show(R.length+1)*80≤140737488355328 by
      have h1:=h.len;have h2:R.length≤vals.length:=by rw[HR.out];exact List.length_filter_le _ _
      have h3:(vals.length+1)*80≤140737488355328:=h1;omega)
    have hbase:=h.base;have ew:Hid (∀ a∈R,OwnV (ekB d) (OT d) wc base a):=fun a ha=>by
      rw[HR.out] at ha;have ha':=(sC.1 ha).1;exact OwnV.fr (OT.fr d) (h.hb.r0v a ha') dx (fun k hk hm=>(h.apart k hm).2.1 a ha' hk)
    have il:=zI bh;clear h fj hdel gp fu ag hS dt hD dB d0 d1 hrow hwc cg bh hb4 hb1 dv gh av bk c1' f6 f9 gc x5 m0 m1 m2 k0 k1 k2 k3 k4 k5 hQ qB dw bl gi di bc;cases hq:xQ x (VL.pl (LB.pl d) ⟨nu,bi,cw,su,(a2,n2,c2),(a3,n3,c3),(a4,n4,c4)⟩) with
    | true=>
      have HQ:=zI hq;rw[hq] at ah;clear hq;go_wp2_with fail
      refine ah.mono ?_;rintro e w9 ⟨rfl,aw⟩;obtain⟨t0,t1⟩:=zO ((aw.block _ lB).trans wB);have y4:=(aw.block _ lR).trans wR;obtain⟨u0,u1⟩:=zO y4;have f0:=zJ y4 0;have f1:=zJ y4 1;clear ah;go_wp2_with fail
      refine bodyPost_ret (v:=.agg #[.slice aq nq cq,.slice a1 n1 c1]) (by simp[results,Tryz.results182,go_sem, *]) rfl ?_;have gj:=fr2 y4 (x0:=.slice aq nq cq) (x1:=.slice a1 n1 c1);refine⟨(aq,nq,cq),rfl,fun k hk=>.inl (by rw[eu] at hk;exact hk),?_,?_⟩
      · rw[HQ.out,zF rfl];show Row (ekV (LB d)) _ base (PV.v (aq,nq,cq)) (vals.filter fun a=>!uX fs x a.nU);rw[←HR.out];refine Row.frB (p:=(aq,nq,cq)) (au.bL aw) gj (fun k hk hm=>?_);rw[eu] at hk;rw[zS] at hm;have:=cu k hk;omega
      · exact(dx.on aw).trans gj (fun _ hi=>hi) (fun i hi=>.inr (by rw[zS] at hi;omega))
    | false=>
      have HQ:=zI hq;rw[hq] at ah;clear hq;go_wp2_with fail
      refine ah.mono ?_;rintro e w9 ⟨rfl,aw⟩;obtain⟨dl,ei⟩:=zM (vW nu (R.map (VL.pl (LB.pl d))));have d9:dl≤R.length:=by
        rw[ei.out];unfold vW;cases hf:(R.map (VL.pl (LB.pl d))).findIdx? (fun v=>decide (nu<v.nU)) with
        | none=>simp
        | some i=>
          obtain⟨a,ha,_⟩:=SG hf;have:=(yG.1 ha).1;simp at this;show i≤_;omega
      have dy:=dx.on aw;have iy:=aw.size;have nB:=(aw.block _ lB).trans wB;have nV:=(aw.block _ lV).trans wV;have nR:=(aw.block _ lR).trans wR;have bg:=au.bL aw;have dp:Hid (∀ a∈R,OwnV (ekB d) (OT d) w9 base a):=fun a ha=>(ew.out a ha).belowT aw
      have ac:=fun V (hV:zB w9 V)=>yH (zO ((zN hV).trans nB)) (vI ((zN hV).trans nV))
      have hpl:∀ V,zB w9 V→Calls Tryz.prog 218 #[.int .i64 nu,.slice aq nq cq] V fun e w'=>e = .returned (.int .i64 (dl:Int))∧zB V w':=fun V hV=>by
        have ho:OwnL (ekB d) (OT d) V base ⟨R,[],(aq,nq,cq),(none,0,0)⟩:=⟨bg.bL hV,fun a ha=>(dp.out a ha).belowT hV,Row.nil _ _ _,fun _ hr=>by simp at hr⟩
        have:=C0u (PT.sT d) ho.rdT nu;rw[←ei.out] at this;exact this
      have bn:∀ V vb,zB w9 V→V.heap[vb]?=some (.cells #[.int .i64 nu,.slice a2 n2 c2,.slice a3 n3 c3,.slice a4 n4 c4] 63 (0,0))→w9.heap.size≤vb→Calls Tryz.prog 217 #[.slice aq nq cq,.int .i64 (dl:Int),.slice (some ⟨vb,0,none⟩) 1 1] V fun e w'=>∃ (ai:Option Addr) (ni ci:Nat),e = .returned (.slice ai ni ci)∧(∀ k∈own1 (ai,ni,ci),k∈own1 (a0,n0,c0)∨w.heap.size≤k)∧Hid (Row (ekV (LB d)) w' base (.slice ai ni ci) (R.take dl++[(⟨nu,bi,cw,su,(a2,n2,c2),(a3,n3,c3),(a4,n4,c4)⟩:VL (LB d))]++R.drop dl))∧Hid (FrB (own1 (a0,n0,c0)) w w')∧w'.heap[w.heap.size+1]?=some (.cells #[.slice aq nq cq,.slice a1 n1 c1] 29 (0,0))∧w'.heap[w.heap.size+3]?=some (.cells #[.slice none 0 0,.slice none 0 0] 29 (0,0))∧w'.heap[w.heap.size+2]?=some (.cells #[.int .i64 nu,.slice a2 n2 c2,.slice a3 n3 c3,.slice a4 n4 c4] 63 (0,0)):=fun V vb hV hx eo=>by
        have i6:=hV.size;have hown1:(Value.slice aq nq cq).ownBlock.toList=own1 (a0,n0,c0):=eu;have bu:∀ k,w.heap.size≤k→k∉own1 (a0,n0,c0):=fun k hk hm=>by have:=cu k hm;omega
        refine(D8f (a:=(⟨nu,bi,cw,su,(a2,n2,c2),(a3,n3,c3),(a4,n4,c4)⟩:VL (LB d))) (bg.bL hV) rfl hx (fun e=>?_) d9 HLEN.out (by omega)).mono fun e w' ⟨⟨ai,ni,ci⟩,h1,h2,h3,h4⟩=>?_
        · exact bu vb (by omega) (by rw[←hown1,e];simp)
        · rw[hown1] at h4;refine⟨ai,ni,ci,h1,fun k hk=>?_,h3,(dy.on hV).trans h4 (fun _ hi=>hi) (fun _ hi=>.inl hi),(h4.blk (by omega) (bu _ (by omega))).trans ((zN hV).trans nB),(h4.blk (by omega) (bu _ (by omega))).trans ((zN hV).trans nR),(h4.blk (by omega) (bu _ (by omega))).trans ((zN hV).trans nV)⟩;rcases h2 k (rZ.1 hk) with h5|h5
          · left;rw[←hown1,h5];simp
          · right;omega
      have ak:zB w9 w9.drew:=(zH _ _).drew;have io:zB w9 (w9.drew.alloc (.cells #[.int .i64 nu,.slice a2 n2 c2,.slice a3 n3 c3,.slice a4 n4 c4] 63)):=ak.alloc (zG _) _;obtain⟨⟨d0,d1⟩,d2,d3,d4,d5⟩:=ac _ ak;clear ah wB wV wR lB lR lV au dx dy bg nB nV nR e0 e1 e2 e3 e4 e5 v0 v1 v2 v3 d9;go_wp2_with fail
      have dn:zB w9 (w9.alloc (.cells #[.int .i64 nu,.slice a2 n2 c2,.slice a3 n3 c3,.slice a4 n4 c4] 63)).drew:=((zH _ _).alloc (zG _) _).drew;have gu:(w9.alloc (.cells #[.int .i64 nu,.slice a2 n2 c2,.slice a3 n3 c3,.slice a4 n4 c4] 63)).drew.heap[w9.heap.size]?=some (.cells #[.int .i64 nu,.slice a2 n2 c2,.slice a3 n3 c3,.slice a4 n4 c4] 63):=yM w9 _;have gq:w9.heap.size<(w9.alloc (.cells #[.int .i64 nu,.slice a2 n2 c2,.slice a3 n3 c3,.slice a4 n4 c4] 63)).drew.heap.size:=by show w9.heap.size<(w9.alloc (.cells #[.int .i64 nu,.slice a2 n2 c2,.slice a3 n3 c3,.slice a4 n4 c4] 63)).heap.size;simp
      obtain⟨⟨g0,g1⟩,g2,g3,g4,g5⟩:=ac _ dn;clear g2 g3 g4 g5 d2 d3 d4 d5;refine rgL (fun V=>(V.cell? ⟨w.heap.size+1,0,none⟩=some (.slice aq nq cq)∧V.cell? ⟨w.heap.size+1,1,none⟩=some (.slice a1 n1 c1))∧V.cell? ⟨w.heap.size+2,0,none⟩=some (.int .i64 nu)∧V.cell? ⟨w.heap.size+2,1,none⟩=some (.slice a2 n2 c2)∧V.cell? ⟨w.heap.size+2,2,none⟩=some (.slice a3 n3 c3)∧V.cell? ⟨w.heap.size+2,3,none⟩=some (.slice a4 n4 c4)) 11 (ac _ ak) ?_;refine tkF 0 rfl (ac _ ak) (fun _ h=>h) ?_
      try simp only[zE]
      refine tkF 1 rfl (ac _ ak) (fun _ h=>h) ?_
      try simp only[zE]
      refine tkF 2 rfl (ac _ ak) (fun _ h=>h) ?_
      try simp only[zE]
      refine tkF 3 rfl (ac _ ak) (fun _ h=>h) ?_
      try simp only[zE]
      refine tkF 4 rfl (ac _ ak) (fun _ h=>h) ?_
      try simp only[zE]
      refine tkF 5 rfl (ac _ ak) (fun _ h=>h) ?_
      try simp only[zE]
      refine tkF 7 rfl (ac _ ak) (fun _ h=>h) ?_
      try simp only[zE]
      refine aO 6 8 rfl rfl (fun K hK=>?_) (fun K hK=>?_)
      · skip;go_simp;refine(hpl _ ?_).mono ?_;(with_reducible first|exact ak|exact dn);rintro e wP ⟨rfl,df⟩;have hP:zB w9 wP:=(by with_reducible first|exact zP ak df|exact zP dn df);obtain⟨⟨p0,p1⟩,ig⟩:=ac _ hP;have cj:=hP.alloc hP.size (.cells #[.int .i64 nu,.slice a2 n2 c2,.slice a3 n3 c3,.slice a4 n4 c4] 63);have fw:=(ac _ cj).2;obtain⟨ij,ik⟩:=(ac _ cj).1;have fy:=yM wP (.cells #[.int .i64 nu,.slice a2 n2 c2,.slice a3 n3 c3,.slice a4 n4 c4] 63);have eo:=hP.size;try(with_reducible have fz:=(df.block _ gq).trans gu)
        refine hK.out _ _ (fun _=>ac _ hP) ?_;clear hK K
        try simp only[zE]
        refine xT 8 rfl (fun K hK=>?_);go_simp;refine hK.out _ _ (fun _=>ac _ cj) ?_;exact Qf2
      · skip;go_simp;refine hK.out _ _ (fun _=>ac _ dn) ?_;clear hK K
        try simp only[zE]
        refine xT 6 rfl (fun K hK=>?_);go_simp;refine(hpl _ ?_).mono ?_;(with_reducible first|exact ak|exact dn);rintro e wP ⟨rfl,df⟩;have hP:zB w9 wP:=(by with_reducible first|exact zP ak df|exact zP dn df);obtain⟨⟨p0,p1⟩,ig⟩:=ac _ hP;have cj:=hP.alloc hP.size (.cells #[.int .i64 nu,.slice a2 n2 c2,.slice a3 n3 c3,.slice a4 n4 c4] 63);have fw:=(ac _ cj).2;obtain⟨ij,ik⟩:=(ac _ cj).1;have fy:=yM wP (.cells #[.int .i64 nu,.slice a2 n2 c2,.slice a3 n3 c3,.slice a4 n4 c4] 63);have eo:=hP.size;try(with_reducible have fz:=(df.block _ gq).trans gu)
        refine hK.out _ _ (fun _=>ac _ hP) ?_;exact Qf2
end L
end Go.Proofs.YthcomdofaaeihaaGreatDoor
