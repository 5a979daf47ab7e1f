import Derived.Test.YtgaoojpakjjdnaaGreatDoorV17
set_option maxHeartbeats 32000000
set_option maxRecDepth 100000
set_option linter.unusedVariables false
namespace Go.Proofs.YtgaoojpakjjdnaaGreatDoor
namespace L
open Go.RowKit
theorem D0e {w:World}{c:Nat}{nm:List UInt8}{af ab:Option Addr}{nf cf nb cb:Nat}{fs:List FI}(hc:w.heap[c]?=some (.cells #[.string (S nm),.slice af nf cf,.slice ab nb cb] 38 (0,0)))(hf:RdL 6 FAt w (.slice af nf cf) fs)(r:RI){ao:Option Addr}{n cap:Nat}(Hn:Hid (n=r.bytes.length))(hn:n≤9223372036854775807) :
  Calls Tryz.prog 59 #[.agg #[.int .i64 r.number,.int .i64 r.how,.int .u64 (r.bits:Int),.slice ao n cap],.pointer (some ⟨c,0,none⟩)] w fun e w'=>e = .returned (.int .i64 (A8r fs r))∧Below w.heap.size w w':=by
 have c0:w.cell? ⟨c,0,none⟩=some (.string (S nm)):=A0a hc 0 _ rfl
 have c1:w.cell? ⟨c,1,none⟩=some (.slice af nf cf):=A0a hc 1 _ rfl
 have c2:w.cell? ⟨c,2,none⟩=some (.slice ab nb cb):=A0a hc 2 _ rfl
 have ac:c<w.heap.size:=(Array.getElem?_eq_some_iff.1 hc).1
 have hb1:Below w.heap.size w (w.alloc (.cells #[.int .i64 r.number,.int .i64 r.how,.int .u64 (r.bits:Int),.slice ao n cap] 106)):=(Below.refl _ _).alloc (Nat.le_refl _) _
 have hu:=C1l (nm:=nm) (ab:=ab) (nb:=nb) (cb:=cb) (hf.below FAt.stays hb1) r (ao:=ao) (cap:=cap) Hn hn
 go_enter Tryz.func59,Tryz.ntmps59
 go_wp2_with fail
 refine hu.mono ?_
 rintro e w1 ⟨rfl,hb2⟩
 go_wp2
 go_ret
 exact⟨rfl,hb1.trans (hb2.mono hb1.size)⟩
theorem D3x {v:Value}{l:List RI}{w:World}{c:Nat}{nm:List UInt8}{af ab:Option Addr}{nf cf nb cb:Nat}{fs:List FI}(h:RdL 4 RAt w v l)(hc:w.heap[c]?=some (.cells #[.string (S nm),.slice af nf cf,.slice ab nb cb] 38 (0,0)))(hf:RdL 6 FAt w (.slice af nf cf) fs) :
  Calls Tryz.prog 58 #[v,.func (.func 59) #[] #[.pointer (some ⟨c,0,none⟩)]] w fun e w'=>e = .returned (.int .i64 (A1g (A8r fs) l))∧Below w.heap.size w w':=by
 obtain⟨ao,n,cap,rfl,Hn,aw⟩:=h.shape
 obtain⟨R,HR⟩:∃ R,Hid (R=A1g (A8r fs) l):=⟨_,rfl⟩
 rw[←HR.out]
 go_enter Tryz.func58,Tryz.ntmps58
 go_wp2_with fail
 go_loopg [10] n (fun m i wr=>∃ k:Nat,k+m=n∧i = .int .i64 k∧Hid (R=A1g (A8r fs) (l.drop k))∧Below w.heap.size w wr)
 case atStart=>exact⟨0,by omega,rfl,HR,Below.refl _ _⟩
 case round=>
  obtain⟨k,hk,rfl,HK,hb⟩:=hrel
  have ak:=(hb.block c (Array.getElem?_eq_some_iff.1 hc).1).trans hc
  by_cases hlt:k<n
  ·obtain⟨a,Ha⟩:∃ a,Hid (l[k]?=some a):=⟨l[k]'(by rw[←Hn.out];exact hlt),List.getElem?_eq_getElem (by rw[←Hn.out];exact hlt)⟩
   obtain⟨b,off,rfl,hat⟩:=(h.below RAt.stays hb).get RAt.plain Ha.out
   obtain⟨vy,s0,s1,s2,s3,aj⟩:=hat.at
   obtain⟨ay,ny,cy,rfl,au,ba⟩:=aj.shape
   have bc:(k:Int)<(n:Int):=by omega
   obtain⟨W1,ah⟩:∃ W1,Hid (W1=wr.alloc (.cells #[.int .i64 a.number,.int .i64 a.how,.int .u64 (a.bits:Int),.slice ay ny cy] 106)):=⟨_,rfl⟩
   have hb1:Below wr.heap.size wr W1:=by rw[ah.out];exact(Below.refl _ _).alloc (Nat.le_refl _) _
   have ac:Below w.heap.size w W1:=hb.trans (hb1.mono hb.size)
   have ag:=D0e ((hb1.block c (Array.getElem?_eq_some_iff.1 ak).1).trans ak) (hf.below FAt.stays ac) a (ao:=ay) (cap:=cy) au ba
   have hst:=A9c (f:=A8r fs) Ha.out
   generalize hF:A8r fs a=F at ag hst
   by_cases hz:F=0
   ·have HX:Hid (R=A1g (A8r fs) (l.drop (k+1))):=by
     show _=_
     rw[HK.out,hst,if_pos hz]
    have ez:(F != 0)=false:=by simp[hz]
    clear hst hF hz hat aj
    go_wp2_with fail
    rw[←ah.out]
    refine ag.mono ?_
    rintro e w1 ⟨rfl,hb2⟩
    go_wp2_with fail
    go_roundg (n-(k+1))
    case measure=>omega
    case rel=>exact⟨k+1,by omega,by go_num,HX,ac.trans (hb2.mono ac.size)⟩
   ·have HX:Hid (R=F):=by
     show _=_
     rw[HK.out,hst,if_neg hz]
    have ez:(F != 0)=true:=by simpa using hz
    clear hst hF hz hat aj
    go_wp2_with fail
    rw[←ah.out]
    refine ag.mono ?_
    rintro e w1 ⟨rfl,hb2⟩
    go_wp2
    go_ret
    exact⟨by rw[HX.out];rfl,ac.trans (hb2.mono ac.size)⟩
  ·have HX:Hid (R=0):=by
    show _=_
    rw[HK.out]
    exact A7n (by rw[←Hn.out];omega)
   go_wp2
   go_ret
   exact⟨by rw[HX.out];rfl,hb⟩
theorem B3t {d:Nat}{wE:World}{c0 ca B aj:Nat}{ag:Array Value}{g gd:Nat}{b e:Nat→Nat}{nm:List UInt8}{af:Option Addr}{nf cf:Nat}{ab:Option Addr}{nb cb:Nat}{fs:List FI}{f:List UInt8→BI d→Int}{Q:BI d→Prop}{w:World}(au:Below wE.heap.size wE w)(e0:wE.heap.size≤c0)(ea:wE.heap.size≤ca)(ba:CkM c0 ca B aj ag g gd b e w)(hB:B≤w.heap.size)(h0:w.heap[c0]?=some (.cells #[.int .i64 0] 3 (0,0)))(ha:w.heap[ca]?=some (.cells #[.slice none 0 0] 30 (0,0)))
  (hf:RdL 6 FAt wE (.slice af nf cf) fs) (hT:Tabs wE) (aw:∀ (args:Array Value) (w:World),(callFunc aj args).run Tryz.prog w = .ok (.enter aj args) w) (ac:∀ x∈fs,∀ v:VI (BI d),(∀ s∈v.subs,Q s)→A0v x v=false→Deeper d aj ag x.type (f x.type) v.subs wE)
  {l:List (VI (BI d))}{vl:Value}(h:RdL 4 (VAt (BAt d)) wE vl l) (hV:∀ v∈l,VOk Q v) (hlen:l.length*80≤reachBytes) :
  Calls Tryz.prog 56 #[.agg #[.string (S nm),.slice af nf cf,.slice ab nb cb],vl,.slice (some ⟨g,0,none⟩) 8 8] w fun r w'=>r = .returned (.int .i64 (A3y fs f l (0,[])))∧Below wE.heap.size wE w':=by
 obtain⟨W2,ah⟩:∃ W2,Hid (W2=(w.alloc (.cells #[.string (S nm),.slice af nf cf,.slice ab nb cb] 38)).alloc (.cells #[.slice (some ⟨g,0,none⟩) 8 8] 115)):=⟨_,rfl⟩
 have hb2:Below w.heap.size w W2:=by rw[ah.out];exact((Below.refl _ _).alloc (Nat.le_refl _) _).alloc (by simp) _
 have hz2:w.heap.size+2≤W2.heap.size:=by rw[ah.out];simp
 have x1:W2.heap[w.heap.size]?=some (.cells #[.string (S nm),.slice af nf cf,.slice ab nb cb] 38 (0,0)):=by rw[ah.out];exact A0o _ _ _
 have x2:W2.heap[w.heap.size+1]?=some (.cells #[.slice (some ⟨g,0,none⟩) 8 8] 115 (0,0)):=by rw[ah.out];exact A0j _ _ _
 have hc0:c0<w.heap.size:=(Array.getElem?_eq_some_iff.1 h0).1
 have bc:ca<w.heap.size:=(Array.getElem?_eq_some_iff.1 ha).1
 have hm:Mm c0 ca W2.heap.size (0,[]) W2:=⟨(hb2.block c0 hc0).trans h0,⟨_,(hb2.block ca bc).trans ha,Row.nil _ _ _⟩,Nat.le_refl _,by omega,by omega⟩
 have hC:Ctx (d:=d) wE c0 ca W2.heap.size aj ag g gd b e w.heap.size (w.heap.size+1) nm af nf cf ab nb cb fs f Q W2:=
  ⟨au.trans (hb2.mono au.size),e0,ea,(ba.below hb2).mono (by omega),⟨x1,by omega,by omega,by omega⟩,⟨x2,by omega,by omega,by omega⟩,hf,hT,aw,ac⟩
 have ak:=D4d hC hm rfl h hV hlen
 have bg:=A4j
 obtain⟨al,nl,cl,rfl,_,_⟩:=h.shape
 clear hC hm ac hV h ba hf
 go_enter Tryz.func56,Tryz.ntmps56
 go_wp2_with fail
 rw[←ah.out]
 refine ak.mono ?_
 rintro r w3 ⟨rfl,s',hS⟩
 go_wp2
 go_ret
 exact⟨rfl,(au.trans (hb2.mono au.size)).trans (hS.below e0 ea)⟩
def A0r (g:GI)(name:List UInt8):List FI:=match g.msgs.find? (fun m=>decide (m.name=name)) with
 | some m=>m.fields
 | none=>[]
def A1j (g:GI):(d:Nat)→Int→List FI→BI d→Int
 | 0=>fun _ _ b=>nomatch (b:Empty)
 | d+1=>fun k fs b=>if 12<k then 10 else if A3y fs (fun name s=>A1j g d (k+1) (A0r g name) s) (BO.vals b) (0,[])=0 then A1g (A8r fs) (BO.unk b) else A3y fs (fun name s=>A1j g d (k+1) (A0r g name) s) (BO.vals b) (0,[])
theorem A4l (g:GI)(d:Nat)(k:Int)(fs:List FI)(x:BI (d+1)):A1j g (d+1) k fs x=if 12<k then 10 else if A3y fs (fun name s=>A1j g d (k+1) (A0r g name) s) (BO.vals x) (0,[])=0 then A1g (A8r fs) (BO.unk x) else A3y fs (fun name s=>A1j g d (k+1) (A0r g name) s) (BO.vals x) (0,[]):=rfl
def D8f (g:GI):Prop:=∀ m∈g.msgs,∀ x∈m.fields,x.kind=10→∃ m',g.msgs.find? (fun m=>decide (m.name=x.type))=some m'
theorem A8k {β:Type}{x:FI}{v:VI β}(h:A0v x v=false)(hs:v.subs≠[]):x.kind=10:=by
 unfold A0v at h
 by_cases h8:x.kind=8∨x.kind=9
 ·rw[if_pos h8] at h;simp at h;exact absurd h.2 hs
 ·rw[if_neg h8] at h
  by_cases h10:x.kind=10
  ·exact h10
  ·rw[if_neg h10] at h;simp at h;exact absurd h.2 hs
def B5g (g:GI)(d:Nat):Prop:=∀ (w:World) (k:Int) (vm ve:Value) (m:MI) (vf vb v0 v1:Value) (x:BI d),0≤k→k≤100→GRd w vm ve g→m∈g.msgs→RdL 6 FAt w vf m.fields→RdL 1 NAt w vb m.barred→BQ d w v0 v1 x→BOk d x→Tabs w→
 Calls Tryz.prog 25 #[.agg #[vm,ve],.agg #[.string (S m.name),vf,vb],.agg #[v0,v1],.int .i64 k] w fun r w'=>r = .returned (.int .i64 (A1j g d k m.fields x))∧Below w.heap.size w w'
theorem D0d {g:GI}(au:D8f g){d:Nat}(ih:B5g g d):B5g g (d+1):=by
 intro w k vm ve m vf vb v0 v1 x bv cj hg hm hf hb hq bw hT
 obtain⟨am,nm,cm,rfl,_,_⟩:=hg.1.shape
 obtain⟨ae,ne,ce,rfl,_,_⟩:=hg.2.shape
 obtain⟨af,nf,cf,rfl,_,_⟩:=hf.shape
 obtain⟨ab,nb,cb,rfl,_,_⟩:=hb.shape
 have hq:BRd d w v0 v1 x:=hq
 obtain⟨a0,n0,c0,a1,n1,c1,rfl,rfl⟩:=hq.shape
 obtain⟨hV,hlen,_,_⟩:=bw
 obtain⟨N,HN⟩:∃ N,Hid (N=w.heap.size):=⟨_,rfl⟩
 obtain⟨W4,ag⟩:∃ W4,Hid (W4=(((w.alloc (.cells #[.slice am nm cm,.slice ae ne ce] 25)).alloc (.cells #[.string (S m.name),.slice af nf cf,.slice ab nb cb] 38)).alloc (.cells #[.slice a0 n0 c0,.slice a1 n1 c1] 29)).alloc (.cells #[.int .i64 k] 3)):=⟨_,rfl⟩
 have hb4:Below w.heap.size w W4:=by rw[ag.out];exact((((Below.refl _ _).alloc (Nat.le_refl _) _).alloc (by simp) _).alloc (by first|(simp;omega)|simp) _).alloc (by first|(simp;omega)|simp) _
 have z4:w.heap.size+4≤W4.heap.size:=by rw[ag.out];simp
 have x0:W4.heap[w.heap.size]?=some (.cells #[.slice am nm cm,.slice ae ne ce] 25 (0,0)):=by
  rw[ag.out,Below.heap_alloc _ _ _ (by first|(simp;omega)|simp),Below.heap_alloc _ _ _ (by first|(simp;omega)|simp)];exact A0o _ _ _
 have x1:W4.heap[w.heap.size+1]?=some (.cells #[.string (S m.name),.slice af nf cf,.slice ab nb cb] 38 (0,0)):=by
  rw[ag.out,Below.heap_alloc _ _ _ (by first|(simp;omega)|simp),Below.heap_alloc _ _ _ (by first|(simp;omega)|simp)];exact A0j _ _ _
 have x2:W4.heap[w.heap.size+2]?=some (.cells #[.slice a0 n0 c0,.slice a1 n1 c1] 29 (0,0)):=by
  rw[ag.out,Below.heap_alloc _ _ _ (by first|(simp;omega)|simp)]
  have:=heap_alloc_new ((w.alloc (.cells #[.slice am nm cm,.slice ae ne ce] 25)).alloc (.cells #[.string (S m.name),.slice af nf cf,.slice ab nb cb] 38)) (.cells #[.slice a0 n0 c0,.slice a1 n1 c1] 29)
  simpa using this
 have x3:W4.heap[w.heap.size+3]?=some (.cells #[.int .i64 k] 3 (0,0)):=by
  have:=heap_alloc_new (((w.alloc (.cells #[.slice am nm cm,.slice ae ne ce] 25)).alloc (.cells #[.string (S m.name),.slice af nf cf,.slice ab nb cb] 38)).alloc (.cells #[.slice a0 n0 c0,.slice a1 n1 c1] 29)) (.cells #[.int .i64 k] 3)
  rw[ag.out]
  simpa using this
 by_cases hk:12<k
 ·have HR:Hid (A1j g (d+1) k m.fields x=10):=by show _=_;rw[A4l,if_pos hk]
  clear ih hV hq hg hf hb
  go_enter Tryz.func25,Tryz.ntmps25
  go_wp2
  go_ret
  rw[←ag.out]
  exact⟨by rw[HR.out];rfl,hb4⟩
 ·obtain⟨f,Hf⟩:∃ f:List UInt8→BI d→Int,Hid (f=fun name s=>A1j g d (k+1) (A0r g name) s):=⟨_,rfl⟩
  have HE:Hid (A1j g (d+1) k m.fields x=if A3y m.fields f (BO.vals x) (0,[])=0 then A1g (A8r m.fields) (BO.unk x) else A3y m.fields f (BO.vals x) (0,[])):=by
   show _=_
   rw[Hf.out,A4l,if_neg hk]
  have ah:∀ y∈m.fields,∀ v:VI (BI d),(∀ s∈v.subs,BOk d s)→A0v y v=false→Deeper d 55 #[.pointer (some ⟨w.heap.size,0,none⟩),.pointer (some ⟨w.heap.size+3,0,none⟩)] y.type (f y.type) v.subs W4:=by
   intro y hy v hQ ho W hW s hs u0 u1 bt
   have ak:=A8k ho (fun e=>by rw[e] at hs;cases hs)
   obtain⟨m',br⟩:=au m hm y hy ak
   rcases A3l (fun m:MI=>decide (m.name=y.type)) g.msgs with⟨_,h2⟩|⟨i,m2,h1,h2,h3,_⟩
   ·rw[h2] at br;cases br
   ·have bg:Below w.heap.size w W:=BTd hb4 hW
    have bu:A0r g y.type=m2.fields:=by unfold A0r;rw[h3]
    obtain⟨b0,p0,q0,b1,p1,q1,rfl,rfl⟩:=bt.shape
    refine(C7d (R:=f y.type s) ((hW.block _ (by omega)).trans x0) ((hW.block _ (by omega)).trans x3) (hg.below bg) h1 h2 bv (by omega) fun vf vb hf' hb' V ac=>?_)
    rw[Hf.out]
    show Calls _ _ _ _ fun e V'=>e = .returned (.int .i64 (A1j g d (k+1) (A0r g y.type) s))∧Below V.heap.size V V'
    rw[bu]
    exact ih V (k+1) _ _ m2 vf vb _ _ s (by omega) (by omega) (hg.below (BTd bg ac)) (List.mem_of_getElem? h2) (hf'.below FAt.stays ac) (hb'.below NAt.stays ac) (bt.below ac) (hQ s hs) (hT.below (BTd bg ac))
  have hD:Below W4.heap.size W4 W4.drew:=(Below.refl _ _).drew
  have bp:=C3x 55 #[.pointer (some ⟨w.heap.size,0,none⟩),.pointer (some ⟨w.heap.size+3,0,none⟩)] W4.drew
  have bn:∀ V,Below W4.heap.size W4 V→V.cell? ⟨w.heap.size+1,0,none⟩=some (.string (S m.name))∧V.cell? ⟨w.heap.size+1,1,none⟩=some (.slice af nf cf)∧V.cell? ⟨w.heap.size+1,2,none⟩=some (.slice ab nb cb)∧V.cell? ⟨w.heap.size+2,0,none⟩=some (.slice a0 n0 c0)∧V.cell? ⟨w.heap.size+2,1,none⟩=some (.slice a1 n1 c1):=fun V ac=>⟨A0c ac (A0a x1 0 _ rfl),A0c ac (A0a x1 1 _ rfl),A0c ac (A0a x1 2 _ rfl),A0c ac (A0a x2 0 _ rfl),A0c ac (A0a x2 1 _ rfl)⟩
  obtain⟨t0,t1,t2,t3,t4⟩:=bn W4.drew hD
  obtain⟨E,bc⟩:∃ E,Hid (E=A3y m.fields f (BO.vals x) (0,[])):=⟨_,rfl⟩
  have ba:∀ w1,Below W4.drew.heap.size W4.drew w1→Hid (w1.heap.size=W4.drew.heap.size+14)→CkM (W4.drew.heap.size+1) (W4.drew.heap.size+10) (W4.drew.heap.size+14) 55 #[.pointer (some ⟨w.heap.size,0,none⟩),.pointer (some ⟨w.heap.size+3,0,none⟩)] (W4.drew.heap.size+13) W4.drew.heap.size (bF W4.drew.heap.size) (eF W4.drew.heap.size) w1→w1.heap[W4.drew.heap.size+1]?=some (.cells #[.int .i64 0] 3 (0,0))→w1.heap[W4.drew.heap.size+10]?=some (.cells #[.slice none 0 0] 30 (0,0))→
    Calls Tryz.prog 56 #[.agg #[.string (S m.name),.slice af nf cf,.slice ab nb cb],.slice a0 n0 c0,.slice (some ⟨W4.drew.heap.size+13,0,none⟩) 8 8] w1 fun r w'=>r = .returned (.int .i64 E)∧Below W4.heap.size W4 w':=by
   intro w1 hb1 hz1 bk h0 ha
   rw[bc.out]
   have hE:W4.heap.size≤W4.drew.heap.size:=hD.size
   have bh:Below W4.heap.size W4 w1:=BTd hD hb1
   exact B3t (Q:=BOk d) bh (by omega) (by omega) bk (by rw[hz1.out];exact Nat.le_refl _) h0 ha (hf.below FAt.stays hb4) (hT.below hb4) (enters_of Tryz.func55 (by kernel_rfl) rfl) ah (hq.below hb4).1 hV hlen
  have hkb:decide ((12:Int)<k)=false:=decide_eq_false hk
  have cu:=A4j
  have aw:∀ w2,Below W4.heap.size W4 w2→Calls Tryz.prog 58 #[.slice a1 n1 c1,.func (.func 59) #[] #[.pointer (some ⟨w.heap.size+1,0,none⟩)]] w2 fun e w'=>e = .returned (.int .i64 (A1g (A8r m.fields) (BO.unk x)))∧Below w2.heap.size w2 w':=fun w2 hb2=>D3x (hq.below (BTd hb4 hb2)).2 ((hb2.block _ (by omega)).trans x1) (hf.below FAt.stays (BTd hb4 hb2))
  rw[HE.out,←bc.out]
  obtain⟨U,HU⟩:∃ U,Hid (U=A1g (A8r m.fields) (BO.unk x)):=⟨_,rfl⟩
  rw[←HU.out] at aw ⊢
  obtain⟨bq,aj⟩:∃ bq,Hid (bq=if E=0 then U else E):=⟨_,rfl⟩
  rw[←aj.out]
  clear ih ah hV hk hg hf hb hq hT au HE bc
  go_enter Tryz.func25,Tryz.ntmps25
  go_wp2_with fail
  rw[←ag.out]
  go_region_with (first
   | (go_at_call 57;refine bp.mono ?_;rintro r w1 ⟨rfl,hb1,hz1,bk,h0,ha⟩;obtain⟨u0,u1,u2,u3,u4⟩:=bn w1 (BTd hD hb1))
   | (go_at_call 56;refine(ba w1 hb1 hz1 bk h0 ha).mono ?_;rintro r w2 ⟨rfl,hb2⟩))
  all_goals
   obtain⟨s0,s1,s2,s3,s4⟩:=bn w2 hb2
   have cg:=aw w2 hb2
   by_cases hE0:E=0
   ·have ez:(E != 0)=false:=by simp[hE0]
    have HZ:Hid (E=0):=hE0
    clear hE0
    go_wp2_with fail
    refine cg.mono ?_
    rintro r w3 ⟨rfl,hb3⟩
    go_wp2
    go_ret
    exact⟨by rw[aj.out,if_pos HZ.out];rfl,BTd hb4 (BTd hb2 hb3)⟩
   ·have ez:(E != 0)=true:=by simpa using hE0
    have HZ:Hid (E≠0):=hE0
    clear hE0
    go_wp2
    go_ret
    exact⟨by rw[aj.out,if_neg HZ.out];rfl,BTd hb4 hb2⟩
theorem C1u {g:GI}(ac:D8f g):∀ d,B5g g d
 | 0=>fun _ _ _ _ _ _ _ _ _ x=>nomatch (x:Empty)
 | d+1=>D0d ac (C1u ac d)
def B8m (x:FI)(s:Mem):Mem:=⟨A6t x.name s.names,A6t x.number s.nums,x.choice,max s.begun x.choice⟩
def A9t (g:GI)(bar:List Int)(x:FI)(s:Mem):Bool:=!(!A7d x.name||decide (x.name∈s.names))&&(C6g x.number&&(!(decide (x.number∈bar)||decide (x.number∈s.nums))&&(!(decide (x.kind<1)||decide (10<x.kind))&&(B5v g x&&(!(B8k x||(decide (0<x.choice)&&x.many))&&!B9n s.last s.begun x.choice)))))
theorem B5a {g:GI}{ac:List Int}{x:FI}{s:Mem}(h:A9t g ac x s=true):A1e (A1n g ac) 0 A4s x s=(none,B8m x s):=by
 simp only[A9t,Bool.and_eq_true,Bool.not_eq_true'] at h
 obtain⟨h0,h1,h2,h3,h4,h5,h6⟩:=h
 simp[A4s,A1e,A1n,h0,h1,h2,h3,h4,h5,h6,B8m]
theorem C5r {g:GI}{ac:List Int}{x:FI}{s:Mem}(h:A9t g ac x s=false):∃ e s',A1e (A1n g ac) 0 A4s x s=(some e,s')∧e≠0:=by
 unfold A9t at h
 cases h0:(!A7d x.name||decide (x.name∈s.names)) with
 | true=>exact⟨7,_,by simp only[A4s,A1e,A1n];rw[h0];rfl,by decide⟩
 | false=>
  cases h1:C6g x.number with
  | false=>exact⟨3,_,by simp only[A4s,A1e,A1n];rw[h0,h1];rfl,by decide⟩
  | true=>
   cases h2:(decide (x.number∈ac)||decide (x.number∈s.nums)) with
   | true=>exact⟨8,_,by simp only[A4s,A1e,A1n];rw[h0,h1,h2];rfl,by decide⟩
   | false=>
    cases h3:(decide (x.kind<1)||decide (10<x.kind)) with
    | true=>exact⟨1,_,by simp only[A4s,A1e,A1n];rw[h0,h1,h2,h3];rfl,by decide⟩
    | false=>
     cases h4:B5v g x with
     | false=>exact⟨6,_,by simp only[A4s,A1e,A1n];rw[h0,h1,h2,h3,h4];rfl,by decide⟩
     | true=>
      cases h5:(B8k x||(decide (0<x.choice)&&x.many)) with
      | true=>exact⟨8,_,by simp only[A4s,A1e,A1n];rw[h0,h1,h2,h3,h4,h5];rfl,by decide⟩
      | false=>
       cases h6:B9n s.last s.begun x.choice with
       | true=>exact⟨2,_,by simp only[A4s,A1e,A1n];rw[h0,h1,h2,h3,h4,h5,h6];rfl,by decide⟩
       | false=>rw[h0,h1,h2,h3,h4,h5,h6] at h;cases h
theorem A7p {g:GI}{ac:List Int}{i:Nat}{x:FI}{l:List FI}{s:Mem}(h:(A0i (A1n g ac) A4s i (x::l) s).1=0):A9t g ac x s=true∧(A0i (A1n g ac) A4s (i+1) l (B8m x s)).1=0:=by
 cases hp:A9t g ac x s with
 | true=>
  rw[A0i,B5a hp] at h
  exact⟨rfl,h⟩
 | false=>
  obtain⟨e,s',h1,h2⟩:=C5r hp
  rw[A0i,h1] at h
  exact absurd h h2
theorem A8t {α:Type}[DecidableEq α](x : α)(l:List α):x∈A6t x l∧∀ y∈l,y∈A6t x l:=by
 unfold A6t
 split
 ·rename_i h;exact⟨h,fun y hy=>hy⟩
 ·exact⟨by simp,fun y hy=>by simp[hy]⟩
theorem D3e {g:GI}{ac:List Int}{x:FI}{s:Mem}(h:A9t g ac x s=true):C6g x.number=true∧x.number∉ac∧x.number∉s.nums:=by
 simp only[A9t,Bool.and_eq_true,Bool.not_eq_true',Bool.or_eq_false_iff,decide_eq_false_iff_not] at h
 exact⟨h.2.1,h.2.2.1.1,h.2.2.1.2⟩
theorem B7v {g:GI}{ac:List Int}:∀ (l:List FI) (i:Nat) (s:Mem),(A0i (A1n g ac) A4s i l s).1=0→∀ y∈l,C6g y.number=true∧y.number∉ac∧y.number∉s.nums
 | [],_,_,_,_,hy=>by simp at hy
 | x::l,i,s,h,y,hy=>by
  obtain⟨h1,h2⟩:=A7p h
  rcases List.mem_cons.1 hy with rfl|hy
  ·exact D3e h1
  ·obtain⟨a,b,c⟩:=B7v l _ _ h2 y hy
   exact⟨a,b,fun e=>c ((A8t x.number s.nums).2 _ e)⟩
theorem B8i {g:GI}:∀ (l:List MI) (i:Nat) (q:Int×Nat),A4g g i l=some q→q.1≠0
 | [],_,_,h=>by cases h
 | m::l,i,q,h=>by
  rw[A4g] at h
  split at h
  ·rename_i h0;cases h;exact h0
  ·exact B8i l _ q h
theorem B8h {g:GI}:∀ (l:List MI) (i:Nat),A4g g i l=none→∀ m∈l,A3s g m=0
 | [],_,_,_,hm=>by simp at hm
 | x::l,i,h,m,hm=>by
  rw[A4g] at h
  split at h
  ·cases h
  ·rename_i h0
   rcases List.mem_cons.1 hm with rfl|hm
   ·simpa using h0
   ·exact B8h l _ h m hm
theorem A5f {g:GI}(h:(wrongL g).1=0):¬ 10<g.msgs.length+g.enums.length∧(A0i B6w [7] 0 (A5y g) []).1=0∧∀ m∈g.msgs,A3s g m=0:=by
 unfold wrongL at h
 split at h
 ·cases h
 ·rename_i h1
  split at h
  ·rename_i h2;exact absurd h h2
  ·rename_i h2
   refine⟨h1,by simpa using h2,?_⟩
   cases hm:A4g g 0 g.msgs with
   | some q=>rw[hm] at h;exact absurd h (B8i _ _ q hm)
   | none=>exact B8h _ _ hm
theorem B4y {g:GI}{m:MI}(h:A3s g m=0):m.fields.length≤16∧m.barred.length≤16∧m.barred.any B4i=false∧(A0i (A1n g m.barred) A4s 0 m.fields C6h).1=0:=by
 unfold A3s at h
 split at h
 ·cases h
 ·rename_i h1
  split at h
  ·cases h
  ·rename_i h2
   exact⟨by omega,by omega,by simpa using h2,h⟩
theorem B0p {g:GI}{ac:List Int}:∀ (l:List FI) (i:Nat) (s:Mem),(A0i (A1n g ac) A4s i l s).1=0→∀ y∈l,∃ s,A9t g ac y s=true
 | [],_,_,_,_,hy=>by simp at hy
 | x::l,i,s,h,y,hy=>by
  obtain⟨h1,h2⟩:=A7p h
  rcases List.mem_cons.1 hy with rfl|hy
  ·exact⟨s,h1⟩
  ·exact B0p l _ _ h2 y hy
theorem A3x {g:GI}(hr:(wrongL g).1=0):D8f g:=by
 intro m hm x hx hk
 obtain⟨s,hs⟩:=B0p _ _ _ (B4y ((A5f hr).2.2 m hm)).2.2.2 x hx
 simp only[A9t,Bool.and_eq_true] at hs
 have hh:B5v g x=true:=hs.2.2.2.2.1
 unfold B5v at hh
 rw[if_pos hk] at hh
 rcases A3l (fun m:MI=>decide (m.name=x.type)) g.msgs with⟨h1,_⟩|⟨_,m',_,_,h3,_⟩
 ·rw[h1] at hh;simp at hh
 ·exact⟨m',h3⟩
def A2p (g:GI)(d:Nat)(msg:Int)(x:BI (d+1)):Int:=
 if (wrongL g).1≠0 then(wrongL g).1
 else if msg<0∨(g.msgs.length:Int)≤msg then 6
 else match g.msgs[msg.toNat]? with
  | some m=>A1j g (d+1) 1 m.fields x
  | none=>6
theorem B5j {w:World}{g:GI}{d:Nat}{vm ve v0 v1:Value}{msg:Int}{x:BI (d+1)}(hg:GRd w vm ve g)(bv:g.msgs.length≤140737488355328)(bw:g.enums.length≤140737488355328)(bg:Fits g)(hq:BRd d w v0 v1 x)(bq:BOk (d+1) x)(hT:Tabs w)(cj : -9223372036854775808≤msg)(cu:msg≤9223372036854775807) :
  Calls Tryz.prog 12 #[.agg #[vm,ve],.int .i64 msg,.agg #[v0,v1]] w fun r w'=>r = .returned (.int .i64 (A2p g d msg x))∧Below w.heap.size w w':=by
 obtain⟨am,nm,cm,rfl,bn,_⟩:=hg.1.shape
 obtain⟨ae,ne,ce,rfl,_,_⟩:=hg.2.shape
 obtain⟨a0,n0,c0,a1,n1,c1,rfl,rfl⟩:=hq.shape
 obtain⟨W2,ah⟩:∃ W2,Hid (W2=(w.alloc (.cells #[.slice am nm cm,.slice ae ne ce] 25)).alloc (.cells #[.slice a0 n0 c0,.slice a1 n1 c1] 29)):=⟨_,rfl⟩
 have hb2:Below w.heap.size w W2:=by rw[ah.out];exact((Below.refl _ _).alloc (Nat.le_refl _) _).alloc (by simp) _
 have z2:w.heap.size+2≤W2.heap.size:=by rw[ah.out];simp
 have x1:W2.heap[w.heap.size]?=some (.cells #[.slice am nm cm,.slice ae ne ce] 25 (0,0)):=by rw[ah.out];exact A0o _ _ _
 have x2:W2.heap[w.heap.size+1]?=some (.cells #[.slice a0 n0 c0,.slice a1 n1 c1] 29 (0,0)):=by rw[ah.out];exact A0j _ _ _
 have hwr:=B1z (hg.below hb2) bv bw bg
 obtain⟨Q,HQ⟩:∃ Q,Hid (Q=(wrongL g).1):=⟨_,rfl⟩
 obtain⟨QI,br⟩:∃ QI,Hid (QI=(((wrongL g).2:Nat):Int)):=⟨_,rfl⟩
 rw[←HQ.out,←br.out] at hwr
 have bc:∀ V,Below W2.heap.size W2 V→V.cell? ⟨w.heap.size,0,none⟩=some (.slice am nm cm)∧V.cell? ⟨w.heap.size,1,none⟩=some (.slice ae ne ce)∧V.cell? ⟨w.heap.size+1,0,none⟩=some (.slice a0 n0 c0)∧V.cell? ⟨w.heap.size+1,1,none⟩=some (.slice a1 n1 c1):=fun V hV=>⟨A0c hV (A0a x1 0 _ rfl),A0c hV (A0a x1 1 _ rfl),A0c hV (A0a x2 0 _ rfl),A0c hV (A0a x2 1 _ rfl)⟩
 obtain⟨aj,ac⟩:∃ aj,Hid (aj=A2p g d msg x):=⟨_,rfl⟩
 rw[←ac.out]
 by_cases hQ0:Q=0
 ·have ez:(Q != 0)=false:=by simp[hQ0]
  have hr:(wrongL g).1=0:=by rw[←HQ.out];exact hQ0
  have HZ:Hid (Q=0):=hQ0
  clear hQ0
  by_cases hlo:msg<0
  ·have HA:Hid (aj=6):=by show _=_;rw[ac.out,A2p,if_neg (by rw[hr];simp),if_pos (.inl hlo)]
   go_enter Tryz.func12,Tryz.ntmps12
   go_wp2_with fail
   rw[←ah.out]
   refine hwr.mono ?_
   rintro r w3 ⟨rfl,hb3⟩
   go_wp2
   go_ret
   exact⟨by rw[HA.out];rfl,(BTd hb2 hb3).alloc (BTd hb2 hb3).size _⟩
  ·have au:¬ (msg<0):=hlo
   by_cases bh:(nm:Int)≤msg
   ·have HA:Hid (aj=6):=by show _=_;rw[ac.out,A2p,if_neg (by rw[hr];simp),if_pos (.inr (by rw[←bn.out];exact bh))]
    go_enter Tryz.func12,Tryz.ntmps12
    go_wp2_with fail
    rw[←ah.out]
    refine hwr.mono ?_
    rintro r w3 ⟨rfl,hb3⟩
    obtain⟨t0,t1,t2,t3⟩:=bc w3 hb3
    have hs3:w.heap.size<w3.heap.size:=Nat.lt_of_lt_of_le (by omega) hb3.size
    go_wp2
    go_ret
    exact⟨by rw[HA.out];rfl,(BTd hb2 hb3).alloc (BTd hb2 hb3).size _⟩
   ·have aw:msg.toNat<g.msgs.length:=by rw[←bn.out];omega
    obtain⟨i,rfl⟩:∃ i:Nat,msg=(i:Int):=⟨msg.toNat,by omega⟩
    have aw:i<g.msgs.length:=aw
    obtain⟨m,hm⟩:∃ m,g.msgs[i]?=some m:=⟨g.msgs[i],List.getElem?_eq_getElem aw⟩
    obtain⟨b,off,rfl,hat⟩:=hg.1.get MAt.plain hm
    obtain⟨vf,vb,t0,t1,t2,hf,hbr⟩:=hat.at
    obtain⟨af,nf,bp,rfl,_,_⟩:=hf.shape
    obtain⟨ab,nb,cb,rfl,_,_⟩:=hbr.shape
    have HA:Hid (aj=A1j g (d+1) 1 m.fields x):=by
     show _=_
     rw[ac.out,A2p,if_neg (by rw[hr];simp),if_neg (by omega)]
     show(match g.msgs[((i:Nat):Int).toNat]? with|some m=>A1j g (d+1) 1 m.fields x|none=>6)=_
     rw[Int.toNat_natCast,hm]
    have ak:∀ V,Below W2.heap.size W2 V→Calls Tryz.prog 25 #[.agg #[.slice (some ⟨b,off,none⟩) nm cm,.slice ae ne ce],.agg #[.string (S m.name),.slice af nf bp,.slice ab nb cb],.agg #[.slice a0 n0 c0,.slice a1 n1 c1],.int .i64 1] V fun r w'=>r = .returned (.int .i64 aj)∧Below V.heap.size V w':=by
     intro V hV
     have ag:=BTd hb2 hV
     rw[HA.out]
     exact C1u (A3x hr) (d+1) V 1 _ _ m _ _ _ _ x (by omega) (by omega) (hg.below ag) (List.mem_of_getElem? hm) (hf.below FAt.stays ag) (hbr.below NAt.stays ag) (hq.below ag) bq (hT.below ag)
    have hcm:∀ V,Below W2.heap.size W2 V→V.cell? ⟨b,off+i*3,none⟩=some (.string (S m.name))∧V.cell? ⟨b,off+i*3+1,none⟩=some (.slice af nf bp)∧V.cell? ⟨b,off+i*3+2,none⟩=some (.slice ab nb cb):=fun V hV=>
     have ag:=BTd hb2 hV
     ⟨A0c ag t0,A0c ag t1,A0c ag t2⟩
    have cg:(i:Int)<(nm:Int):=by omega
    clear hg hq hf hbr hat t0 t1 t2 hT bq hm hlo hr aw au bh
    have au:¬ ((i:Int)<0):=by omega
    have bh:¬ ((nm:Int)≤(i:Int)):=by omega
    go_enter Tryz.func12,Tryz.ntmps12
    go_wp2_with fail
    rw[←ah.out]
    refine hwr.mono ?_
    rintro r w3 ⟨rfl,hb3⟩
    obtain⟨W4,bk⟩:∃ W4,Hid (W4=w3.alloc (.cells #[.int .i64 Q,.int .i64 QI] 50)):=⟨_,rfl⟩
    have ba:Below w3.heap.size w3 W4:=by rw[bk.out];exact(Below.refl _ _).alloc (Nat.le_refl _) _
    have hb4:Below W2.heap.size W2 W4:=BTd hb3 ba
    have hs3:w.heap.size<w3.heap.size:=Nat.lt_of_lt_of_le (by omega) hb3.size
    obtain⟨t0,t1,t2,t3⟩:=bc w3 hb3
    have hD:=BTd hb4 ((Below.refl W4.heap.size W4).drew)
    obtain⟨s0,s1,s2,s3⟩:=bc _ hD
    obtain⟨p0,p1,p2⟩:=hcm _ hD
    have bu:=ak _ hD
    go_wp2_with fail
    rw[←bk.out]
    go_region_with (refine bu.mono ?_;rintro r w5 ⟨rfl,bt⟩)
    all_goals
     go_wp2
     go_ret
     exact⟨rfl,BTd hb2 (BTd hD bt)⟩
 ·have ez:(Q != 0)=true:=by simpa using hQ0
  have HA:Hid (aj=Q):=by show _=_;rw[ac.out,A2p,if_pos (by rw[←HQ.out];exact hQ0),HQ.out]
  clear hQ0
  go_enter Tryz.func12,Tryz.ntmps12
  go_wp2_with fail
  rw[←ah.out]
  refine hwr.mono ?_
  rintro r w3 ⟨rfl,hb3⟩
  go_wp2
  go_ret
  exact⟨by rw[HA.out];rfl,(BTd hb2 hb3).alloc (BTd hb2 hb3).size _⟩
theorem B7q {V V':World}{k:Nat}(h:V'.heap[k]?=V.heap[k]?)(i:Nat):V'.cell? ⟨k,i,none⟩=V.cell? ⟨k,i,none⟩:=by
 unfold World.cell?
 simp only[h]
end L
end Go.Proofs.YtgaoojpakjjdnaaGreatDoor
