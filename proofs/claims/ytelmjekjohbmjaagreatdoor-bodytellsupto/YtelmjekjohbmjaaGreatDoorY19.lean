import Derived.Test.YtelmjekjohbmjaaGreatDoorY18
import Derived.Test.YtelmjekjohbmjaaGreatDoorY09
import Derived.Test.YtelmjekjohbmjaaGreatDoorY14
namespace Go.Proofs.YtelmjekjohbmjaaGreatDoor
namespace L
open Go.RowKit
set_option maxHeartbeats 2000000 in
set_option maxRecDepth 100000 in
theorem A7t {d:Nat}{wE:World}{c0 ca B fnD:Nat}{capD:Array Value}{g gd:Nat}{b e:Nat→Nat}{nm:List UInt8}{af:Option Addr}{nf cf:Nat}{ab:Option Addr}{nb cb:Nat}{fs:List FI}{f:List UInt8→BI d→Int}{Q:BI d→Prop}{w:World}(hbE:Below wE.heap.size wE w) (e0:wE.heap.size≤c0) (ea:wE.heap.size≤ca) (hck:CkM c0 ca B fnD capD g gd b e w) (hB:B≤w.heap.size) (h0:w.heap[c0]?=some (.cells #[.int .i64 0] 3 (0,0))) (ha:w.heap[ca]?=some (.cells #[.slice none 0 0] 46 (0,0)))
  (hf:RdL 6 FAt wE (.slice af nf cf) fs) (hT:Tabs wE) (hent:∀ (args:Array Value) (w:World),(callFunc fnD args).run Tryz.prog w = .ok (.enter fnD args) w) (hdeep:∀ x∈fs,∀ v:VI (BI d),(∀ s∈v.subs,Q s)→A1d x v=false→Deeper d fnD capD x.type (f x.type) v.subs wE)
  {l:List (VI (BI d))}{vl:Value}(h:RdL 4 (VAt (BAt d)) wE vl l) (hV:∀ v∈l,VOk Q v) (hlen:l.length*80≤reachBytes) :
  Calls Tryz.prog 53 #[.agg #[.string (S nm),.slice af nf cf,.slice ab nb cb],vl,.slice (some ⟨g,0,none⟩) 8 8] w fun r w'=>r = .returned (.int .i64 (A2s fs f l (0,[])))∧Below wE.heap.size wE w':=by
 obtain⟨W2,HW2⟩:∃ W2,Hid (W2=(w.alloc (.cells #[.string (S nm),.slice af nf cf,.slice ab nb cb] 48)).alloc (.cells #[.slice (some ⟨g,0,none⟩) 8 8] 98)):=⟨_,rfl⟩
 have hb2:Below w.heap.size w W2:=by rw[HW2.out];exact((Below.refl _ _).alloc (Nat.le_refl _) _).alloc (by simp) _
 have hz2:w.heap.size+2≤W2.heap.size:=by rw[HW2.out];simp
 have x1:W2.heap[w.heap.size]?=some (.cells #[.string (S nm),.slice af nf cf,.slice ab nb cb] 48 (0,0)):=by rw[HW2.out];exact A0r _ _ _
 have x2:W2.heap[w.heap.size+1]?=some (.cells #[.slice (some ⟨g,0,none⟩) 8 8] 98 (0,0)):=by rw[HW2.out];exact A0o _ _ _
 have hc0:c0 < w.heap.size:=(Array.getElem?_eq_some_iff.1 h0).1
 have hca:ca < w.heap.size:=(Array.getElem?_eq_some_iff.1 ha).1
 have hm:Mm c0 ca W2.heap.size (0,[]) W2:=⟨(hb2.block c0 hc0).trans h0,⟨_,(hb2.block ca hca).trans ha,Row.nil _ _ _⟩,Nat.le_refl _,by omega,by omega⟩
 have hC:Ctx (d:=d) wE c0 ca W2.heap.size fnD capD g gd b e w.heap.size (w.heap.size+1) nm af nf cf ab nb cb fs f Q W2:=
  ⟨hbE.trans (hb2.mono hbE.size),e0,ea,(hck.below hb2).mono (by omega),⟨x1,by omega,by omega,by omega⟩,⟨x2,by omega,by omega,by omega⟩,hf,hT,hent,hdeep⟩
 have hcall:=B9u hC hm rfl h hV hlen
 have hmf:=A2y
 obtain⟨al,nl,cl,rfl,_,_⟩:=h.shape
 clear hC hm hdeep hV h hck hf
 go_enter Tryz.func53,Tryz.ntmps53
 go_wp2_with fail
 rw[←HW2.out]
 refine hcall.mono ?_
 rintro r w3 ⟨rfl,s',hS⟩
 go_wp2
 go_ret
 exact⟨rfl,(hbE.trans (hb2.mono hbE.size)).trans (hS.below e0 ea)⟩
def A1h (g:GI) (name:List UInt8):List FI:=match g.msgs.find? (fun m=>decide (m.name=name)) with
 | some m=>m.fields
 | none=>[]
def A2o (g:GI):(d:Nat)→Int→List FI→BI d→Int
 | 0=>fun _ _ b=>nomatch (b:Empty)
 | d+1=>fun k fs b=>if 12 < k then 10 else if A2s fs (fun name s=>A2o g d (k+1) (A1h g name) s) (BO.vals b) (0,[])=0 then A0g (A4s fs) (BO.unk b) else A2s fs (fun name s=>A2o g d (k+1) (A1h g name) s) (BO.vals b) (0,[])
theorem A3t (g:GI) (d:Nat) (k:Int) (fs:List FI) (x:BI (d+1)):A2o g (d+1) k fs x=if 12 < k then 10 else if A2s fs (fun name s=>A2o g d (k+1) (A1h g name) s) (BO.vals x) (0,[])=0 then A0g (A4s fs) (BO.unk x) else A2s fs (fun name s=>A2o g d (k+1) (A1h g name) s) (BO.vals x) (0,[]):=rfl
def C0g (g:GI):Prop:=∀ m∈g.msgs,∀ x∈m.fields,x.kind=10→∃ m',g.msgs.find? (fun m=>decide (m.name=x.type))=some m'
theorem A7k {β:Type}{x:FI}{v:VI β}(h:A1d x v=false) (hs:v.subs≠[]):x.kind=10:=by
 unfold A1d at h
 by_cases h8:x.kind=8∨x.kind=9
 ·rw[if_pos h8] at h;simp at h;exact absurd h.2 hs
 ·rw[if_neg h8] at h
  by_cases h10:x.kind=10
  ·exact h10
  ·rw[if_neg h10] at h;simp at h;exact absurd h.2 hs
def A8s (g:GI) (d:Nat):Prop:=∀ (w:World) (k:Int) (vm ve:Value) (m:MI) (vf vb v0 v1:Value) (x:BI d),0≤k→k≤100→GRd w vm ve g→m∈g.msgs→RdL 6 FAt w vf m.fields→RdL 1 NAt w vb m.barred→BQ d w v0 v1 x→BOk d x→Tabs w→
 Calls Tryz.prog 25 #[.agg #[vm,ve],.agg #[.string (S m.name),vf,vb],.agg #[v0,v1],.int .i64 k] w fun r w'=>r = .returned (.int .i64 (A2o g d k m.fields x))∧Below w.heap.size w w'
set_option maxHeartbeats 2000000 in
set_option maxRecDepth 100000 in
theorem B7n {g:GI}(hsub:C0g g){d:Nat}(ih:A8s g d):A8s g (d+1):=by
 intro w k vm ve m vf vb v0 v1 x hk0 hk1 hg hm hf hb hq hok hT
 obtain⟨am,nm,cm,rfl,_,_⟩:=hg.1.shape
 obtain⟨ae,ne,ce,rfl,_,_⟩:=hg.2.shape
 obtain⟨af,nf,cf,rfl,_,_⟩:=hf.shape
 obtain⟨ab,nb,cb,rfl,_,_⟩:=hb.shape
 have hq:BRd d w v0 v1 x:=hq
 obtain⟨a0,n0,c0,a1,n1,c1,rfl,rfl⟩:=hq.shape
 obtain⟨hV,hlen,_,_⟩:=hok
 obtain⟨N,HN⟩:∃ N,Hid (N=w.heap.size):=⟨_,rfl⟩
 obtain⟨W4,HW4⟩:∃ W4,Hid (W4=(((w.alloc (.cells #[.slice am nm cm,.slice ae ne ce] 25)).alloc (.cells #[.string (S m.name),.slice af nf cf,.slice ab nb cb] 48)).alloc (.cells #[.slice a0 n0 c0,.slice a1 n1 c1] 29)).alloc (.cells #[.int .i64 k] 3)):=⟨_,rfl⟩
 have hb4:Below w.heap.size w W4:=by rw[HW4.out];exact((((Below.refl _ _).alloc (Nat.le_refl _) _).alloc (by simp) _).alloc (by first|(simp;omega)|simp) _).alloc (by first|(simp;omega)|simp) _
 have z4:w.heap.size+4≤W4.heap.size:=by rw[HW4.out];simp
 have x0:W4.heap[w.heap.size]?=some (.cells #[.slice am nm cm,.slice ae ne ce] 25 (0,0)):=by
  rw[HW4.out,Below.heap_alloc _ _ _ (by first|(simp;omega)|simp),Below.heap_alloc _ _ _ (by first|(simp;omega)|simp)];exact A0r _ _ _
 have x1:W4.heap[w.heap.size+1]?=some (.cells #[.string (S m.name),.slice af nf cf,.slice ab nb cb] 48 (0,0)):=by
  rw[HW4.out,Below.heap_alloc _ _ _ (by first|(simp;omega)|simp),Below.heap_alloc _ _ _ (by first|(simp;omega)|simp)];exact A0o _ _ _
 have x2:W4.heap[w.heap.size+2]?=some (.cells #[.slice a0 n0 c0,.slice a1 n1 c1] 29 (0,0)):=by
  rw[HW4.out,Below.heap_alloc _ _ _ (by first|(simp;omega)|simp)]
  have:=heap_alloc_new ((w.alloc (.cells #[.slice am nm cm,.slice ae ne ce] 25)).alloc (.cells #[.string (S m.name),.slice af nf cf,.slice ab nb cb] 48)) (.cells #[.slice a0 n0 c0,.slice a1 n1 c1] 29)
  simpa using this
 have x3:W4.heap[w.heap.size+3]?=some (.cells #[.int .i64 k] 3 (0,0)):=by
  have:=heap_alloc_new (((w.alloc (.cells #[.slice am nm cm,.slice ae ne ce] 25)).alloc (.cells #[.string (S m.name),.slice af nf cf,.slice ab nb cb] 48)).alloc (.cells #[.slice a0 n0 c0,.slice a1 n1 c1] 29)) (.cells #[.int .i64 k] 3)
  rw[HW4.out]
  simpa using this
 by_cases hk:12 < k
 ·have HR:Hid (A2o g (d+1) k m.fields x=10):=by show _=_;rw[A3t,if_pos hk]
  clear ih hV hq hg hf hb
  go_enter Tryz.func25,Tryz.ntmps25
  go_wp2
  go_ret
  rw[←HW4.out]
  exact⟨by rw[HR.out];rfl,hb4⟩
 ·obtain⟨f,Hf⟩:∃ f:List UInt8→BI d→Int,Hid (f=fun name s=>A2o g d (k+1) (A1h g name) s):=⟨_,rfl⟩
  have HE:Hid (A2o g (d+1) k m.fields x=if A2s m.fields f (BO.vals x) (0,[])=0 then A0g (A4s m.fields) (BO.unk x) else A2s m.fields f (BO.vals x) (0,[])):=by
   show _=_
   rw[Hf.out,A3t,if_neg hk]
  have hdeep:∀ y∈m.fields,∀ v:VI (BI d),(∀ s∈v.subs,BOk d s)→A1d y v=false→Deeper d 51 #[.pointer (some ⟨w.heap.size,0,none⟩),.pointer (some ⟨w.heap.size+3,0,none⟩)] y.type (f y.type) v.subs W4:=by
   intro y hy v hQ ho W hW s hs u0 u1 hqs
   have hkind:=A7k ho (fun e=>by rw[e] at hs;cases hs)
   obtain⟨m',hm'⟩:=hsub m hm y hy hkind
   rcases A2l (fun m:MI=>decide (m.name=y.type)) g.msgs with⟨_,h2⟩|⟨i,m2,h1,h2,h3,_⟩
   ·rw[h2] at hm';cases hm'
   ·have hWW:Below w.heap.size w W:=BTd hb4 hW
    have hfe:A1h g y.type=m2.fields:=by unfold A1h;rw[h3]
    obtain⟨b0,p0,q0,b1,p1,q1,rfl,rfl⟩:=hqs.shape
    refine(B5m (R:=f y.type s) ((hW.block _ (by omega)).trans x0) ((hW.block _ (by omega)).trans x3) (hg.below hWW) h1 h2 hk0 (by omega) fun vf vb hf' hb' V hV'=>?_)
    rw[Hf.out]
    show Calls _ _ _ _ fun e V'=>e = .returned (.int .i64 (A2o g d (k+1) (A1h g y.type) s))∧Below V.heap.size V V'
    rw[hfe]
    exact ih V (k+1) _ _ m2 vf vb _ _ s (by omega) (by omega) (hg.below (BTd hWW hV')) (List.mem_of_getElem? h2) (hf'.below FAt.stays hV') (hb'.below NAt.stays hV') (hqs.below hV') (hQ s hs) (hT.below (BTd hWW hV'))
  have hD:Below W4.heap.size W4 W4.drew:=(Below.refl _ _).drew
  have hnew:=B3g 51 #[.pointer (some ⟨w.heap.size,0,none⟩),.pointer (some ⟨w.heap.size+3,0,none⟩)] W4.drew
  have hcl:∀ V,Below W4.heap.size W4 V→V.cell? ⟨w.heap.size+1,0,none⟩=some (.string (S m.name))∧V.cell? ⟨w.heap.size+1,1,none⟩=some (.slice af nf cf)∧V.cell? ⟨w.heap.size+1,2,none⟩=some (.slice ab nb cb)∧V.cell? ⟨w.heap.size+2,0,none⟩=some (.slice a0 n0 c0)∧V.cell? ⟨w.heap.size+2,1,none⟩=some (.slice a1 n1 c1):=fun V hV'=>⟨A0c hV' (A0a x1 0 _ rfl),A0c hV' (A0a x1 1 _ rfl),A0c hV' (A0a x1 2 _ rfl),A0c hV' (A0a x2 0 _ rfl),A0c hV' (A0a x2 1 _ rfl)⟩
  obtain⟨t0,t1,t2,t3,t4⟩:=hcl W4.drew hD
  obtain⟨E,HEE⟩:∃ E,Hid (E=A2s m.fields f (BO.vals x) (0,[])):=⟨_,rfl⟩
  have hvals:∀ w1,Below W4.drew.heap.size W4.drew w1→Hid (w1.heap.size=W4.drew.heap.size+14)→CkM (W4.drew.heap.size+1) (W4.drew.heap.size+10) (W4.drew.heap.size+14) 51 #[.pointer (some ⟨w.heap.size,0,none⟩),.pointer (some ⟨w.heap.size+3,0,none⟩)] (W4.drew.heap.size+13) W4.drew.heap.size (bF W4.drew.heap.size) (eF W4.drew.heap.size) w1→w1.heap[W4.drew.heap.size+1]?=some (.cells #[.int .i64 0] 3 (0,0))→w1.heap[W4.drew.heap.size+10]?=some (.cells #[.slice none 0 0] 46 (0,0))→
    Calls Tryz.prog 53 #[.agg #[.string (S m.name),.slice af nf cf,.slice ab nb cb],.slice a0 n0 c0,.slice (some ⟨W4.drew.heap.size+13,0,none⟩) 8 8] w1 fun r w'=>r = .returned (.int .i64 E)∧Below W4.heap.size W4 w':=by
   intro w1 hb1 hz1 hck h0 ha
   rw[HEE.out]
   have hE:W4.heap.size≤W4.drew.heap.size:=hD.size
   have hb41:Below W4.heap.size W4 w1:=BTd hD hb1
   exact A7t (Q:=BOk d) hb41 (by omega) (by omega) hck (by rw[hz1.out];exact Nat.le_refl _) h0 ha (hf.below FAt.stays hb4) (hT.below hb4) (enters_of Tryz.func51 (by kernel_rfl) rfl) hdeep (hq.below hb4).1 hV hlen
  have hkb:decide ((12:Int) < k)=false:=decide_eq_false hk
  have hmf:=A2y
  have hunk:∀ w2,Below W4.heap.size W4 w2→Calls Tryz.prog 55 #[.slice a1 n1 c1,.func (.func 56) #[] #[.pointer (some ⟨w.heap.size+1,0,none⟩)]] w2 fun e w'=>e = .returned (.int .i64 (A0g (A4s m.fields) (BO.unk x)))∧Below w2.heap.size w2 w':=fun w2 hb2=>B9s (hq.below (BTd hb4 hb2)).2 ((hb2.block _ (by omega)).trans x1) (hf.below FAt.stays (BTd hb4 hb2))
  rw[HE.out,←HEE.out]
  obtain⟨U,HU⟩:∃ U,Hid (U=A0g (A4s m.fields) (BO.unk x)):=⟨_,rfl⟩
  rw[←HU.out] at hunk ⊢
  obtain⟨ANS,HANS⟩:∃ ANS,Hid (ANS=if E=0 then U else E):=⟨_,rfl⟩
  rw[←HANS.out]
  clear ih hdeep hV hk hg hf hb hq hT hsub HE HEE
  go_enter Tryz.func25,Tryz.ntmps25
  go_wp2_with fail
  rw[←HW4.out]
  go_region_with (first
   | (go_at_call 54;refine hnew.mono ?_;rintro r w1 ⟨rfl,hb1,hz1,hck,h0,ha⟩;obtain⟨u0,u1,u2,u3,u4⟩:=hcl w1 (BTd hD hb1))
   | (go_at_call 53;refine(hvals w1 hb1 hz1 hck h0 ha).mono ?_;rintro r w2 ⟨rfl,hb2⟩))
  all_goals
   obtain⟨s0,s1,s2,s3,s4⟩:=hcl w2 hb2
   have hun:=hunk w2 hb2
   by_cases hE0:E=0
   ·have ez:(E != 0)=false:=by simp[hE0]
    have HZ:Hid (E=0):=hE0
    clear hE0
    go_wp2_with fail
    refine hun.mono ?_
    rintro r w3 ⟨rfl,hb3⟩
    go_wp2
    go_ret
    exact⟨by rw[HANS.out,if_pos HZ.out];rfl,BTd hb4 (BTd hb2 hb3)⟩
   ·have ez:(E != 0)=true:=by simpa using hE0
    have HZ:Hid (E≠0):=hE0
    clear hE0
    go_wp2
    go_ret
    exact⟨by rw[HANS.out,if_neg HZ.out];rfl,BTd hb4 hb2⟩
theorem B2d {g:GI}(hsub:C0g g):∀ d,A8s g d
 | 0=>fun _ _ _ _ _ _ _ _ _ x=>nomatch (x:Empty)
 | d+1=>B7n hsub (B2d hsub d)
end L
end Go.Proofs.YtelmjekjohbmjaaGreatDoor
namespace Go.Proofs.YtelmjekjohbmjaaGreatDoor
namespace L
def A9d (x:FI) (s:Mem):Mem:=⟨A4g x.name s.names,A4g x.number s.nums,x.choice,max s.begun x.choice⟩
def A6b (g:GI) (bar:List Int) (x:FI) (s:Mem):Bool:=!(!A1q x.name||decide (x.name∈s.names))&&(A9n x.number&&(!(decide (x.number∈bar)||decide (x.number∈s.nums))&&(!(decide (x.kind < 1)||decide (10 < x.kind))&&(A9o g x&&(!(A6a x||(decide (0 < x.choice)&&x.many))&&!A5b s.last s.begun x.choice)))))
theorem A8o {g:GI}{bar:List Int}{x:FI}{s:Mem}(h:A6b g bar x s=true):A0l (A1a g bar) 0 A2p x s=(none,A9d x s):=by
 simp only[A6b,Bool.and_eq_true,Bool.not_eq_true'] at h
 obtain⟨h0,h1,h2,h3,h4,h5,h6⟩:=h
 simp[A2p,A0l,A1a,h0,h1,h2,h3,h4,h5,h6,A9d]
theorem B4p {g:GI}{bar:List Int}{x:FI}{s:Mem}(h:A6b g bar x s=false):∃ e s',A0l (A1a g bar) 0 A2p x s=(some e,s')∧e≠0:=by
 unfold A6b at h
 cases h0:(!A1q x.name||decide (x.name∈s.names)) with
 | true=>exact⟨7,_,by simp only[A2p,A0l,A1a];rw[h0];rfl,by decide⟩
 | false=>
  cases h1:A9n x.number with
  | false=>exact⟨3,_,by simp only[A2p,A0l,A1a];rw[h0,h1];rfl,by decide⟩
  | true=>
   cases h2:(decide (x.number∈bar)||decide (x.number∈s.nums)) with
   | true=>exact⟨8,_,by simp only[A2p,A0l,A1a];rw[h0,h1,h2];rfl,by decide⟩
   | false=>
    cases h3:(decide (x.kind < 1)||decide (10 < x.kind)) with
    | true=>exact⟨1,_,by simp only[A2p,A0l,A1a];rw[h0,h1,h2,h3];rfl,by decide⟩
    | false=>
     cases h4:A9o g x with
     | false=>exact⟨6,_,by simp only[A2p,A0l,A1a];rw[h0,h1,h2,h3,h4];rfl,by decide⟩
     | true=>
      cases h5:(A6a x||(decide (0 < x.choice)&&x.many)) with
      | true=>exact⟨8,_,by simp only[A2p,A0l,A1a];rw[h0,h1,h2,h3,h4,h5];rfl,by decide⟩
      | false=>
       cases h6:A5b s.last s.begun x.choice with
       | true=>exact⟨2,_,by simp only[A2p,A0l,A1a];rw[h0,h1,h2,h3,h4,h5,h6];rfl,by decide⟩
       | false=>rw[h0,h1,h2,h3,h4,h5,h6] at h;cases h
theorem B3r {g:GI}{bar:List Int}{i:Nat}{x:FI}{l:List FI}{s:Mem}(h:(A0h (A1a g bar) A2p i (x::l) s).1=0):A6b g bar x s=true∧(A0h (A1a g bar) A2p (i+1) l (A9d x s)).1=0:=by
 cases hp:A6b g bar x s with
 | true=>
  rw[A0h,A8o hp] at h
  exact⟨rfl,h⟩
 | false=>
  obtain⟨e,s',h1,h2⟩:=B4p hp
  rw[A0h,h1] at h
  exact absurd h h2
theorem A9y {g:GI}:∀ (l:List MI) (i:Nat) (q:Int×Nat),A2h g i l=some q→q.1≠0
 | [],_,_,h=>by cases h
 | m::l,i,q,h=>by
  rw[A2h] at h
  split at h
  ·rename_i h0;cases h;exact h0
  ·exact A9y l _ q h
theorem A9x {g:GI}:∀ (l:List MI) (i:Nat),A2h g i l=none→∀ m∈l,A2n g m=0
 | [],_,_,_,hm=>by simp at hm
 | x::l,i,h,m,hm=>by
  rw[A2h] at h
  split at h
  ·cases h
  ·rename_i h0
   rcases List.mem_cons.1 hm with rfl|hm
   ·simpa using h0
   ·exact A9x l _ h m hm
theorem B0k {g:GI}(h:(A0p g).1=0):¬ 10 < g.msgs.length+g.enums.length∧(A0h A5r [7] 0 (A2u g) []).1=0∧∀ m∈g.msgs,A2n g m=0:=by
 unfold A0p at h
 split at h
 ·cases h
 ·rename_i h1
  split at h
  ·rename_i h2;exact absurd h h2
  ·rename_i h2
   refine⟨h1,by simpa using h2,?_⟩
   cases hm:A2h g 0 g.msgs with
   | some q=>rw[hm] at h;exact absurd h (A9y _ _ q hm)
   | none=>exact A9x _ _ hm
theorem C0c {g:GI}{m:MI}(h:A2n g m=0):m.fields.length≤16∧m.barred.length≤16∧m.barred.any A5e=false∧(A0h (A1a g m.barred) A2p 0 m.fields B0w).1=0:=by
 unfold A2n at h
 split at h
 ·cases h
 ·rename_i h1
  split at h
  ·cases h
  ·rename_i h2
   exact⟨by omega,by omega,by simpa using h2,h⟩
end L
end Go.Proofs.YtelmjekjohbmjaaGreatDoor
namespace Go.Proofs.YtelmjekjohbmjaaGreatDoor
namespace L
open Go.RowKit
theorem A6c {g:GI}{bar:List Int}:∀ (l:List FI) (i:Nat) (s:Mem),(A0h (A1a g bar) A2p i l s).1=0→∀ y∈l,∃ s,A6b g bar y s=true
 | [],_,_,_,_,hy=>by simp at hy
 | x::l,i,s,h,y,hy=>by
  obtain⟨h1,h2⟩:=B3r h
  rcases List.mem_cons.1 hy with rfl|hy
  ·exact⟨s,h1⟩
  ·exact A6c l _ _ h2 y hy
theorem A2m {g:GI}(hr:(A0p g).1=0):C0g g:=by
 intro m hm x hx hk
 obtain⟨s,hs⟩:=A6c _ _ _ (C0c ((B0k hr).2.2 m hm)).2.2.2 x hx
 simp only[A6b,Bool.and_eq_true] at hs
 have hh:A9o g x=true:=hs.2.2.2.2.1
 unfold A9o at hh
 rw[if_pos hk] at hh
 rcases A2l (fun m:MI=>decide (m.name=x.type)) g.msgs with⟨h1,_⟩|⟨_,m',_,_,h3,_⟩
 ·rw[h1] at hh;simp at hh
 ·exact⟨m',h3⟩
def A0z (g:GI) (d:Nat) (msg:Int) (x:BI (d+1)):Int:=
 if (A0p g).1≠0 then(A0p g).1
 else if msg < 0∨(g.msgs.length:Int)≤msg then 6
 else match g.msgs[msg.toNat]? with
  | some m=>A2o g (d+1) 1 m.fields x
  | none=>6
set_option maxHeartbeats 2000000 in
set_option maxRecDepth 100000 in
theorem A8u {w:World}{g:GI}{d:Nat}{vm ve v0 v1:Value}{msg:Int}{x:BI (d+1)}(hg:GRd w vm ve g) (hn1:g.msgs.length≤140737488355328) (hn2:g.enums.length≤140737488355328) (hfit:Fits g) (hq:BRd d w v0 v1 x) (hok:BOk (d+1) x) (hT:Tabs w) (hm1 : -9223372036854775808≤msg) (hm2:msg≤9223372036854775807) :
  Calls Tryz.prog 8 #[.agg #[vm,ve],.int .i64 msg,.agg #[v0,v1]] w fun r w'=>r = .returned (.int .i64 (A0z g d msg x))∧Below w.heap.size w w':=by
 obtain⟨am,nm,cm,rfl,Hnm,_⟩:=hg.1.shape
 obtain⟨ae,ne,ce,rfl,_,_⟩:=hg.2.shape
 obtain⟨a0,n0,c0,a1,n1,c1,rfl,rfl⟩:=hq.shape
 obtain⟨W2,HW2⟩:∃ W2,Hid (W2=(w.alloc (.cells #[.slice am nm cm,.slice ae ne ce] 25)).alloc (.cells #[.slice a0 n0 c0,.slice a1 n1 c1] 29)):=⟨_,rfl⟩
 have hb2:Below w.heap.size w W2:=by rw[HW2.out];exact((Below.refl _ _).alloc (Nat.le_refl _) _).alloc (by simp) _
 have z2:w.heap.size+2≤W2.heap.size:=by rw[HW2.out];simp
 have x1:W2.heap[w.heap.size]?=some (.cells #[.slice am nm cm,.slice ae ne ce] 25 (0,0)):=by rw[HW2.out];exact A0r _ _ _
 have x2:W2.heap[w.heap.size+1]?=some (.cells #[.slice a0 n0 c0,.slice a1 n1 c1] 29 (0,0)):=by rw[HW2.out];exact A0o _ _ _
 have hwr:=B5d (hg.below hb2) hn1 hn2 hfit
 obtain⟨Q,HQ⟩:∃ Q,Hid (Q=(A0p g).1):=⟨_,rfl⟩
 obtain⟨QI,HQI⟩:∃ QI,Hid (QI=(((A0p g).2:Nat):Int)):=⟨_,rfl⟩
 rw[←HQ.out,←HQI.out] at hwr
 have hcl:∀ V,Below W2.heap.size W2 V→V.cell? ⟨w.heap.size,0,none⟩=some (.slice am nm cm)∧V.cell? ⟨w.heap.size,1,none⟩=some (.slice ae ne ce)∧V.cell? ⟨w.heap.size+1,0,none⟩=some (.slice a0 n0 c0)∧V.cell? ⟨w.heap.size+1,1,none⟩=some (.slice a1 n1 c1):=fun V hV=>⟨A0c hV (A0a x1 0 _ rfl),A0c hV (A0a x1 1 _ rfl),A0c hV (A0a x2 0 _ rfl),A0c hV (A0a x2 1 _ rfl)⟩
 obtain⟨ANS,HANS⟩:∃ ANS,Hid (ANS=A0z g d msg x):=⟨_,rfl⟩
 rw[←HANS.out]
 by_cases hQ0:Q=0
 ·have ez:(Q != 0)=false:=by simp[hQ0]
  have hr:(A0p g).1=0:=by rw[←HQ.out];exact hQ0
  have HZ:Hid (Q=0):=hQ0
  clear hQ0
  by_cases hlo:msg < 0
  ·have HA:Hid (ANS=6):=by show _=_;rw[HANS.out,A0z,if_neg (by rw[hr];simp),if_pos (.inl hlo)]
   go_enter Tryz.func8,Tryz.ntmps8
   go_wp2_with fail
   rw[←HW2.out]
   refine hwr.mono ?_
   rintro r w3 ⟨rfl,hb3⟩
   go_wp2
   go_ret
   exact⟨by rw[HA.out];rfl,(BTd hb2 hb3).alloc (BTd hb2 hb3).size _⟩
  ·have hlo':¬ (msg < 0):=hlo
   by_cases hhi:(nm:Int)≤msg
   ·have HA:Hid (ANS=6):=by show _=_;rw[HANS.out,A0z,if_neg (by rw[hr];simp),if_pos (.inr (by rw[←Hnm.out];exact hhi))]
    go_enter Tryz.func8,Tryz.ntmps8
    go_wp2_with fail
    rw[←HW2.out]
    refine hwr.mono ?_
    rintro r w3 ⟨rfl,hb3⟩
    obtain⟨t0,t1,t2,t3⟩:=hcl w3 hb3
    have hs3:w.heap.size < w3.heap.size:=Nat.lt_of_lt_of_le (by omega) hb3.size
    go_wp2
    go_ret
    exact⟨by rw[HA.out];rfl,(BTd hb2 hb3).alloc (BTd hb2 hb3).size _⟩
   ·have hin:msg.toNat < g.msgs.length:=by rw[←Hnm.out];omega
    obtain⟨i,rfl⟩:∃ i:Nat,msg=(i:Int):=⟨msg.toNat,by omega⟩
    have hin:i < g.msgs.length:=hin
    obtain⟨m,hm⟩:∃ m,g.msgs[i]?=some m:=⟨g.msgs[i],List.getElem?_eq_getElem hin⟩
    obtain⟨b,off,rfl,hat⟩:=hg.1.get MAt.plain hm
    obtain⟨vf,vb,t0,t1,t2,hf,hbr⟩:=hat.at
    obtain⟨af,nf,cf',rfl,_,_⟩:=hf.shape
    obtain⟨ab,nb,cb,rfl,_,_⟩:=hbr.shape
    have HA:Hid (ANS=A2o g (d+1) 1 m.fields x):=by
     show _=_
     rw[HANS.out,A0z,if_neg (by rw[hr];simp),if_neg (by omega)]
     show(match g.msgs[((i:Nat):Int).toNat]? with|some m=>A2o g (d+1) 1 m.fields x|none=>6)=_
     rw[Int.toNat_natCast,hm]
    have hbody:∀ V,Below W2.heap.size W2 V→Calls Tryz.prog 25 #[.agg #[.slice (some ⟨b,off,none⟩) nm cm,.slice ae ne ce],.agg #[.string (S m.name),.slice af nf cf',.slice ab nb cb],.agg #[.slice a0 n0 c0,.slice a1 n1 c1],.int .i64 1] V fun r w'=>r = .returned (.int .i64 ANS)∧Below V.heap.size V w':=by
     intro V hV
     have hWV:=BTd hb2 hV
     rw[HA.out]
     exact B2d (A2m hr) (d+1) V 1 _ _ m _ _ _ _ x (by omega) (by omega) (hg.below hWV) (List.mem_of_getElem? hm) (hf.below FAt.stays hWV) (hbr.below NAt.stays hWV) (hq.below hWV) hok (hT.below hWV)
    have hcm:∀ V,Below W2.heap.size W2 V→V.cell? ⟨b,off+i*3,none⟩=some (.string (S m.name))∧V.cell? ⟨b,off+i*3+1,none⟩=some (.slice af nf cf')∧V.cell? ⟨b,off+i*3+2,none⟩=some (.slice ab nb cb):=fun V hV=>
     have hWV:=BTd hb2 hV
     ⟨A0c hWV t0,A0c hWV t1,A0c hWV t2⟩
    have hiz:(i:Int) < (nm:Int):=by omega
    clear hg hq hf hbr hat t0 t1 t2 hT hok hm hlo hr hin hlo' hhi
    have hlo':¬ ((i:Int) < 0):=by omega
    have hhi:¬ ((nm:Int)≤(i:Int)):=by omega
    go_enter Tryz.func8,Tryz.ntmps8
    go_wp2_with fail
    rw[←HW2.out]
    refine hwr.mono ?_
    rintro r w3 ⟨rfl,hb3⟩
    obtain⟨W4,HW4⟩:∃ W4,Hid (W4=w3.alloc (.cells #[.int .i64 Q,.int .i64 QI] 63)):=⟨_,rfl⟩
    have hb34:Below w3.heap.size w3 W4:=by rw[HW4.out];exact(Below.refl _ _).alloc (Nat.le_refl _) _
    have hb4:Below W2.heap.size W2 W4:=BTd hb3 hb34
    have hs3:w.heap.size < w3.heap.size:=Nat.lt_of_lt_of_le (by omega) hb3.size
    obtain⟨t0,t1,t2,t3⟩:=hcl w3 hb3
    have hD:=BTd hb4 ((Below.refl W4.heap.size W4).drew)
    obtain⟨s0,s1,s2,s3⟩:=hcl _ hD
    obtain⟨p0,p1,p2⟩:=hcm _ hD
    have hbd:=hbody _ hD
    go_wp2_with fail
    rw[←HW4.out]
    go_region_with (refine hbd.mono ?_;rintro r w5 ⟨rfl,hb5⟩)
    all_goals
     go_wp2
     go_ret
     exact⟨rfl,BTd hb2 (BTd hD hb5)⟩
 ·have ez:(Q != 0)=true:=by simpa using hQ0
  have HA:Hid (ANS=Q):=by show _=_;rw[HANS.out,A0z,if_pos (by rw[←HQ.out];exact hQ0),HQ.out]
  clear hQ0
  go_enter Tryz.func8,Tryz.ntmps8
  go_wp2_with fail
  rw[←HW2.out]
  refine hwr.mono ?_
  rintro r w3 ⟨rfl,hb3⟩
  go_wp2
  go_ret
  exact⟨by rw[HA.out];rfl,(BTd hb2 hb3).alloc (BTd hb2 hb3).size _⟩
end L
end Go.Proofs.YtelmjekjohbmjaaGreatDoor
namespace Go.Proofs.YtelmjekjohbmjaaGreatDoor
namespace L
open Go.RowKit
theorem PredK.at {fn:Nat}{cap:Array Value}{K:List Nat}{W V:World}{p:Int→Bool}(h:PredK fn cap K W p) (hs:W.heap.size≤V.heap.size) (hK:∀ k∈K,V.heap[k]?=W.heap[k]?):PredK fn cap K V p:=
 fun U hU hk=>h U (Nat.le_trans hs hU) fun k hm=>(hk k hm).trans (hK k hm)
set_option maxHeartbeats 1000000 in
set_option maxRecDepth 100000 in
theorem B8s {β:Type}{P:World→Addr→β→Prop}(hP:A3p P){v:Value}{l:List (VI β)}{w:World}{fn:Nat}{cap0:Array Value}{K:List Nat}{p:Int→Bool}(h:RdL 4 (VAt P) w v l)
  (hent:∀ (args:Array Value) (w:World),(callFunc fn args).run Tryz.prog w = .ok (.enter fn args) w) (hp:PredK fn cap0 K w p) (hK:∀ k∈K,k < w.heap.size) (hI:∀ a∈l,I64 a.number) :
  Calls Tryz.prog 68 #[v,.func (.func fn) #[] cap0] w fun e w'=>e = .returned (.int .i64 (A0i (fun v=>p v.number) l))∧Below w.heap.size w w':=by
 obtain⟨ao,n,cap,rfl,Hn,hcap⟩:=h.shape
 go_enter Tryz.func68,Tryz.ntmps68
 go_wp2_with fail
 go_loopg [8] n (fun m i wr=>∃ k:Nat,k+m=n∧i = .int .i64 k∧Hid (∀ a∈l.take k,p a.number=false)∧Below w.heap.size w wr)
 case atStart=>exact⟨0,by omega,rfl,by show ∀ a∈_,_;simp,Below.refl _ _⟩
 case round=>
  obtain⟨k,hk,rfl,HK,hb⟩:=hrel
  by_cases hlt:k < n
  ·obtain⟨a,Ha⟩:∃ a,Hid (l[k]?=some a):=⟨l[k]'(by rw[←Hn.out];exact hlt),List.getElem?_eq_getElem (by rw[←Hn.out];exact hlt)⟩
   obtain⟨b,off,rfl,hat⟩:=(h.below (VAt.stays hP) hb).get VAt.plain Ha.out
   obtain⟨v1,v2,v3,s0,s1,s2,s3,r1,r2,r3⟩:=hat.at
   obtain⟨a1,n1,c1,rfl,_,_⟩:=r1.shape
   obtain⟨a2,n2,c2,rfl,_,_⟩:=r2.shape
   obtain⟨a3,n3,c3,rfl,_,_⟩:=r3.shape
   have hki:(k:Int) < (n:Int):=by omega
   have hcall:=hp wr hb.size (fun k hk=>hb.block k (hK k hk)) a.number (hI a (A1m Ha.out)) a1 n1 c1 a2 n2 c2 a3 n3 c3
   cases hq:p a.number with
   | true=>
    have HF:Hid (A0i (fun v:VI β=>p v.number) l=(k:Int)):=A2v Ha.out HK.out hq
    rw[hq] at hcall
    clear hq hat r1 r2 r3 hp hI
    go_wp2_with fail
    refine hcall.mono ?_
    rintro e w1 ⟨rfl,hb1⟩
    go_wp2
    go_ret
    exact⟨by rw[HF.out];rfl,hb.trans (hb1.mono hb.size)⟩
   | false=>
    have HX:Hid (∀ a∈l.take (k+1),p a.number=false):=by
     show ∀ a∈_,_
     rw[A0s Ha.out]
     intro y hy
     rcases List.mem_append.1 hy with hy|hy
     ·exact HK.out y hy
     ·rw[List.mem_singleton] at hy;rw[hy];exact hq
    rw[hq] at hcall
    clear hq hat r1 r2 r3 hp hI
    go_wp2_with fail
    refine hcall.mono ?_
    rintro e w1 ⟨rfl,hb1⟩
    go_wp2_with fail
    go_roundg (n - (k+1))
    case measure=>omega
    case rel=>exact⟨k+1,by omega,by go_num,HX,hb.trans (hb1.mono hb.size)⟩
  ·have HF:Hid (A0i (fun v:VI β=>p v.number) l = -1):=by
    have:=HK.out
    rw[List.take_of_length_le (by rw[←Hn.out];omega)] at this
    exact A1p this
   go_wp2
   go_ret
   exact⟨by rw[HF.out];rfl,hb⟩
end L
end Go.Proofs.YtelmjekjohbmjaaGreatDoor
