import Derived.Test.YtelmjekjohbmjaaGreatDoorY22
import Derived.Deep.CutRange
import Derived.Deep.DeepCutAuto
import Derived.Deep.RegionHeld3
namespace Go.Proofs.YtelmjekjohbmjaaGreatDoor
namespace L
open Go.RowKit
set_option linter.unusedVariables false
theorem A1r {V V':World}{k:Nat}(h:V'.heap[k]?=V.heap[k]?) (i:Nat):V'.cell? ⟨k,i,none⟩=V.cell? ⟨k,i,none⟩:=by
 unfold World.cell?
 simp only[h]
def A3b (W0:World) (ms:List MI) (am:Option Addr) (nm cm:Nat) (ae:Option Addr) (ne ce:Nat) (d:Nat):Prop:=
 ∀ (w:World) (M:MI) (s:List UInt8) (af:Option Addr) (nf cf:Nat) (ab:Option Addr) (nb cb:Nat) (a b:LB d) (a0:Option Addr) (n0 c0:Nat) (a1:Option Addr) (n1 c1:Nat) (b0:Option Addr) (m0 d0:Nat) (b1:Option Addr) (m1 d1:Nat),
  Below W0.heap.size W0 w→M∈ms→RdL 6 FAt W0 (.slice af nf cf) M.fields→A6i d a = [.slice a0 n0 c0,.slice a1 n1 c1]→A6i d b = [.slice b0 m0 d0,.slice b1 m1 d1]→OwnB W0.heap.size d w a→OwnB W0.heap.size d w b→(∀ k,(LB.fp d a).count k+(LB.fp d b).count k≤1)→
  ShB ms d M (LB.pl d a)→ShB ms d M (LB.pl d b)→jWB d (LB.pl d a)+jWB d (LB.pl d b)≤1000000000→
  Calls Tryz.prog 35 #[.agg #[.slice am nm cm,.slice ae ne ce],.agg #[.string (S s),.slice af nf cf,.slice ab nb cb],.agg #[.slice a0 n0 c0,.slice a1 n1 c1],.agg #[.slice b0 m0 d0,.slice b1 m1 d1]] w fun e w'=>
   ∃ (c:LB d) (e0:Option Addr) (f0 g0:Nat) (e1:Option Addr) (f1 g1:Nat),e = .returned (.agg #[.slice e0 f0 g0,.slice e1 f1 g1])∧Hid (A6i d c = [.slice e0 f0 g0,.slice e1 f1 g1])∧Hid (LB.pl d c=jnB ms d M (LB.pl d a) (LB.pl d b))∧Hid (OwnB W0.heap.size d w' c)∧Hid (From w (LB.fp d a++LB.fp d b) (LB.fp d c))∧FrB (LB.fp d a++LB.fp d b) w w'
theorem B2f:∀ (d:Nat) (b:LB d),∃ (a0:Option Addr) (n0 c0:Nat) (a1:Option Addr) (n1 c1:Nat),A6i d b = [.slice a0 n0 c0,.slice a1 n1 c1]
 | 0,b=>nomatch (b:Empty)
 | _+1,b=>⟨_,_,_,_,_,_,rfl⟩
set_option maxHeartbeats 4000000 in
set_option maxRecDepth 100000 in
theorem C0n {d:Nat}{W0 w:World}{ms:List MI}{y z:VL (LB d)}(h:MetIn d W0 w y z){am:Option Addr}{nm cm:Nat}{ae:Option Addr}{ne ce:Nat}(hms:RdL 3 MAt W0 (.slice am nm cm) ms) (ih:A3b W0 ms am nm cm ae ne ce d) (x:FI) (hm:x.many=false) (hk:x.kind=10){M:MI}{s t:LB d}(hM:ms.find? (isN x.type)=some M) (hys:y.subs = [s]) (hzs:z.subs = [t]) (hs1:ShB ms d M (LB.pl d s)) (hs2:ShB ms d M (LB.pl d t)) :
  Calls Tryz.prog 66 #[.agg #[.slice am nm cm,.slice ae ne ce],vFI x,.agg #[.int .i64 y.number,y.p1.v,y.p2.v,y.p3.v],.agg #[.int .i64 z.number,z.p1.v,z.p2.v,z.p3.v]] w fun e w'=>B2a ms d W0 w x y z e w':=by
 have HE:Hid (A4f (jnB ms d) ms x (VL.pl (LB.pl d) y) (VL.pl (LB.pl d) z)=⟨y.number,y.bits,y.bytes.map Prod.fst,[jnB ms d M (LB.pl d s) (LB.pl d t)]⟩):=by
  show _=_
  unfold A4f
  rw[hm,if_neg (by simp),if_pos hk,hM]
  have e1:(VL.pl (LB.pl d) y).subs = [LB.pl d s]:=by simp[VL.pl,hys]
  have e2:(VL.pl (LB.pl d) z).subs = [LB.pl d t]:=by simp[VL.pl,hzs]
  rw[e1,e2]
  rfl
 unfold vFI
 rw[hm]
 have hk':(x.kind == 10)=true:=beq_iff_eq.2 hk
 obtain⟨nu,bi,by',su,⟨a1,n1,c1⟩,⟨a2,n2,c2⟩,⟨a3,n3,c3⟩⟩:=y
 obtain⟨mu,bj,bz',sv,⟨b1,m1,d1⟩,⟨b2,m2,d2⟩,⟨b3,m3,d3⟩⟩:=z
 have hys:su = [s]:=hys
 have hzs:sv = [t]:=hzs
 subst hys
 subst hzs
 have hmi:∃ j:Nat,A0i (fun m:MI=>decide (m.name=x.type)) ms=(j:Int)∧ms[j]?=some M:=by
  have hM':ms.find? (fun m=>decide (m.name=x.type))=some M:=hM
  rw[List.find?_eq_getElem?_findIdx] at hM'
  have hlt:ms.findIdx (fun m=>decide (m.name=x.type)) < ms.length:=(List.getElem?_eq_some_iff.1 hM').1
  refine⟨_,?_,hM'⟩
  unfold A0i
  have hf:ms.findIdx? (fun m=>decide (m.name=x.type))=some (ms.findIdx (fun m=>decide (m.name=x.type))):=by
   rw[List.findIdx?_eq_some_iff_findIdx_eq]
   exact⟨hlt,rfl⟩
  rw[hf]
 obtain⟨j,Hj1,Hj2⟩:=hmi
 have HMM:Hid (M∈ms):=List.mem_of_getElem? Hj2
 obtain⟨bm,om,rfl,hmat⟩:=hms.get MAt.plain Hj2
 obtain⟨vf,vb,hn0,hn1,hn2,hfs,hbs⟩:=hmat
 rw[A0j] at hn1 hn2
 obtain⟨af,nf,cf,rfl,_,_⟩:=hfs.shape
 obtain⟨ab,nb,cb,rfl,_,_⟩:=hbs.shape
 have hjn:(j:Int) < (nm:Int):=by have:=(List.getElem?_eq_some_iff.1 Hj2).1;have:=hms.len.1;omega
 have hj0:¬ (j:Int) < 0:=by omega
 have r3y:Row (ekB d) w W0.heap.size (.slice a3 n3 c3) [s]:=h.hy.r3
 have r3z:Row (ekB d) w W0.heap.size (.slice b3 m3 d3) [t]:=h.hz.r3
 obtain rfl:n3=1:=r3y.len
 obtain rfl:m3=1:=r3z.len
 obtain⟨g3,rfl,hc3⟩:=r3y.get (k:=0) (a:=s) rfl
 obtain⟨h3,rfl,hc4⟩:=r3z.get (k:=0) (a:=t) rfl
 obtain⟨s0,s1,s2,s3,s4,s5,hes⟩:=B2f d s
 obtain⟨t0,t1,t2,t3,t4,t5,het⟩:=B2f d t
 have cs0:w.cell? ⟨g3,0,none⟩=some (.slice s0 s1 s2):=by simpa using hc3 0 (.slice s0 s1 s2) (by show(A6i d s)[0]?=_;rw[hes];rfl)
 have cs1:w.cell? ⟨g3,1,none⟩=some (.slice s3 s4 s5):=by simpa using hc3 1 (.slice s3 s4 s5) (by show(A6i d s)[1]?=_;rw[hes];rfl)
 have ct0:w.cell? ⟨h3,0,none⟩=some (.slice t0 t1 t2):=by simpa using hc4 0 (.slice t0 t1 t2) (by show(A6i d t)[0]?=_;rw[het];rfl)
 have ct1:w.cell? ⟨h3,1,none⟩=some (.slice t3 t4 t5):=by simpa using hc4 1 (.slice t3 t4 t5) (by show(A6i d t)[1]?=_;rw[het];rfl)
 have lg3:g3 < w.heap.size:=(r3y.own g3 rfl).2
 have lh3:h3 < w.heap.size:=(r3z.own h3 rfl).2
 obtain⟨W5,HW5⟩:∃ W5,Hid (W5=((((w.alloc (.cells #[.slice (some ⟨bm,om,none⟩) nm cm,.slice ae ne ce] 25)).alloc (.cells #[.string (S x.name),.int .i64 x.number,.int .i64 x.kind,.string (S x.type),.bool false,.int .i64 x.choice] 53)).alloc (.cells #[.int .i64 nu,.slice a1 n1 c1,.slice a2 n2 c2,.slice (some ⟨g3,0,none⟩) 1 c3] 34)).alloc (.cells #[.int .i64 mu,.slice b1 m1 d1,.slice b2 m2 d2,.slice (some ⟨h3,0,none⟩) 1 d3] 34)).alloc (.cells #[.int .i64 0,.slice none 0 0,.slice none 0 0,.slice none 0 0] 34)):=⟨_,rfl⟩
 have hb5:Below w.heap.size w W5:=by rw[HW5.out];exact(((((Below.refl _ _).alloc (Nat.le_refl _) _).alloc (by simp) _).alloc (by simp;omega) _).alloc (by simp;omega) _).alloc (by simp;omega) _
 obtain⟨x0,x1,x2,x3,x4,xz⟩:=B2c w (.cells #[.slice (some ⟨bm,om,none⟩) nm cm,.slice ae ne ce] 25) (.cells #[.string (S x.name),.int .i64 x.number,.int .i64 x.kind,.string (S x.type),.bool false,.int .i64 x.choice] 53) (.cells #[.int .i64 nu,.slice a1 n1 c1,.slice a2 n2 c2,.slice (some ⟨g3,0,none⟩) 1 c3] 34) (.cells #[.int .i64 mu,.slice b1 m1 d1,.slice b2 m2 d2,.slice (some ⟨h3,0,none⟩) 1 d3] 34) (.cells #[.int .i64 0,.slice none 0 0,.slice none 0 0,.slice none 0 0] 34)
 rw[←HW5.out] at x0 x1 x2 x3 x4 xz
 have z5:=Nat.le_of_eq xz
 have z5':=Nat.le_of_eq xz.symm
 have hB0:=h.below.size
 have h05:Below W0.heap.size W0 W5:=h.below.trans (hb5.mono hB0)
 have hly:=h.hy.lt
 have hlz:=h.hz.lt
 have honce:=h.once
 have hcl7:∀ V,Below W5.heap.size W5 V→Below W5.heap.size W5 V∧V.cell? ⟨w.heap.size,0,none⟩=some (.slice (some ⟨bm,om,none⟩) nm cm)∧V.cell? ⟨w.heap.size,1,none⟩=some (.slice ae ne ce)∧V.cell? ⟨w.heap.size+1,3,none⟩=some (.string (S x.type))∧V.cell? ⟨bm,om+j*3,none⟩=some (.string (S M.name))∧V.cell? ⟨bm,om+j*3+1,none⟩=some (.slice af nf cf)∧V.cell? ⟨bm,om+j*3+2,none⟩=some (.slice ab nb cb):=fun V hV=>by
  obtain⟨u0,u1⟩:=A0x ((hV.block _ (by omega)).trans x0)
  have hV0:Below W0.heap.size W0 V:=h05.trans (hV.mono h05.size)
  exact⟨hV,u0,u1,(A9m ((hV.block _ (by omega)).trans x1)).2.2.2.1,A0c hV0 hn0,A0c hV0 hn1,A0c hV0 hn2⟩
 have hmsg:∀ V,Below W5.heap.size W5 V→Calls Tryz.prog 52 #[.agg #[.slice (some ⟨bm,om,none⟩) nm cm,.slice ae ne ce],.string (S x.type)] V fun e w'=>e = .returned (.int .i64 (j:Int))∧Below W5.heap.size W5 w'∧Below V.heap.size V w':=fun V hV=>by
  have:=A5a (ve:=.slice ae ne ce) (hms.below MAt.stays (h05.trans (hV.mono h05.size))) ⟨ae,ne,ce,rfl⟩ x.type
  rw[Hj1] at this
  exact this.mono fun e w' ⟨h1,h2⟩=>⟨h1,BTr hV h2,h2⟩
 have hD7:Below W5.heap.size W5 W5.drew:=(Below.refl _ _).drew
 obtain⟨_,D0,D1,D2,D3,D4,D5⟩:=hcl7 _ hD7
 have hAl:∀ V o,Below W5.heap.size W5 V→Below W5.heap.size W5 (V.alloc o):=fun V o hV=>hV.alloc hV.size o
 have nF:∀ k,k∈LB.fp d s∨k∈LB.fp d t→k∉own1 (a1,n1,c1)∧k∉own1 (a2,n2,c2)∧k≠g3∧k≠h3∧k < w.heap.size∧W0.heap.size≤k:=fun k hk=>by
  have hon:=honce k
  have hin:k∈VL.fp (LB.fp d) (⟨nu,bi,by',[s],(a1,n1,c1),(a2,n2,c2),(some ⟨g3,0,none⟩,1,c3)⟩:VL (LB d))∨k∈VL.fp (LB.fp d) (⟨mu,bj,bz',[t],(b1,m1,d1),(b2,m2,d2),(some ⟨h3,0,none⟩,1,d3)⟩:VL (LB d)):=by
   rcases hk with hk|hk
   ·left;unfold VL.fp;simp[hk]
   ·right;unfold VL.fp;simp[hk]
  rw[A2a,A2a] at hon
  simp only[List.flatMap_cons,List.flatMap_nil,List.append_nil] at hon
  have hpos:0 < (LB.fp d s).count k+(LB.fp d t).count k:=by
   rcases hk with hk|hk <;> (have:=List.count_pos_iff.2 hk;omega)
  have hw:k < w.heap.size∧W0.heap.size≤k:=by
   rcases hin with hk|hk
   ·exact⟨(hly k hk).2,(hly k hk).1⟩
   ·exact⟨(hlz k hk).2,(hlz k hk).1⟩
  refine⟨fun hm=>?_,fun hm=>?_,fun hm=>?_,fun hm=>?_,hw.1,hw.2⟩
  ·have:=List.count_pos_iff.2 hm;omega
  ·have:=List.count_pos_iff.2 hm;omega
  ·have:0 < (own1 (some ⟨g3,0,none⟩,1,c3)).count k:=List.count_pos_iff.2 (A0q.2 (by rw[hm];rfl));omega
  ·have:0 < (own1 (some ⟨h3,0,none⟩,1,d3)).count k:=List.count_pos_iff.2 (A0q.2 (by rw[hm];rfl));omega
 have hlen:jWB d (LB.pl d s)+jWB d (LB.pl d t)≤1000000000:=by
  have h0:=h.len
  simp only[jW,VL.pl,List.map_cons,List.map_nil,List.sum_cons,List.sum_nil] at h0
  omega
 have hst:∀ k,(LB.fp d s).count k+(LB.fp d t).count k≤1:=fun k=>by
  have hon:=honce k
  rw[A2a,A2a] at hon
  simp only[List.flatMap_cons,List.flatMap_nil,List.append_nil] at hon
  omega
 have os:OwnB W0.heap.size d w s:=h.hy.r3s s (List.mem_singleton.2 rfl)
 have ot:OwnB W0.heap.size d w t:=h.hz.r3s t (List.mem_singleton.2 rfl)
 have hjo:∀ V,Below w.heap.size w V→Calls Tryz.prog 35 #[.agg #[.slice (some ⟨bm,om,none⟩) nm cm,.slice ae ne ce],.agg #[.string (S M.name),.slice af nf cf,.slice ab nb cb],.agg #[.slice s0 s1 s2,.slice s3 s4 s5],.agg #[.slice t0 t1 t2,.slice t3 t4 t5]] V fun e w'=>
   ∃ (c:LB d) (e0:Option Addr) (f0 g0:Nat) (e1:Option Addr) (f1 g1:Nat),e = .returned (.agg #[.slice e0 f0 g0,.slice e1 f1 g1])∧Hid (A6i d c = [.slice e0 f0 g0,.slice e1 f1 g1])∧Hid (LB.pl d c=jnB ms d M (LB.pl d s) (LB.pl d t))∧Hid (OwnB W0.heap.size d w' c)∧Hid (From V (LB.fp d s++LB.fp d t) (LB.fp d c))∧FrB (LB.fp d s++LB.fp d t) V w':=fun V hV=>
  ih V M M.name af nf cf ab nb cb s t s0 s1 s2 s3 s4 s5 t0 t1 t2 t3 t4 t5 (h.below.trans (hV.mono hB0)) HMM.out hfs hes het (os.below hV) (ot.below hV) hst hs1 hs2 hlen
 have HIN:Hid _:=h
 have HNF:Hid _:=nF
 have HON:Hid _:=honce
 clear h hms ih hm hk hM Hj1 Hj2 hfs hbs hc3 hc4 r3y r3z hn0 hn1 hn2 hly hlz honce hst os ot hs1 hs2 hes het xz
 unfold PV.v
 go_enter Tryz.func66,Tryz.ntmps66
 go_wp2_with fail
 rw[←HW5.out]
 go_cut [9] from 36 to 43 (fun s9 wc=>∃ cM:Nat,s9 = .pointer (some ⟨cM,0,none⟩)∧W5.heap.size≤cM∧wc.heap[cM]?=some (.cells #[.string (S M.name),.slice af nf cf,.slice ab nb cb] 48 (0,0))∧Below W5.heap.size W5 wc)
 case first=>
  refine wp_region_held_drew (S:=fun V=>Below W5.heap.size W5 V) (by kernel_rfl) hD7 (fun hHeld=>?_)
  refine tK (i:=0) (v:=?va1) rfl (fun _ _ _ h=>h) ⟨by rfl,?hya1⟩ (by assumption) ?_
  case hya1=>(intro W hSw;obtain⟨_,o1,o2,o3,o4,o5,o6⟩:=hcl7 W hSw;go_simp;first|done|with_reducible rfl)
  try simp only[Act.put,List.setIfInBounds_toArray]
  refine tK (i:=1) (v:=?va2) rfl (fun _ _ _ h=>h) ⟨by rfl,?hya2⟩ (by assumption) ?_
  case hya2=>(intro W hSw;obtain⟨_,o1,o2,o3,o4,o5,o6⟩:=hcl7 W hSw;go_simp;first|done|with_reducible rfl)
  try simp only[Act.put]
  refine tK (i:=2) (v:=?va3) rfl (fun _ _ _ h=>h) ⟨by rfl,?hya3⟩ (by assumption) ?_
  case hya3=>(intro W hSw;obtain⟨_,o1,o2,o3,o4,o5,o6⟩:=hcl7 W hSw;go_simp;first|done|with_reducible rfl)
  try simp only[Act.put]
  refine tK (i:=3) (v:=?va4) rfl (fun _ _ _ h=>h) ⟨by rfl,?hya4⟩ (by assumption) ?_
  case hya4=>(intro W hSw;obtain⟨_,o1,o2,o3,o4,o5,o6⟩:=hcl7 W hSw;go_simp;first|done|with_reducible rfl)
  try simp only[Act.put]
  refine tK (i:=4) (v:=?va5) rfl (fun _ _ _ h=>h) ⟨by rfl,?hya5⟩ (by assumption) ?_
  case hya5=>(intro W hSw;obtain⟨_,o1,o2,o3,o4,o5,o6⟩:=hcl7 W hSw;go_simp;first|done|with_reducible rfl)
  try simp only[Act.put]
  refine wpAnyH_ready (rs:=[5,8]) (by kernel_rfl) (by simp) ?_
  refine AllReadyH.cons rfl (fun K hK=>?_) (AllReadyH.cons rfl (fun K hK=>?_) AllReadyH.nil)
  ·skip
   go_simp
   refine(hmsg _ hD7).mono ?_
   rintro e wG ⟨rfl,hG,hG2⟩
   refine hK.out _ _ ?_ (fun hHeld=>?_)
   ·(try dsimp only);first|with_reducible exact hG|with_reducible exact hAl _ _ hG|with_reducible exact hAl _ _ hD7|exact hAl _ _ hD7|exact A0f (A0f (A0f hG (Nat.le_refl _)) (Nat.le_refl _)) (Nat.le_refl _)
   clear hK K
   try simp only[pT,Act.put]
   refine tK (i:=6) (v:=?va6) rfl (fun _ _ _ h=>h) ⟨by rfl,?hya6⟩ (by assumption) ?_
   case hya6=>(intro W hSw;obtain⟨_,o1,o2,o3,o4,o5,o6⟩:=hcl7 W hSw;go_simp;first|done|with_reducible rfl)
   try simp only[Act.put,List.setIfInBounds_toArray]
   refine tK (i:=7) (v:=?va7) rfl (fun _ _ _ h=>h) ⟨by rfl,?hya7⟩ (by assumption) ?_
   case hya7=>(intro W hSw;obtain⟨_,o1,o2,o3,o4,o5,o6⟩:=hcl7 W hSw;go_simp;first|done|with_reducible rfl)
   try simp only[Act.put]
   refine wpAnyH_ready (rs:=[8]) (by kernel_rfl) (by simp) ?_
   refine AllReadyH.cons rfl (fun K hK=>?_) AllReadyH.nil
   go_simp
   refine hK.out _ _ ?_ (fun hHeld=>?_)
   ·(try dsimp only);first|with_reducible exact hG|with_reducible exact hAl _ _ hG|with_reducible exact hAl _ _ hD7|exact hAl _ _ hD7|exact A0f (A0f (A0f hG (Nat.le_refl _)) (Nat.le_refl _)) (Nat.le_refl _)
   clear hK K
   try simp only[pT,Act.put]
   refine wpAnyH_ready (rs:=[9]) (by kernel_rfl) (by simp) ?_
   refine AllReadyH.cons rfl (fun K hK=>?_) AllReadyH.nil
   go_simp
   refine hK.out _ _ ?_ (fun hHeld=>?_)
   ·(try dsimp only);first|with_reducible exact hG|with_reducible exact hAl _ _ hG|with_reducible exact hAl _ _ hD7|exact hAl _ _ hD7|exact A0f (A0f (A0f hG (Nat.le_refl _)) (Nat.le_refl _)) (Nat.le_refl _)
   clear hK K
   try simp only[pT,Act.put]
   refine wpAnyH_done (by kernel_rfl) ?_ _
   go_wp2_with fail
   go_meet
   exact⟨_,rfl,hG.size,heap_alloc_new _ _,hAl _ _ hG⟩
  ·skip
   go_simp
   refine hK.out _ _ ?_ (fun hHeld=>?_)
   ·(try dsimp only);first|with_reducible exact hG|with_reducible exact hAl _ _ hG|with_reducible exact hAl _ _ hD7|exact hAl _ _ hD7|exact A0f (A0f (A0f hG (Nat.le_refl _)) (Nat.le_refl _)) (Nat.le_refl _)
   clear hK K
   try simp only[pT,Act.put]
   refine wpAnyH_ready (rs:=[5]) (by kernel_rfl) (by simp) ?_
   refine AllReadyH.cons rfl (fun K hK=>?_) AllReadyH.nil
   go_simp
   refine(hmsg _ (hAl _ _ hD7)).mono ?_
   rintro e wG ⟨rfl,hG,hG2⟩
   have xB:=(hG2.block W5.heap.size (by simp)).trans (heap_alloc_new _ _)
   obtain⟨xB0,xB1,xB2⟩:=A6o xB
   have xBf0:=A0b xB 0
   have xBf1:=A0b xB 1
   have xBf2:=A0b xB 2
   refine hK.out _ _ ?_ (fun hHeld=>?_)
   ·(try dsimp only);first|with_reducible exact hG|with_reducible exact hAl _ _ hG|with_reducible exact hAl _ _ hD7|exact hAl _ _ hD7|exact A0f (A0f (A0f hG (Nat.le_refl _)) (Nat.le_refl _)) (Nat.le_refl _)
   clear hK K
   try simp only[pT,Act.put]
   refine tK (i:=6) (v:=?va8) rfl (fun _ _ _ h=>h) ⟨by rfl,?hya8⟩ (by assumption) ?_
   case hya8=>(intro W hSw;obtain⟨_,o1,o2,o3,o4,o5,o6⟩:=hcl7 W hSw;go_simp;first|done|with_reducible rfl)
   try simp only[Act.put,List.setIfInBounds_toArray]
   refine tK (i:=7) (v:=?va9) rfl (fun _ _ _ h=>h) ⟨by rfl,?hya9⟩ (by assumption) ?_
   case hya9=>(intro W hSw;obtain⟨_,o1,o2,o3,o4,o5,o6⟩:=hcl7 W hSw;go_simp;first|done|with_reducible rfl)
   try simp only[Act.put]
   refine wpAnyH_ready (rs:=[9]) (by kernel_rfl) (by simp) ?_
   refine AllReadyH.cons rfl (fun K hK=>?_) AllReadyH.nil
   go_simp
   refine hK.out _ _ ?_ (fun hHeld=>?_)
   ·(try dsimp only);first|with_reducible exact hG|with_reducible exact hAl _ _ hG|with_reducible exact hAl _ _ hD7|exact hAl _ _ hD7|exact A0f (A0f (A0f hG (Nat.le_refl _)) (Nat.le_refl _)) (Nat.le_refl _)
   clear hK K
   try simp only[pT,Act.put]
   refine wpAnyH_done (by kernel_rfl) ?_ _
   go_wp2_with fail
   go_meet
   exact⟨_,rfl,Nat.le_refl _,heap_setCell_same _ _ 2 _ _ _ (heap_setCell_same _ _ 1 _ _ _ (heap_setCell_same _ _ 0 _ _ _ xB)),A0f (A0f (A0f hG (Nat.le_refl _)) (Nat.le_refl _)) (Nat.le_refl _)⟩
 case rest=>
  obtain⟨cM,rfl,hcM,xM,hWc⟩:=hcut
  have hzc:=hWc.size
  have hDr:Below w.heap.size w wc.drew:=(hb5.trans (hWc.mono hb5.size)).drew
  have zD:wc.drew.heap.size=wc.heap.size:=rfl
  obtain⟨Q8,HQ8⟩:∃ Q8:World→Prop,Hid (∀ V,Q8 V↔(V.cell? ⟨w.heap.size,0,none⟩=some (.slice (some ⟨bm,om,none⟩) nm cm)∧V.cell? ⟨w.heap.size,1,none⟩=some (.slice ae ne ce)∧V.cell? ⟨cM,0,none⟩=some (.string (S M.name))∧V.cell? ⟨cM,1,none⟩=some (.slice af nf cf)∧V.cell? ⟨cM,2,none⟩=some (.slice ab nb cb)∧V.cell? ⟨w.heap.size+3,3,none⟩=some (.slice (some ⟨h3,0,none⟩) 1 d3)∧V.cell? ⟨g3,0,none⟩=some (.slice s0 s1 s2)∧V.cell? ⟨g3,1,none⟩=some (.slice s3 s4 s5)∧V.cell? ⟨h3,0,none⟩=some (.slice t0 t1 t2)∧V.cell? ⟨h3,1,none⟩=some (.slice t3 t4 t5))):=⟨_,fun _=>Iff.rfl⟩
  have b5:∀ k,k < W5.heap.size→wc.drew.heap[k]?=W5.heap[k]?:=fun k hk=>hWc.block k hk
  have hQ0:Q8 wc.drew:=by
   obtain⟨u0,u1⟩:=A0x ((b5 _ (by omega)).trans x0)
   obtain⟨v0,v1,v2⟩:=A6o (show wc.drew.heap[cM]?=_ from xM)
   exact(HQ8.out _).2 ⟨u0,u1,v0,v1,v2,(A3k ((b5 _ (by omega)).trans x3)).2.2.2,A0c hDr cs0,A0c hDr cs1,A0c hDr ct0,A0c hDr ct1⟩
  have lcM:cM < wc.drew.heap.size:=by
   rcases Nat.lt_or_ge cM wc.heap.size with h|h
   ·exact h
   ·rw[Array.getElem?_eq_none h] at xM;cases xM
  have nJ:∀ k,w.heap.size≤k∨k=g3∨k=h3→k∉LB.fp d s++LB.fp d t:=fun k hk hm=>by
   obtain⟨_,_,q3,q4,q5,_⟩:=HNF.out k (List.mem_append.1 hm)
   omega
  have hQj:∀ wJ,FrB (LB.fp d s++LB.fp d t) wc.drew wJ→Q8 wJ:=fun wJ hJ=>by
   have e1:=A1r (hJ.blk (k:=w.heap.size) (by omega) (nJ _ (by omega)))
   have e2:=A1r (hJ.blk (k:=cM) (by omega) (nJ _ (by omega)))
   have e3:=A1r (hJ.blk (k:=w.heap.size+3) (by omega) (nJ _ (by omega)))
   have e4:=A1r (hJ.blk (k:=g3) (by omega) (nJ _ (by omega)))
   have e5:=A1r (hJ.blk (k:=h3) (by omega) (nJ _ (by omega)))
   rw[HQ8.out,e1,e1,e2,e2,e2,e3,e4,e4,e5,e5]
   exact(HQ8.out _).1 hQ0
  have hFj:∀ wJ,FrB (LB.fp d s++LB.fp d t) wc.drew wJ→wJ.heap[w.heap.size+2]?=some (.cells #[.int .i64 nu,.slice a1 n1 c1,.slice a2 n2 c2,.slice (some ⟨g3,0,none⟩) 1 c3] 34 (0,0)):=fun wJ hJ=>(hJ.blk (by omega) (nJ _ (by omega))).trans ((b5 _ (by omega)).trans x2)
  have hRj:∀ wJ,FrB (LB.fp d s++LB.fp d t) wc.drew wJ→wJ.heap[w.heap.size+4]?=some (.cells #[.int .i64 0,.slice none 0 0,.slice none 0 0,.slice none 0 0] 34 (0,0)):=fun wJ hJ=>(hJ.blk (by omega) (nJ _ (by omega))).trans ((b5 _ (by omega)).trans x4)
  have hQa:∀ V,Q8 V→∀ o,Q8 (V.alloc o):=fun V hV o=>by
   have hb:Below V.heap.size V (V.alloc o):=(Below.refl _ _).alloc (Nat.le_refl _) _
   obtain⟨q1,q2,q3,q4,q5,q6,q7,q8,q9,q10⟩:=(HQ8.out V).1 hV
   exact(HQ8.out _).2 ⟨A0c hb q1,A0c hb q2,A0c hb q3,A0c hb q4,A0c hb q5,A0c hb q6,A0c hb q7,A0c hb q8,A0c hb q9,A0c hb q10⟩
  have hQs:∀ V,Q8 V→∀ v,Q8 (V.setCell ⟨w.heap.size+2,3,none⟩ v):=fun V hV v=>by
   have e:=fun k (hk:k≠w.heap.size+2)=>A1r (V:=V) (V':=V.setCell ⟨w.heap.size+2,3,none⟩ v) (heap_setCell_other V ⟨w.heap.size+2,3,none⟩ k v hk)
   rw[HQ8.out,e _ (by omega),e _ (by omega),e _ (by omega),e _ (by omega),e _ (by omega),e _ (by omega),e _ (by omega),e _ (by omega),e _ (by omega),e _ (by omega)]
   exact(HQ8.out _).1 hV
  have hF0:=(b5 _ (show w.heap.size+2 < W5.heap.size by omega)).trans x2
  have j3:=(A3k hF0).2.2.2
  clear x0 x1 x2 x3 x4 xM hcl7 hmsg hAl D0 D1 D2 D3 D4 D5 hD7 hWc b5
  go_wp2_with fail
  refine wp_region_held_drew (S:=Q8) (by kernel_rfl) hQ0 (fun hHeld=>?_)
  refine tK (i:=0) (v:=?vb1) rfl (fun _ _ _ h=>h) ⟨by rfl,?hyb1⟩ (by assumption) ?_
  case hyb1=>(intro W hSw;obtain⟨o1,o2,o3,o4,o5,o6,o7,o8,o9,o10⟩:=(HQ8.out W).1 hSw;go_simp;first|done|with_reducible rfl)
  try simp only[Act.put,List.setIfInBounds_toArray]
  refine tK (i:=1) (v:=?vb2) rfl (fun _ _ _ h=>h) ⟨by rfl,?hyb2⟩ (by assumption) ?_
  case hyb2=>(intro W hSw;obtain⟨o1,o2,o3,o4,o5,o6,o7,o8,o9,o10⟩:=(HQ8.out W).1 hSw;go_simp;first|done|with_reducible rfl)
  try simp only[Act.put]
  refine tK (i:=2) (v:=?vb3) rfl (fun _ _ _ h=>h) ⟨by rfl,?hyb3⟩ (by assumption) ?_
  case hyb3=>(intro W hSw;obtain⟨o1,o2,o3,o4,o5,o6,o7,o8,o9,o10⟩:=(HQ8.out W).1 hSw;go_simp;first|done|with_reducible rfl)
  try simp only[Act.put]
  refine tK (i:=6) (v:=?vb4) rfl (fun _ _ _ h=>h) ⟨by rfl,?hyb4⟩ (by assumption) ?_
  case hyb4=>(intro W hSw;obtain⟨o1,o2,o3,o4,o5,o6,o7,o8,o9,o10⟩:=(HQ8.out W).1 hSw;go_simp;first|done|with_reducible rfl)
  try simp only[Act.put]
  refine tK (i:=7) (v:=?vb5) rfl (fun _ _ _ h=>h) ⟨by rfl,?hyb5⟩ (by assumption) ?_
  case hyb5=>(intro W hSw;obtain⟨o1,o2,o3,o4,o5,o6,o7,o8,o9,o10⟩:=(HQ8.out W).1 hSw;go_simp;first|done|with_reducible rfl)
  try simp only[Act.put]
  refine tK (i:=8) (v:=?vb6) rfl (fun _ _ _ h=>h) ⟨by rfl,?hyb6⟩ (by assumption) ?_
  case hyb6=>(intro W hSw;obtain⟨o1,o2,o3,o4,o5,o6,o7,o8,o9,o10⟩:=(HQ8.out W).1 hSw;go_simp;first|done|with_reducible rfl)
  try simp only[Act.put]
  refine tK (i:=9) (v:=?vb7) rfl (fun _ _ _ h=>h) ⟨by rfl,?hyb7⟩ (by assumption) ?_
  case hyb7=>(intro W hSw;obtain⟨o1,o2,o3,o4,o5,o6,o7,o8,o9,o10⟩:=(HQ8.out W).1 hSw;go_simp;first|done|with_reducible rfl)
  try simp only[Act.put]
  refine wpAnyH_ready (rs:=[3]) (by kernel_rfl) (by simp) ?_
  refine AllReadyH.cons rfl (fun K hK=>?_) AllReadyH.nil
  go_simp
  refine hK.out _ _ ?_ (fun hHeld=>?_)
  ·(try dsimp only);with_reducible first|exact hQ0|exact hQJ|exact hQA|exact hQS
  clear hK K
  try simp only[pT,Act.put]
  refine tK (i:=4) (v:=?vb8) rfl (fun _ _ _ h=>h) ⟨by rfl,?hyb8⟩ (by assumption) ?_
  case hyb8=>(intro W hSw;obtain⟨o1,o2,o3,o4,o5,o6,o7,o8,o9,o10⟩:=(HQ8.out W).1 hSw;go_simp;first|done|with_reducible rfl)
  try simp only[Act.put,List.setIfInBounds_toArray]
  refine tK (i:=5) (v:=?vb9) rfl (fun _ _ _ h=>h) ⟨by rfl,?hyb9⟩ (by assumption) ?_
  case hyb9=>(intro W hSw;obtain⟨o1,o2,o3,o4,o5,o6,o7,o8,o9,o10⟩:=(HQ8.out W).1 hSw;go_simp;first|done|with_reducible rfl)
  try simp only[Act.put]
  refine wpAnyH_ready (rs:=[10]) (by kernel_rfl) (by simp) ?_
  refine AllReadyH.cons rfl (fun K hK=>?_) AllReadyH.nil
  go_simp
  refine(hjo _ hDr).mono ?_
  rintro e wJ ⟨c,e0,f0,g0,e1,f1,g1,rfl,HEc,hpl,hoc,hfrom,hfj⟩
  have hQJ:=hQj wJ hfj
  have hzJ:=hfj.size
  have jF:=hFj wJ hfj
  have hQA:=hQa wJ hQJ (.cells #[.slice e0 f0 g0,.slice e1 f1 g1] 29)
  have jA:=(Below.heap_alloc wJ (.cells #[.slice e0 f0 g0,.slice e1 f1 g1] 29) (w.heap.size+2) (by omega)).trans jF
  have jf:=A0b jA 3
  have jc3:=(A3k jA).2.2.2
  have hQS:=hQs _ hQA (.slice (some ⟨wJ.heap.size,0,none⟩) 1 1)
  refine hK.out _ _ ?_ (fun hHeld=>?_)
  ·(try dsimp only);with_reducible first|exact hQ0|exact hQJ|exact hQA|exact hQS
  clear hK K
  try simp only[pT,Act.put]
  refine wpAnyH_ready (rs:=[11]) (by kernel_rfl) (by simp) ?_
  refine AllReadyH.cons rfl (fun K hK=>?_) AllReadyH.nil
  go_simp
  refine hK.out _ _ ?_ (fun hHeld=>?_)
  ·(try dsimp only);with_reducible first|exact hQ0|exact hQJ|exact hQA|exact hQS
  clear hK K
  try simp only[pT,Act.put]
  refine tK (i:=12) (v:=?vb10) rfl (fun _ _ _ h=>h) ⟨by rfl,?hyb10⟩ (by assumption) ?_
  case hyb10=>(intro W hSw;obtain⟨o1,o2,o3,o4,o5,o6,o7,o8,o9,o10⟩:=(HQ8.out W).1 hSw;go_simp;first|done|with_reducible rfl)
  try simp only[Act.put,List.setIfInBounds_toArray]
  refine wpAnyH_ready (rs:=[13]) (by kernel_rfl) (by simp) ?_
  refine AllReadyH.cons rfl (fun K hK=>?_) AllReadyH.nil
  go_simp
  refine hK.out _ _ ?_ (fun hHeld=>?_)
  ·(try dsimp only);with_reducible first|exact hQ0|exact hQJ|exact hQA|exact hQS
  clear hK K
  try simp only[pT,Act.put]
  refine wpAnyH_done (by kernel_rfl) ?_ _
  obtain⟨WS,HWS⟩:∃ WS,Hid (WS=(wJ.alloc (.cells #[.slice e0 f0 g0,.slice e1 f1 g1] 29)).setCell ⟨w.heap.size+2,3,none⟩ (.slice (some ⟨wJ.heap.size,0,none⟩) 1 1)):=⟨_,rfl⟩
  have yF:WS.heap[w.heap.size+2]?=some (.cells #[.int .i64 nu,.slice a1 n1 c1,.slice a2 n2 c2,.slice (some ⟨wJ.heap.size,0,none⟩) 1 1] 34 (0,0)):=by rw[HWS.out];exact heap_setCell_same _ _ 3 _ _ _ jA
  have yR:WS.heap[w.heap.size+4]?=some (.cells #[.int .i64 0,.slice none 0 0,.slice none 0 0,.slice none 0 0] 34 (0,0)):=by
   rw[HWS.out,heap_setCell_other _ _ _ _ (show w.heap.size+4≠w.heap.size+2 by omega),Below.heap_alloc _ _ _ (by omega)]
   exact hRj wJ hfj
  have HG4:Hid (FrB [w.heap.size+2] (wJ.alloc (.cells #[.slice e0 f0 g0,.slice e1 f1 g1] 29)) WS):=by rw[HWS.out];exact A1b jA (by decide)
  obtain⟨yF0,yF1,yF2,yF3⟩:=A3k yF
  obtain⟨yR0,yR1,yR2,yR3⟩:=A3k yR
  have yr0:=A0b yR 0
  have yr1:=A0b yR 1
  have yr2:=A0b yR 2
  have yr3:=A0b yR 3
  have HG5:Hid _:=fr4 yR (x0:=.int .i64 nu) (x1:=.slice a1 n1 c1) (x2:=.slice a2 n2 c2) (x3:=.slice (some ⟨wJ.heap.size,0,none⟩) 1 1)
  have HR3:Hid (Row (ekB d) (wJ.alloc (.cells #[.slice e0 f0 g0,.slice e1 f1 g1] 29)) W0.heap.size (.slice (some ⟨wJ.heap.size,0,none⟩) 1 1) [c]):=by
   have:=Row.one (base:=W0.heap.size) (ekB d) wJ c (by omega)
   rwa [show(ekB d).enc c = [.slice e0 f0 g0,.slice e1 f1 g1] from HEc.out] at this
  have zA:(wJ.alloc (.cells #[.slice e0 f0 g0,.slice e1 f1 g1] 29)).heap.size=wJ.heap.size+1:=by simp
  have HT:Hid (FrB [w.heap.size+2,w.heap.size+4] (wJ.alloc (.cells #[.slice e0 f0 g0,.slice e1 f1 g1] 29)) _):=HG4.out.trans HG5.out (fun i hi=>by simp at hi;simp[hi]) (fun i hi=>.inl (by simp at hi;simp[hi]))
  have HT2:Hid (FrB (LB.fp d s++LB.fp d t) w _):=(((FrB.of_below hDr:FrB (LB.fp d s++LB.fp d t) w wc.drew).trans hfj (H:=LB.fp d s++LB.fp d t) (fun _ hi=>hi) (fun _ hi=>.inl hi)).on ((Below.refl _ wJ).alloc (Nat.le_refl _) (.cells #[.slice e0 f0 g0,.slice e1 f1 g1] 29))).trans HT.out (fun _ hi=>hi) (fun i hi=>.inr (by simp only[List.mem_cons,List.mem_nil_iff,or_false] at hi;omega))
  have zA':=Nat.le_of_eq zA
  clear zA jF jA hQA hQS hQJ yF yR hHeld hFj hRj hQa hQs hQj jf jc3
  rw[←HWS.out]
  go_wp2_with fail
  refine bodyPost_ret (v:=.agg #[.int .i64 nu,.slice a1 n1 c1,.slice a2 n2 c2,.slice (some ⟨wJ.heap.size,0,none⟩) 1 1]) (by simp[results,Tryz.results66,go_sem, *]) rfl ?_
  have T:=HT2.out
  have hy:=HIN.out.hy
  have hz:=HIN.out.hz
  have lc:∀ k∈LB.fp d c,(k < w.heap.size∨wc.drew.heap.size≤k)∧k < wJ.heap.size:=fun k hk=>⟨(hfrom.out.mem hk).imp (fun h=>(HNF.out k (List.mem_append.1 h)).2.2.2.2.1) id,(OwnB.inB d hoc.out k hk).2⟩
  have n1':∀ k∈own1 (a1,n1,c1),k∉LB.fp d s++LB.fp d t:=fun k hk hm=>(HNF.out k (List.mem_append.1 hm)).1 hk
  have n2':∀ k∈own1 (a2,n2,c2),k∉LB.fp d s++LB.fp d t:=fun k hk hm=>(HNF.out k (List.mem_append.1 hm)).2.1 hk
  have hr1:=Row.frB (p:=(a1,n1,c1)) hy.r1 T n1'
  have hr2:=Row.frB (p:=(a2,n2,c2)) hy.r2 T n2'
  have hr2y:∀ zz∈by',_:=fun zz hz=>(hy.r2y zz hz).frY T
  refine⟨⟨nu,bi,by',[c],(a1,n1,c1),(a2,n2,c2),(some ⟨wJ.heap.size,0,none⟩,1,1)⟩,rfl,?_,⟨hr1,hr2,hr2y,?_,fun s' hs'=>?_⟩,⟨hr1,hr2,hr2y,?_,fun _ _=>trivial⟩,fun k=>?_,?_⟩
  ·rw[HE.out,←hpl.out]
   rfl
  ·refine Row.frB (p:=(some ⟨wJ.heap.size,0,none⟩,1,1)) HR3.out HT.out fun k hk hm=>?_
   have:k=wJ.heap.size:=by simpa [own1,PV.v,Value.ownBlock] using hk
   simp only[List.mem_cons,List.mem_nil_iff,or_false] at hm
   omega
  ·obtain rfl:=List.mem_singleton.1 hs'
   refine OwnB.fr d _ _ _ _ (hoc.out.below ((Below.refl _ wJ).alloc (Nat.le_refl _) (.cells #[.slice e0 f0 g0,.slice e1 f1 g1] 29))) HT.out fun k hk hm=>?_
   have:=lc k hk
   simp only[List.mem_cons,List.mem_nil_iff,or_false] at hm
   omega
  ·refine Row.frB (p:=(some ⟨g3,0,none⟩,1,c3)) hy.r3 T fun k hk=>?_
   have:k=g3:=by simpa [own1,PV.v,Value.ownBlock] using hk
   exact nJ k (by omega)
  ·have hon:=HON.out k
   have hf:=hfrom.out k
   rw[List.count_append] at hf ⊢
   rw[A2a,A2a] at hon ⊢
   rw[A2a]
   simp only[List.flatMap_cons,List.flatMap_nil,List.append_nil] at hon ⊢
   have o3:=A3g (some ⟨wJ.heap.size,0,none⟩,1,1) k
   have c3':0 < (own1 (some ⟨wJ.heap.size,0,none⟩,1,1)).count k→k=wJ.heap.size:=fun h=>by simpa [own1,PV.v,Value.ownBlock] using A0t h
   have u1:0 < (own1 (a1,n1,c1)).count k→k < w.heap.size:=fun h=>(Row.own1 (p:=(a1,n1,c1)) hy.r1 k (A0t h)).2
   have u2:0 < (own1 (a2,n2,c2)).count k→k < w.heap.size:=fun h=>(Row.own1 (p:=(a2,n2,c2)) hy.r2 k (A0t h)).2
   have u4:0 < (LB.fp d c).count k→(k < w.heap.size∨wc.drew.heap.size≤k)∧k < wJ.heap.size:=fun h=>lc k (A0t h)
   refine⟨?_,fun _=>?_⟩ <;> omega
  ·exact T.mono fun k hk=>by
    rcases List.mem_append.1 hk with hk|hk
    ·exact List.mem_append_left _ (by unfold VL.fp;simp[hk])
    ·exact List.mem_append_right _ (by unfold VL.fp;simp[hk])
end L
end Go.Proofs.YtelmjekjohbmjaaGreatDoor
