import Derived.Test.YtelmjekjohbmjaaGreatDoorY25
import Derived.Deep.LoopGhost
namespace Go.Proofs.YtelmjekjohbmjaaGreatDoor
namespace L
open Go.RowKit
set_option linter.unusedVariables false
theorem B6h {α β:Type}{f : α→β}{l:List α}{b : β}(h:l.map f = [b]):∃ a,l = [a]∧f a=b:=by
 match l,h with
 | [a],h=>exact⟨a,rfl,by simpa using h⟩
theorem C0m {d:Nat}{W0 w:World}{ms:List MI}{y z:VL (LB d)}(h:MetIn d W0 w y z){am:Option Addr}{nm cm:Nat}{ae:Option Addr}{ne ce:Nat}(hms:RdL 3 MAt W0 (.slice am nm cm) ms) (ih:A3b W0 ms am nm cm ae ne ce d) (x:FI)
  (hy:x.many=false→x.kind=10→∃ M s,ms.find? (isN x.type)=some M∧(VL.pl (LB.pl d) y).subs = [s]∧ShB ms d M s) (hz:x.many=false→x.kind=10→∃ M s,ms.find? (isN x.type)=some M∧(VL.pl (LB.pl d) z).subs = [s]∧ShB ms d M s) :
  Calls Tryz.prog 66 #[.agg #[.slice am nm cm,.slice ae ne ce],vFI x,.agg #[.int .i64 y.number,y.p1.v,y.p2.v,y.p3.v],.agg #[.int .i64 z.number,z.p1.v,z.p2.v,z.p3.v]] w fun e w'=>B2a ms d W0 w x y z e w':=by
 cases hm:x.many with
 | true=>exact B8x h am nm cm ae ne ce x hm
 | false=>
  by_cases hk:x.kind=10
  ·obtain⟨M,s',h1,h2,h3⟩:=hy hm hk
   obtain⟨M2,t',g1,g2,g3⟩:=hz hm hk
   have hMM:M2=M:=by rw[h1] at g1;exact(Option.some.inj g1).symm
   subst hMM
   obtain⟨s,hs,rfl⟩:=B6h h2
   obtain⟨t,ht,rfl⟩:=B6h g2
   exact C0n h hms ih x hm hk h1 hs ht h3 g3
  ·exact B8w h am nm cm ae ne ce x hm hk
theorem A8z {α:Type}{p : α→Bool}{l:List α}{a : α}(h:l.find? p=some a):∃ j:Nat,A0i p l=(j:Int)∧l[j]?=some a:=by
 rw[List.find?_eq_getElem?_findIdx] at h
 have hlt:l.findIdx p < l.length:=(List.getElem?_eq_some_iff.1 h).1
 refine⟨_,?_,h⟩
 unfold A0i
 rw[List.findIdx?_eq_some_iff_findIdx_eq.2 ⟨hlt,rfl⟩]
theorem B9q {α:Type}(f : α→Nat){l:List α}{i:Nat}{a : α}(h:l[i]?=some a):((l.take i).map f).sum+f a≤(l.map f).sum:=by
 have h2:l.take (i+1)=l.take i++[a]:=by rw[List.take_add_one,h];rfl
 have h3:(l.map f).sum=((l.take (i+1)).map f).sum+((l.drop (i+1)).map f).sum:=by rw[←List.sum_append,←List.map_append,List.take_append_drop]
 rw[h2] at h3
 simp only[List.map_append,List.sum_append,List.map_cons,List.map_nil,List.sum_cons,List.sum_nil] at h3
 omega
theorem B1w {α:Type}(f : α→Nat):∀ {l:List α}{a : α},a∈l→f a≤(l.map f).sum
 | b::l,a,h=>by
  simp only[List.map_cons,List.sum_cons]
  rcases List.mem_cons.1 h with rfl|h
  ·omega
  ·have:=B1w f h;omega
theorem B3z {w:World}{k i:Nat}{v:Value}(h:w.cell? ⟨k,i,none⟩=some v):k < w.heap.size:=by
 rcases Nat.lt_or_ge k w.heap.size with h1|h1
 ·exact h1
 ·unfold World.cell? at h
  rw[Array.getElem?_eq_none h1] at h
  cases h
theorem C0j {w:World}{g:Nat}{cs:Array Value}{x0 x1:Value}(h:w.heap[g]?=some (.cells cs 29 (0,0))):FrB [g] w ((w.setCell ⟨g,0,none⟩ x0).setCell ⟨g,1,none⟩ x1):=
 A1v (A1b h (by decide)) (A1b (heap_setCell_same _ _ 0 _ _ x0 h) (by decide))
set_option maxHeartbeats 8000000 in
set_option maxRecDepth 100000 in
theorem B1p {d:Nat}{W0:World}{ms:List MI}{am:Option Addr}{nm cm:Nat}{ae:Option Addr}{ne ce:Nat}(hms:RdL 3 MAt W0 (.slice am nm cm) ms) (hok:∀ M∈ms,(∀ f∈M.fields,I64 f.number∧I64 f.choice)∧M.fields.length≤140737488355328) (ih:A3b W0 ms am nm cm ae ne ce d):A3b W0 ms am nm cm ae ne ce (d+1):=by
 intro w M s af nf cf ab nb cb a b a0 n0 c0 a1 n1 c1 b0 m0 d0 b1 m1 d1 h0 hM hf hea heb ha hb honce hsa hsb hlen
 obtain⟨va,ua,⟨a0',n0',c0'⟩,⟨a1',n1',c1'⟩⟩:=a
 obtain⟨vb,ub,⟨b0',m0',d0'⟩,⟨b1',m1',d1'⟩⟩:=b
 obtain⟨⟨rfl,rfl,rfl⟩,rfl,rfl,rfl⟩:(a0=a0'∧n0=n0'∧c0=c0')∧a1=a1'∧n1=n1'∧c1=c1':=by
  have : [Value.slice a0 n0 c0,Value.slice a1 n1 c1] = [.slice a0' n0' c0',.slice a1' n1' c1']:=hea.symm
  simpa using this
 obtain⟨⟨rfl,rfl,rfl⟩,rfl,rfl,rfl⟩:(b0=b0'∧m0=m0'∧d0=d0')∧b1=b1'∧m1=m1'∧d1=d1':=by
  have : [Value.slice b0 m0 d0,Value.slice b1 m1 d1] = [.slice b0' m0' d0',.slice b1' m1' d1']:=heb.symm
  simpa using this
 clear hea heb
 have oa:OwnL (ekB d) (OwnB W0.heap.size d) w W0.heap.size ⟨va,ua,(a0,n0,c0),(a1,n1,c1)⟩:=ha
 have ob:OwnL (ekB d) (OwnB W0.heap.size d) w W0.heap.size ⟨vb,ub,(b0,m0,d0),(b1,m1,d1)⟩:=hb
 have rb0:Row (ekV (LB d)) w W0.heap.size (.slice b0 m0 d0) vb:=ob.r0
 obtain⟨L0,HL0⟩:∃ L0,Hid (L0=LB.fp (d+1) (⟨va,ua,(a0,n0,c0),(a1,n1,c1)⟩:BL (LB d))++LB.fp (d+1) (⟨vb,ub,(b0,m0,d0),(b1,m1,d1)⟩:BL (LB d))):=⟨_,rfl⟩
 obtain⟨W5,HW5⟩:∃ W5,Hid (W5=((((w.alloc (.cells #[.slice am nm cm,.slice ae ne ce] 25)).alloc (.cells #[.string (S s),.slice af nf cf,.slice ab nb cb] 48)).alloc (.cells #[.slice a0 n0 c0,.slice a1 n1 c1] 29)).alloc (.cells #[.slice b0 m0 d0,.slice b1 m1 d1] 29)).alloc (.cells #[.slice none 0 0,.slice none 0 0] 29)):=⟨_,rfl⟩
 have hb5:Below w.heap.size w W5:=by rw[HW5.out];exact(((((Below.refl _ _).alloc (Nat.le_refl _) _).alloc (by simp) _).alloc (by simp;omega) _).alloc (by simp;omega) _).alloc (by simp;omega) _
 obtain⟨x0,x1,x2,x3,x4,xz⟩:=B2c w (.cells #[.slice am nm cm,.slice ae ne ce] 25) (.cells #[.string (S s),.slice af nf cf,.slice ab nb cb] 48) (.cells #[.slice a0 n0 c0,.slice a1 n1 c1] 29) (.cells #[.slice b0 m0 d0,.slice b1 m1 d1] 29) (.cells #[.slice none 0 0,.slice none 0 0] 29)
 rw[←HW5.out] at x0 x1 x2 x3 x4 xz
 have z5:=Nat.le_of_eq xz
 have z5':=Nat.le_of_eq xz.symm
 have hB0:=h0.size
 have h05:Below W0.heap.size W0 W5:=h0.trans (hb5.mono hB0)
 have lL:∀ k∈L0,W0.heap.size≤k∧k < w.heap.size:=fun k hk=>by
  rw[HL0.out] at hk
  rcases List.mem_append.1 hk with hk|hk
  ·exact OwnB.inB (d+1) ha k hk
  ·exact OwnB.inB (d+1) hb k hk
 have lc:∀ k,w.heap.size≤k→L0.count k=0:=fun k hk=>B8j (n:=w.heap.size) (fun i hi=>(lL i hi).2) hk
 have hJ0:JSt d W0.heap.size W5 L0 ⟨vb,ub,(b0,m0,d0),(b1,m1,d1)⟩ W5 ⟨va,ua,(a0,n0,c0),(a1,n1,c1)⟩ vb:=by
  have oa':OwnL (ekB d) (OwnB W0.heap.size d) W5 W0.heap.size ⟨va,ua,(a0,n0,c0),(a1,n1,c1)⟩:=OwnB.below (d:=d+1) ha hb5
  have ob':OwnL (ekB d) (OwnB W0.heap.size d) W5 W0.heap.size ⟨vb,ub,(b0,m0,d0),(b1,m1,d1)⟩:=OwnB.below (d:=d+1) hb hb5
  refine⟨oa',ob'.r0v,ob'.r0,ob'.r1,ob'.r1y,fun k=>?_⟩
  have h1:(BL.fp (LB.fp d) (⟨va,ua,(a0,n0,c0),(a1,n1,c1)⟩:BL (LB d))).count k+(BL.fp (LB.fp d) (⟨vb,ub,(b0,m0,d0),(b1,m1,d1)⟩:BL (LB d))).count k≤1:=honce k
  have h2:L0.count k=(BL.fp (LB.fp d) (⟨va,ua,(a0,n0,c0),(a1,n1,c1)⟩:BL (LB d))).count k+(BL.fp (LB.fp d) (⟨vb,ub,(b0,m0,d0),(b1,m1,d1)⟩:BL (LB d))).count k:=by rw[HL0.out,List.count_append];rfl
  rw[A5k,A5k] at h1 h2
  unfold A6h
  dsimp only at h1 h2 ⊢
  omega
 obtain⟨fok,fl⟩:=hok M hM
 have hbl:∀ V,FrB (L0++[w.heap.size+2]) W5 V→Below W0.heap.size W0 V:=fun V hV=>h05.trans (hV.below h05.size fun k hk=>by
  rcases List.mem_append.1 hk with hk|hk
  ·exact(lL k hk).1
  ·rw[List.mem_singleton] at hk;omega)
 have nL:∀ k,w.heap.size≤k→k≠w.heap.size+2→k∉L0++[w.heap.size+2]:=fun k h1 h2 hm=>by
  rcases List.mem_append.1 hm with hm|hm
  ·have:=(lL k hm).2;omega
  ·rw[List.mem_singleton] at hm;omega
 have hkeep:∀ V,FrB (L0++[w.heap.size+2]) W5 V→V.heap[w.heap.size]?=some (.cells #[.slice am nm cm,.slice ae ne ce] 25 (0,0))∧V.heap[w.heap.size+1]?=some (.cells #[.string (S s),.slice af nf cf,.slice ab nb cb] 48 (0,0))∧V.heap[w.heap.size+3]?=some (.cells #[.slice b0 m0 d0,.slice b1 m1 d1] 29 (0,0))∧V.heap[w.heap.size+4]?=some (.cells #[.slice none 0 0,.slice none 0 0] 29 (0,0)):=fun V hV=>
  ⟨(hV.blk (by omega) (nL _ (by omega) (by omega))).trans x0,(hV.blk (by omega) (nL _ (by omega) (by omega))).trans x1,(hV.blk (by omega) (nL _ (by omega) (by omega))).trans x3,(hV.blk (by omega) (nL _ (by omega) (by omega))).trans x4⟩
 have hext:∀ V V' F,FrB (L0++[w.heap.size+2]) W5 V→FrB F V V'→(∀ k∈F,k < W5.heap.size→k∈L0++[w.heap.size+2])→FrB (L0++[w.heap.size+2]) W5 V':=fun V V' F h1 h2 h3=>h1.trans h2 (fun _ hi=>hi) fun i hi=>by
  by_cases hk:i < W5.heap.size
  ·exact .inl (h3 i hi hk)
  ·exact .inr (by omega)
 have hfl:m0=vb.length:=rb0.len
 have hm0:(m0:Int)≤1000000000:=by
  have h1:=A2x (jW (jWB d)) (fun v=>by unfold jW;omega) (vb.map (VL.pl (LB.pl d)))
  have h2:((va.map (VL.pl (LB.pl d))).map (jW (jWB d))).sum+(ua.map Prod.fst).length+(((vb.map (VL.pl (LB.pl d))).map (jW (jWB d))).sum+(ub.map Prod.fst).length)≤1000000000:=hlen
  rw[List.length_map] at h1
  omega
 have HLen:Hid (((va.map (VL.pl (LB.pl d))).map (jW (jWB d))).sum+(ua.map Prod.fst).length+(((vb.map (VL.pl (LB.pl d))).map (jW (jWB d))).sum+(ub.map Prod.fst).length)≤1000000000):=hlen
 have HSA:Hid (∀ v∈va.map (VL.pl (LB.pl d)),ShV (ShB ms d) ms M.fields v):=hsa
 have HSB:Hid (∀ v∈vb.map (VL.pl (LB.pl d)),ShV (ShB ms d) ms M.fields v):=hsb
 have HM:Hid (M∈ms):=hM
 have HF:Hid (RdL 6 FAt W0 (.slice af nf cf) M.fields):=hf
 have HMS:Hid (RdL 3 MAt W0 (.slice am nm cm) ms):=hms
 have HIH:Hid (A3b W0 ms am nm cm ae ne ce d):=ih
 have HOK:Hid ((∀ f∈M.fields,I64 f.number∧I64 f.choice)∧M.fields.length≤140737488355328):=⟨fok,fl⟩
 have HLL:Hid (∀ k∈L0,W0.heap.size≤k∧k < w.heap.size):=lL
 have HLC:Hid (∀ k,w.heap.size≤k→L0.count k=0):=lc
 have HFL:Hid (m0=vb.length):=hfl
 obtain⟨y30,y31⟩:=A0x x3
 clear ha hb oa ob rb0 honce hsa hsb hlen fok fl hfl hok hms ih hf hM lL lc
 go_enter Tryz.func35,Tryz.ntmps35
 go_wp2_with fail
 rw[←HW5.out]
 go_loopg [15] m0 (fun gm s15 wr=>∃ (i:Nat) (l:List (VL (LB d))) (e0:Option Addr) (f0 g0:Nat),i+gm=m0∧s15 = .int .i64 (i:Int)∧Hid (l.map (VL.pl (LB.pl d))=((vb.take i).map (VL.pl (LB.pl d))).foldl (A1x (jnB ms d) ms M.fields) (va.map (VL.pl (LB.pl d))))∧Hid (JSt d W0.heap.size W5 L0 ⟨vb,ub,(b0,m0,d0),(b1,m1,d1)⟩ wr ⟨l,ua,(e0,f0,g0),(a1,n1,c1)⟩ (vb.drop i))∧wr.heap[w.heap.size+2]?=some (.cells #[.slice e0 f0 g0,.slice a1 n1 c1] 29 (0,0))∧FrB (L0++[w.heap.size+2]) W5 wr)
 case atStart=>exact⟨0,va,a0,n0,c0,by omega,rfl,rfl,hJ0,x2,FrB.refl _ _⟩
 case round=>
  obtain⟨i,l,e0,f0,g0,hi,rfl,HPL,HJ,xA,hG⟩:=hrel
  have hzr:=hG.size
  have hSL:∀ v∈l.map (VL.pl (LB.pl d)),ShV (ShB ms d) ms M.fields v:=by
   rw[HPL.out]
   exact B1j (fun M s t=>B6c ms d M s t) _ _ HSA.out fun a ha=>HSB.out a (by
    obtain⟨c,hc,rfl⟩:=List.mem_map.1 ha
    exact List.mem_map.2 ⟨c,List.mem_of_mem_take hc,rfl⟩)
  have hWl:=B2i (fun M s t=>A9w ms d M s t) ms M.fields ((vb.take i).map (VL.pl (LB.pl d))) (va.map (VL.pl (LB.pl d)))
  rw[←HPL.out] at hWl
  have hLl:=A2x (jW (jWB d)) (fun v=>by unfold jW;omega) (l.map (VL.pl (LB.pl d)))
  rw[List.length_map] at hLl
  obtain⟨kF,kM,kB,kR⟩:=hkeep wr hG
  by_cases hlt:i < m0
  ·obtain⟨v,Hv⟩:∃ v,Hid (vb[i]?=some v):=⟨vb[i]'(by have:=HFL.out;omega),List.getElem?_eq_getElem _⟩
   have hJ:JSt d W0.heap.size W5 L0 ⟨vb,ub,(b0,m0,d0),(b1,m1,d1)⟩ wr ⟨l,ua,(e0,f0,g0),(a1,n1,c1)⟩ (v::vb.drop (i+1)):=by
    have h1:=HJ.out
    have h2:vb.drop i=v::vb.drop (i+1):=by
     obtain⟨hl,he⟩:=List.getElem?_eq_some_iff.1 Hv.out
     rw[List.drop_eq_getElem_cons hl,he]
    rwa [h2] at h1
   obtain⟨gB,rfl,hcB⟩:=(show Row (ekV (LB d)) wr W0.heap.size (.slice b0 m0 d0) vb from hJ.rb0).get Hv.out
   have hWv:=B9q ((jW (jWB d))∘(VL.pl (LB.pl d))) Hv.out
   have hsv:=HSB.out _ (List.mem_map.2 ⟨v,List.mem_of_getElem? Hv.out,rfl⟩)
   obtain⟨nu,bi,by',su,⟨p1,q1,r1⟩,⟨p2,q2,r2⟩,⟨p3,q3,r3⟩⟩:=v
   obtain⟨hnu,x,hx,hxs⟩:=hsv
   have hW:((l.map (VL.pl (LB.pl d))).map (jW (jWB d))).sum+jW (jWB d) (VL.pl (LB.pl d) (⟨nu,bi,by',su,(p1,q1,r1),(p2,q2,r2),(p3,q3,r3)⟩:VL (LB d)))≤1000000000:=by
    have h1:=HLen.out
    simp only[List.map_map] at hWl hWv h1 ⊢
    simp only[Function.comp_apply] at hWv
    omega
   have w0:wr.cell? ⟨gB,i*4,none⟩=some (.int .i64 nu):=hcB 0 _ rfl
   have w1:wr.cell? ⟨gB,i*4+1,none⟩=some (.slice p1 q1 r1):=hcB 1 _ rfl
   have w2:wr.cell? ⟨gB,i*4+2,none⟩=some (.slice p2 q2 r2):=hcB 2 _ rfl
   have w3:wr.cell? ⟨gB,i*4+3,none⟩=some (.slice p3 q3 r3):=hcB 3 _ rfl
   have hlti:(i:Int) < (m0:Int):=by omega
   obtain⟨V1,HV1⟩:∃ V1,Hid (V1=wr.alloc (.cells #[.int .i64 nu,.slice p1 q1 r1,.slice p2 q2 r2,.slice p3 q3 r3] 34)):=⟨_,rfl⟩
   have hb1:Below wr.heap.size wr V1:=by rw[HV1.out];exact(Below.refl _ _).alloc (Nat.le_refl _) _
   have kT1:V1.heap[wr.heap.size]?=some (.cells #[.int .i64 nu,.slice p1 q1 r1,.slice p2 q2 r2,.slice p3 q3 r3] 34 (0,0)):=by rw[HV1.out];exact heap_alloc_new _ _
   have zV1:V1.heap.size=wr.heap.size+1:=by rw[HV1.out];simp
   have zV1':=Nat.le_of_eq zV1.symm
   have hat:=A7r (PT.stays d) (v1:=.slice a1 n1 c1) (hJ.below hb1).own.rdT ⟨_,_,_,rfl⟩ nu
   dsimp only[PV.v] at hat
   obtain⟨yA0,yA1⟩:=A0x ((Below.heap_alloc wr (.cells #[.int .i64 nu,.slice p1 q1 r1,.slice p2 q2 r2,.slice p3 q3 r3] 34) (w.heap.size+2) (by omega)).trans xA)
   have HX:Hid (M.fields.find? (isF nu)=some x):=hx
   have HXS:Hid (x.many=false→x.kind=10→∃ M s,ms.find? (isN x.type)=some M∧(VL.pl (LB.pl d) (⟨nu,bi,by',su,(p1,q1,r1),(p2,q2,r2),(p3,q3,r3)⟩:VL (LB d))).subs = [s]∧ShB ms d M s):=hxs
   have HJv:Hid _:=hJ
   have HWt:Hid _:=hW
   have HSL:Hid _:=hSL
   have HNU:Hid (I64 nu):=hnu
   have HLl:Hid _:=hLl
   have hnum:∀ a∈l,I64 a.number:=fun a ha=>(hSL _ (List.mem_map.2 ⟨a,ha,rfl⟩)).1
   have HNum:Hid _:=hnum
   clear hcB hWl hWv hx hxs hJ hW hSL hnu zV1 hnum
   cases hfind:(l.map (VL.pl (LB.pl d))).find? (isV nu) with
   | none=>
    have hA1:A0i (fun v:VI (BI d)=>decide (v.number=nu)) (l.map (VL.pl (LB.pl d))) = -1:=A1p fun b hb=>by
     have:=List.find?_eq_none.1 hfind b hb
     simpa [isV] using this
    rw[hA1] at hat
    have HPy:Hid (A6d M.fields x (l.map (VL.pl (LB.pl d))) (VL.pl (LB.pl d) (⟨nu,bi,by',su,(p1,q1,r1),(p2,q2,r2),(p3,q3,r3)⟩:VL (LB d)))=A1x (jnB ms d) ms M.fields (l.map (VL.pl (LB.pl d))) (VL.pl (LB.pl d) (⟨nu,bi,by',su,(p1,q1,r1),(p2,q2,r2),(p3,q3,r3)⟩:VL (LB d)))):=by
     have e1:M.fields.find? (isF (VL.pl (LB.pl d) (⟨nu,bi,by',su,(p1,q1,r1),(p2,q2,r2),(p3,q3,r3)⟩:VL (LB d))).number)=some x:=HX.out
     have e2:(l.map (VL.pl (LB.pl d))).find? (isV (VL.pl (LB.pl d) (⟨nu,bi,by',su,(p1,q1,r1),(p2,q2,r2),(p3,q3,r3)⟩:VL (LB d))).number)=none:=hfind
     show _=_
     unfold A1x
     rw[e1,e2]
    have hput:∀ V2,Below V1.heap.size V1 V2→Calls Tryz.prog 43 #[.agg #[.string (S s),.slice af nf cf,.slice ab nb cb],.agg #[.slice e0 f0 g0,.slice a1 n1 c1],.agg #[.int .i64 nu,.slice p1 q1 r1,.slice p2 q2 r2,.slice p3 q3 r3]] V2 fun e w'=>
      ∃ (l':List (VL (LB d))) (a':Option Addr) (n' c':Nat),e = .returned (.agg #[.slice a' n' c',.slice a1 n1 c1])∧Hid (l'.map (VL.pl (LB.pl d))=A6d M.fields x (l.map (VL.pl (LB.pl d))) (VL.pl (LB.pl d) (⟨nu,bi,by',su,(p1,q1,r1),(p2,q2,r2),(p3,q3,r3)⟩:VL (LB d))))∧Hid (JSt d W0.heap.size W5 L0 ⟨vb,ub,(some ⟨gB,0,none⟩,m0,d0),(b1,m1,d1)⟩ w' ⟨l',ua,(a',n',c'),(a1,n1,c1)⟩ (vb.drop (i+1)))∧FrB (own1 (e0,f0,g0)) V2 w':=fun V2 hV2=>by
     have hb12:Below wr.heap.size wr V2:=BTr hb1 hV2
     have hz:=hV2.size
     exact B6v (HJv.out.mid_none hb12 M.fields x) (HF.out.below FAt.stays (hbl _ (hG.on hb12))) HOK.out.1 HOK.out.2 ⟨_,_,_,rfl⟩ ⟨s,rfl⟩ HNum.out (by have:=HLl.out;have:=HWt.out;show(l.length+1)*80≤140737488355328;omega) (by have:=(hbl _ (hG.on hb12)).size;omega) (by omega) HX.out (by have:=HWt.out;omega) HNU.out
    go_wp2_with fail
    rw[←HV1.out]
    refine hat.mono ?_
    rintro e V2 ⟨rfl,hb2⟩
    have hb12:Below wr.heap.size wr V2:=BTr hb1 hb2
    have hzV2:=hb2.size
    have kT2:=(hb2.block wr.heap.size (by omega)).trans kT1
    have kAX:=(hb12.block (w.heap.size+2) (by omega)).trans xA
    have kM2:=(hb12.block (w.heap.size+1) (by omega)).trans kM
    have hGX:=hG.on hb12
    obtain⟨t20,t21,t22,t23⟩:=A3k kT2
    obtain⟨m20,m21,m22⟩:=A6o kM2
    obtain⟨a20,a21⟩:=A0x kAX
    have HMid:Hid _:=HJv.out.mid_none hb12 M.fields x
    go_wp2_with fail
    refine(hput V2 hb2).mono ?_
    rintro e V6 ⟨l',a',n',c',rfl,HPl',HJ',hfr⟩
    have zA:w.heap.size+2∉own1 (e0,f0,g0):=fun hm=>by
     have h1:=List.count_pos_iff.2 hm
     have h2:=(HMid.out.once (w.heap.size+2)).2 (by omega)
     have h3:=HLC.out (w.heap.size+2) (by omega)
     unfold A6x at h2
     dsimp only at h2
     omega
    have hzX:=hGX.size
    have hz6:=hfr.size
    have k6:=(hfr.blk (show w.heap.size+2 < V2.heap.size by omega) zA).trans kAX
    obtain⟨c60,c61⟩:=A0x k6
    have f60:=A0b k6 0
    have f61:=A0b k6 1
    have hG6:FrB (L0++[w.heap.size+2]) W5 V6:=hext _ _ _ hGX hfr fun k hk hlt=>by
     have h1:=List.count_pos_iff.2 hk
     have h2:=(HMid.out.once k).2 hlt
     unfold A6x at h2
     dsimp only at h2
     exact List.mem_append_left _ (List.count_pos_iff.1 (by omega))
    have HG7:Hid _:=C0j k6 (x0:=.slice a' n' c') (x1:=.slice a1 n1 c1)
    have HK7:Hid _:=heap_setCell_same _ _ 1 _ _ (.slice a1 n1 c1) (heap_setCell_same _ _ 0 _ _ (.slice a' n' c') k6)
    go_wp2_with fail
    go_roundg (m0 - (i+1))
    case measure=>omega
    case rel=>
     refine⟨i+1,l',a',n',c',by omega,by go_num,?_,?_,?_,?_⟩
     ·show _=_
      rw[HPl'.out,HPy.out,HPL.out,List.take_add_one,Hv.out]
      simp only[List.map_append,List.foldl_append,Option.toList_some,List.map_cons,List.map_nil,List.foldl_cons,List.foldl_nil]
     ·refine HJ'.out.fr HG7.out fun k hk=>?_
      rw[List.mem_singleton.1 hk]
      have h2:=(HJ'.out.once (w.heap.size+2)).2 (by omega)
      have h3:=HLC.out (w.heap.size+2) (by omega)
      omega
     ·exact HK7.out
     ·exact hext _ _ _ hG6 HG7.out fun k hk _=>List.mem_append_right _ hk
   | some u'=>
    obtain⟨at',hA1,hA2⟩:=A8z (show(l.map (VL.pl (LB.pl d))).find? (fun v:VI (BI d)=>decide (v.number=nu))=some u' from hfind)
    rw[hA1] at hat
    rw[List.getElem?_map] at hA2
    obtain⟨u,hu1,hu2⟩:=Option.map_eq_some_iff.1 hA2
    have hum:u∈l:=List.mem_of_getElem? hu1
    have hun:u'.number=nu:=by have:=List.find?_some hfind;simpa [isV] using this
    have hun':u.number=nu:=by rw[←hun,←hu2];rfl
    have HPy0:Hid (∀ t:VI (BI d),t=A4f (jnB ms d) ms x (VL.pl (LB.pl d) u) (VL.pl (LB.pl d) (⟨nu,bi,by',su,(p1,q1,r1),(p2,q2,r2),(p3,q3,r3)⟩:VL (LB d)))→A6d M.fields x (l.map (VL.pl (LB.pl d))) t=A1x (jnB ms d) ms M.fields (l.map (VL.pl (LB.pl d))) (VL.pl (LB.pl d) (⟨nu,bi,by',su,(p1,q1,r1),(p2,q2,r2),(p3,q3,r3)⟩:VL (LB d)))):=fun t ht=>by
     have e1:M.fields.find? (isF (VL.pl (LB.pl d) (⟨nu,bi,by',su,(p1,q1,r1),(p2,q2,r2),(p3,q3,r3)⟩:VL (LB d))).number)=some x:=HX.out
     have e2:(l.map (VL.pl (LB.pl d))).find? (isV (VL.pl (LB.pl d) (⟨nu,bi,by',su,(p1,q1,r1),(p2,q2,r2),(p3,q3,r3)⟩:VL (LB d))).number)=some u':=hfind
     unfold A1x
     rw[e1,e2,ht,hu2]
    have HTn:Hid (∀ t:VI (BI d),t=A4f (jnB ms d) ms x (VL.pl (LB.pl d) u) (VL.pl (LB.pl d) (⟨nu,bi,by',su,(p1,q1,r1),(p2,q2,r2),(p3,q3,r3)⟩:VL (LB d)))→t.number=nu∧jW (jWB d) t≤1000000000):=fun t ht=>by
     have h1:=C1i (fun M s t=>A9w ms d M s t) ms x (VL.pl (LB.pl d) u) (VL.pl (LB.pl d) (⟨nu,bi,by',su,(p1,q1,r1),(p2,q2,r2),(p3,q3,r3)⟩:VL (LB d)))
     have h2:=B1w (jW (jWB d)) (List.mem_map.2 ⟨u,hum,rfl⟩:VL.pl (LB.pl d) u∈l.map (VL.pl (LB.pl d)))
     have h3:=HWt.out
     rw[ht]
     exact⟨A5z (a:=VL.pl (LB.pl d) u) (b:=VL.pl (LB.pl d) (⟨nu,bi,by',su,(p1,q1,r1),(p2,q2,r2),(p3,q3,r3)⟩:VL (LB d))) (show u.number=nu from hun'),by omega⟩
    have HUX:Hid (x.many=false→x.kind=10→∃ M s,ms.find? (isN x.type)=some M∧(VL.pl (LB.pl d) u).subs = [s]∧ShB ms d M s):=by
     obtain⟨_,x2,h1,h2⟩:=HSL.out _ (List.mem_map.2 ⟨u,hum,rfl⟩)
     have:x2=x:=by
      have h3:M.fields.find? (isF (VL.pl (LB.pl d) u).number)=some x:=by
       show M.fields.find? (isF u.number)=some x
       rw[hun']
       exact HX.out
      rw[h3] at h1
      exact(Option.some.inj h1).symm
     subst this
     exact h2
    have HWu:Hid (jW (jWB d) (VL.pl (LB.pl d) u)+jW (jWB d) (VL.pl (LB.pl d) (⟨nu,bi,by',su,(p1,q1,r1),(p2,q2,r2),(p3,q3,r3)⟩:VL (LB d)))≤1000000000):=by
     have h2:=B1w (jW (jWB d)) (List.mem_map.2 ⟨u,hum,rfl⟩:VL.pl (LB.pl d) u∈l.map (VL.pl (LB.pl d)))
     have h3:=HWt.out
     show _≤_
     omega
    have HUM:Hid (u∈l):=hum
    have HUN:Hid (u.number=nu):=hun'
    obtain⟨gA,rfl,hcA⟩:=(show Row (ekV (LB d)) wr W0.heap.size (.slice e0 f0 g0) l from HJv.out.own.r0).get hu1
    have hfa:f0=l.length:=(show Row (ekV (LB d)) wr W0.heap.size (.slice (some ⟨gA,0,none⟩) f0 g0) l from HJv.out.own.r0).len
    have hat':(at':Int) < (f0:Int):=by have:=(List.getElem?_eq_some_iff.1 hu1).1;omega
    have hat0:¬ (at':Int) < 0:=by omega
    have hatb:decide ((0:Int)≤(at':Int))=true:=by simp
    clear hfa
    have hgA:gA < wr.heap.size:=((show Row (ekV (LB d)) wr W0.heap.size (.slice (some ⟨gA,0,none⟩) f0 g0) l from HJv.out.own.r0).own gA rfl).2
    obtain⟨kf,hK1,hK2⟩:=A8z (show M.fields.find? (fun f=>decide (f.number=nu))=some x from HX.out)
    obtain⟨bf,of,rfl,hfat⟩:=HF.out.get FAt.plain hK2
    have hkf:(kf:Int) < (nf:Int):=by have:=(List.getElem?_eq_some_iff.1 hK2).1;have:=HF.out.len.1;omega
    have hkf0:¬ (kf:Int) < 0:=by omega
    obtain⟨y0,y1,y2,y3,y4,y5⟩:=hfat
    rw[A0j] at y1 y2 y3 y4 y5
    have hbf:=B3z y0
    have nFF:∀ k,k∈VL.fp (LB.fp d) u++VL.fp (LB.fp d) (⟨nu,bi,by',su,(p1,q1,r1),(p2,q2,r2),(p3,q3,r3)⟩:VL (LB d))→k < wr.heap.size∧W0.heap.size≤k∧k≠gA∧(k < W5.heap.size→k∈L0):=fun k hk=>by
     have h0:0 < (VL.fp (LB.fp d) u).count k+(VL.fp (LB.fp d) (⟨nu,bi,by',su,(p1,q1,r1),(p2,q2,r2),(p3,q3,r3)⟩:VL (LB d))).count k:=by
      have:=List.count_pos_iff.2 hk
      rwa [List.count_append] at this
     have h1:=HJv.out.once k
     unfold A6h at h1
     rw[A0v] at h1
     have h2:=A1u (VL.fp (LB.fp d)) k HUM.out
     have h3:(own1 (some ⟨gA,0,none⟩,f0,g0)).count gA=1:=by simp[own1,PV.v,Value.ownBlock]
     dsimp only at h1
     refine⟨?_,?_,fun e=>?_,fun hlt=>List.count_pos_iff.1 (by have:=h1.2 hlt;omega)⟩
     ·rcases List.mem_append.1 hk with hk|hk
      ·exact((HJv.out.own.r0v u HUM.out).lt k hk).2
      ·exact((HJv.out.ownr _ (List.mem_cons_self ..)).lt k hk).2
     ·rcases List.mem_append.1 hk with hk|hk
      ·exact((HJv.out.own.r0v u HUM.out).lt k hk).1
      ·exact((HJv.out.ownr _ (List.mem_cons_self ..)).lt k hk).1
     ·rw[e] at h0 h1 h2
      omega
    have HNFF:Hid _:=nFF
    obtain⟨un,ubi,uby,usu,⟨u1,v1,w1'⟩,⟨u2,v2,w2'⟩,⟨u3,v3,w3'⟩⟩:=u
    have ca0:wr.cell? ⟨gA,at'*4,none⟩=some (.int .i64 un):=hcA 0 _ rfl
    have ca1:wr.cell? ⟨gA,at'*4+1,none⟩=some (.slice u1 v1 w1'):=hcA 1 _ rfl
    have ca2:wr.cell? ⟨gA,at'*4+2,none⟩=some (.slice u2 v2 w2'):=hcA 2 _ rfl
    have ca3:wr.cell? ⟨gA,at'*4+3,none⟩=some (.slice u3 v3 w3'):=hcA 3 _ rfl
    have HA2:Hid _:=hu2
    clear hcA hfind hA1 hA2 hu1 hu2 hum hun hun' nFF
    go_wp2_with fail
    rw[←HV1.out]
    refine hat.mono ?_
    rintro e V2 ⟨rfl,hb2⟩
    have hb12:Below wr.heap.size wr V2:=BTr hb1 hb2
    have hzV2:=hb2.size
    have hG2:=hG.on hb12
    have kT2:=(hb2.block wr.heap.size (by omega)).trans kT1
    have kA2:=(hb12.block (w.heap.size+2) (by omega)).trans xA
    obtain⟨jF,jM,_,_⟩:=hkeep V2 hG2
    obtain⟨t20,t21,t22,t23⟩:=A3k kT2
    have h02:=hbl _ hG2
    have nI:∀ k,k∈VL.fp (LB.fp d) (⟨un,ubi,uby,usu,(u1,v1,w1'),(u2,v2,w2'),(u3,v3,w3')⟩:VL (LB d))++VL.fp (LB.fp d) (⟨nu,bi,by',su,(p1,q1,r1),(p2,q2,r2),(p3,q3,r3)⟩:VL (LB d))++[wr.heap.size]→W0.heap.size≤k∧k≠gA∧k≠w.heap.size∧k≠w.heap.size+1∧k≠w.heap.size+2:=fun k hk=>by
     rcases List.mem_append.1 hk with hk|hk
     ·obtain⟨h1,h2,h3,h4⟩:=HNFF.out k hk
      have h5:k < W5.heap.size→k < w.heap.size:=fun h=>(HLL.out k (h4 h)).2
      refine⟨h2,h3,?_,?_,?_⟩ <;> (intro e;have:=h5 (by omega);omega)
     ·rw[List.mem_singleton] at hk
      omega
    obtain⟨Q6,HQ6⟩:∃ Q6:World→Prop,Hid (∀ V,Q6 V↔∀ k,k < V2.heap.size→k∉VL.fp (LB.fp d) (⟨un,ubi,uby,usu,(u1,v1,w1'),(u2,v2,w2'),(u3,v3,w3')⟩:VL (LB d))++VL.fp (LB.fp d) (⟨nu,bi,by',su,(p1,q1,r1),(p2,q2,r2),(p3,q3,r3)⟩:VL (LB d))++[wr.heap.size]→V.heap[k]?=V2.heap[k]?):=⟨_,fun _=>Iff.rfl⟩
    have hcl6:∀ V,Q6 V→(V.cell? ⟨w.heap.size,0,none⟩=some (.slice am nm cm)∧V.cell? ⟨w.heap.size,1,none⟩=some (.slice ae ne ce)∧V.cell? ⟨w.heap.size+1,0,none⟩=some (.string (S s))∧V.cell? ⟨w.heap.size+1,1,none⟩=some (.slice (some ⟨bf,of,none⟩) nf cf)∧V.cell? ⟨w.heap.size+1,2,none⟩=some (.slice ab nb cb)∧V.cell? ⟨w.heap.size+2,0,none⟩=some (.slice (some ⟨gA,0,none⟩) f0 g0))∧(V.cell? ⟨bf,of+kf*6,none⟩=some (.string (S x.name))∧V.cell? ⟨bf,of+kf*6+1,none⟩=some (.int .i64 x.number)∧V.cell? ⟨bf,of+kf*6+2,none⟩=some (.int .i64 x.kind)∧V.cell? ⟨bf,of+kf*6+3,none⟩=some (.string (S x.type))∧V.cell? ⟨bf,of+kf*6+4,none⟩=some (.bool x.many)∧V.cell? ⟨bf,of+kf*6+5,none⟩=some (.int .i64 x.choice))∧V.cell? ⟨gA,at'*4,none⟩=some (.int .i64 un)∧V.cell? ⟨gA,at'*4+1,none⟩=some (.slice u1 v1 w1')∧V.cell? ⟨gA,at'*4+2,none⟩=some (.slice u2 v2 w2')∧V.cell? ⟨gA,at'*4+3,none⟩=some (.slice u3 v3 w3'):=fun V hV=>by
     have hz02:=h02.size
     have q1:=(HQ6.out V).1 hV
     obtain⟨e0,e1⟩:=A0x ((q1 (w.heap.size) (by omega) (fun h=>(nI _ h).2.2.1 rfl)).trans jF)
     obtain⟨e2,e3,e4⟩:=A6o ((q1 (w.heap.size+1) (by omega) (fun h=>(nI _ h).2.2.2.1 rfl)).trans jM)
     obtain⟨e5,_⟩:=A0x ((q1 (w.heap.size+2) (by omega) (fun h=>(nI _ h).2.2.2.2 rfl)).trans kA2)
     have c1:=A1r (q1 bf (by omega) (fun h=>by have:=(nI _ h).1;omega))
     have c2:=A1r (q1 gA (by omega) (fun h=>(nI _ h).2.1 rfl))
     refine⟨⟨e0,e1,e2,e3,e4,e5⟩,⟨?_,?_,?_,?_,?_,?_⟩,?_,?_,?_,?_⟩
     ·rw[c1];exact A0c h02 y0
     ·rw[c1];exact A0c h02 y1
     ·rw[c1];exact A0c h02 y2
     ·rw[c1];exact A0c h02 y3
     ·rw[c1];exact A0c h02 y4
     ·rw[c1];exact A0c h02 y5
     ·rw[c2];exact A0c hb12 ca0
     ·rw[c2];exact A0c hb12 ca1
     ·rw[c2];exact A0c hb12 ca2
     ·rw[c2];exact A0c hb12 ca3
    have hQ0:Q6 V2.drew:=(HQ6.out _).2 fun _ _ _=>rfl
    have hfld:=A4h (HF.out.below FAt.stays (h02.drew)) ⟨ab,nb,cb,rfl⟩ ⟨s,rfl⟩ nu
    rw[hK1] at hfld
    have hQ3f:∀ V3,Below V2.drew.heap.size V2.drew V3→Q6 V3:=fun V3 hV=>(HQ6.out _).2 fun k hk _=>hV.block k hk
    have hT3f:∀ V3,Below V2.drew.heap.size V2.drew V3→V3.heap[wr.heap.size]?=some (.cells #[.int .i64 nu,.slice p1 q1 r1,.slice p2 q2 r2,.slice p3 q3 r3] 34 (0,0)):=fun V3 hV=>(hV.block _ (show wr.heap.size < V2.heap.size by omega)).trans kT2
    have hT4f:∀ V3 V4,Below V2.drew.heap.size V2.drew V3→FrB (VL.fp (LB.fp d) (⟨un,ubi,uby,usu,(u1,v1,w1'),(u2,v2,w2'),(u3,v3,w3')⟩:VL (LB d))++VL.fp (LB.fp d) (⟨nu,bi,by',su,(p1,q1,r1),(p2,q2,r2),(p3,q3,r3)⟩:VL (LB d))) V3 V4→V4.heap[wr.heap.size]?=some (.cells #[.int .i64 nu,.slice p1 q1 r1,.slice p2 q2 r2,.slice p3 q3 r3] 34 (0,0)):=fun V3 V4 h3 h4=>(h4.blk (by have:=h3.size;have e:V2.drew.heap.size=V2.heap.size:=rfl;omega) (fun h=>by have:=(HNFF.out _ h).1;omega)).trans (hT3f V3 h3)
    have hQ4f:∀ V3 V4,Below V2.drew.heap.size V2.drew V3→FrB (VL.fp (LB.fp d) (⟨un,ubi,uby,usu,(u1,v1,w1'),(u2,v2,w2'),(u3,v3,w3')⟩:VL (LB d))++VL.fp (LB.fp d) (⟨nu,bi,by',su,(p1,q1,r1),(p2,q2,r2),(p3,q3,r3)⟩:VL (LB d))) V3 V4→Q6 V4:=fun V3 V4 h3 h4=>(HQ6.out _).2 fun k hk hn=>(h4.blk (by have:=h3.size;have e:V2.drew.heap.size=V2.heap.size:=rfl;omega) (fun h=>hn (List.mem_append_left _ h))).trans ((HQ6.out _).1 (hQ3f V3 h3) k hk hn)
    have hQ5f:∀ V4 x0 x1 x2 x3,Q6 V4→V4.heap[wr.heap.size]?=some (.cells #[.int .i64 nu,.slice p1 q1 r1,.slice p2 q2 r2,.slice p3 q3 r3] 34 (0,0))→V2.heap.size≤V4.heap.size→Q6 ((((V4.setCell ⟨wr.heap.size,0,none⟩ x0).setCell ⟨wr.heap.size,1,none⟩ x1).setCell ⟨wr.heap.size,2,none⟩ x2).setCell ⟨wr.heap.size,3,none⟩ x3):=fun V4 x0 x1 x2 x3 hV hT hs=>(HQ6.out _).2 fun k hk hn=>((fr4 hT).blk (by omega) (fun h=>hn (List.mem_append_right _ h))).trans ((HQ6.out _).1 hV k hk hn)
    have hmet:∀ V3,Below V2.drew.heap.size V2.drew V3→Calls Tryz.prog 66 #[.agg #[.slice am nm cm,.slice ae ne ce],.agg #[.string (S x.name),.int .i64 x.number,.int .i64 x.kind,.string (S x.type),.bool x.many,.int .i64 x.choice],.agg #[.int .i64 un,.slice u1 v1 w1',.slice u2 v2 w2',.slice u3 v3 w3'],.agg #[.int .i64 nu,.slice p1 q1 r1,.slice p2 q2 r2,.slice p3 q3 r3]] V3 fun e w'=>
      ∃ (t:VL (LB d)) (x1:Option Addr) (y1 z1:Nat) (x2:Option Addr) (y2 z2:Nat) (x3:Option Addr) (y3 z3:Nat),e = .returned (.agg #[.int .i64 t.number,.slice x1 y1 z1,.slice x2 y2 z2,.slice x3 y3 z3])∧Hid (t.p1=(x1,y1,z1)∧t.p2=(x2,y2,z2)∧t.p3=(x3,y3,z3))∧Hid (JMid d W0.heap.size W5 L0 ⟨vb,ub,(some ⟨gB,0,none⟩,m0,d0),(b1,m1,d1)⟩ M.fields x w' ⟨l,ua,(some ⟨gA,0,none⟩,f0,g0),(a1,n1,c1)⟩ t (vb.drop (i+1)) wr.heap.size)∧Hid (VL.pl (LB.pl d) t=A4f (jnB ms d) ms x (VL.pl (LB.pl d) (⟨un,ubi,uby,usu,(u1,v1,w1'),(u2,v2,w2'),(u3,v3,w3')⟩:VL (LB d))) (VL.pl (LB.pl d) (⟨nu,bi,by',su,(p1,q1,r1),(p2,q2,r2),(p3,q3,r3)⟩:VL (LB d))))∧FrB (VL.fp (LB.fp d) (⟨un,ubi,uby,usu,(u1,v1,w1'),(u2,v2,w2'),(u3,v3,w3')⟩:VL (LB d))++VL.fp (LB.fp d) (⟨nu,bi,by',su,(p1,q1,r1),(p2,q2,r2),(p3,q3,r3)⟩:VL (LB d))) V3 w':=fun V3 hV3=>by
     have hb3:Below wr.heap.size wr V3:=BTr (hb12.drew) hV3
     have hz3:=hV3.size
     have e2:V2.drew.heap.size=V2.heap.size:=rfl
     refine(C0m (HJv.out.metIn hb3 (hbl _ hG) HUM.out HWu.out) HMS.out HIH.out x HUX.out HXS.out).mono ?_
     rintro e w' ⟨⟨tn,tb,ty,ts,⟨x1,y1,z1⟩,⟨x2,y2,z2⟩,⟨x3,y3,z3⟩⟩,rfl,hpl,hot,hou,hfm,hfr⟩
     refine⟨⟨tn,tb,ty,ts,(x1,y1,z1),(x2,y2,z2),(x3,y3,z3)⟩,x1,y1,z1,x2,y2,z2,x3,y3,z3,rfl,⟨rfl,rfl,rfl⟩,?_,hpl,hfr⟩
     exact HJv.out.mid_met hb3 (by omega) (by omega) HUM.out (by rw[HUN.out];exact A7l HX.out) hot hou hfm hfr
    have HQ6':Hid _:=hQ0
    clear hat kT1 hb1 hK1 y0 y1 y2 y3 y4 y5 ca0 ca1 ca2 ca3 w0 w1 w2 w3
    go_wp2_with fail
    go_cut [10] from 25 to 40 (fun s10 wc=>∃ (t:VL (LB d)) (x1:Option Addr) (y1 z1:Nat) (x2:Option Addr) (y2 z2:Nat) (x3:Option Addr) (y3 z3:Nat),s10 = .pointer (some ⟨wr.heap.size,0,none⟩)∧Hid (t.p1=(x1,y1,z1)∧t.p2=(x2,y2,z2)∧t.p3=(x3,y3,z3))∧Hid (JMid d W0.heap.size W5 L0 ⟨vb,ub,(some ⟨gB,0,none⟩,m0,d0),(b1,m1,d1)⟩ M.fields x wc ⟨l,ua,(some ⟨gA,0,none⟩,f0,g0),(a1,n1,c1)⟩ t (vb.drop (i+1)) wr.heap.size)∧Hid (VL.pl (LB.pl d) t=A4f (jnB ms d) ms x (VL.pl (LB.pl d) (⟨un,ubi,uby,usu,(u1,v1,w1'),(u2,v2,w2'),(u3,v3,w3')⟩:VL (LB d))) (VL.pl (LB.pl d) (⟨nu,bi,by',su,(p1,q1,r1),(p2,q2,r2),(p3,q3,r3)⟩:VL (LB d))))∧wc.heap[wr.heap.size]?=some (.cells #[.int .i64 t.number,.slice x1 y1 z1,.slice x2 y2 z2,.slice x3 y3 z3] 34 (0,0))∧FrB (VL.fp (LB.fp d) (⟨un,ubi,uby,usu,(u1,v1,w1'),(u2,v2,w2'),(u3,v3,w3')⟩:VL (LB d))++VL.fp (LB.fp d) (⟨nu,bi,by',su,(p1,q1,r1),(p2,q2,r2),(p3,q3,r3)⟩:VL (LB d))++[wr.heap.size]) V2 wc)
    case first=>
     refine wp_region_held_drew (S:=Q6) (by kernel_rfl) hQ0 (fun hHeld=>?_)
     refine tK (i:=0) (v:=?vr1) rfl (fun _ _ _ h=>h) ⟨by rfl,?hyr1⟩ (by assumption) ?_
     case hyr1=>(intro W hSw;obtain⟨⟨o1,o2,o3,o4,o5,o6⟩,⟨o7,o8,o9,o10,o11,o12⟩,o13,o14,o15,o16⟩:=hcl6 W hSw;go_simp;first|done|with_reducible rfl)
     try simp only[Act.put,List.setIfInBounds_toArray]
     refine tK (i:=1) (v:=?vr2) rfl (fun _ _ _ h=>h) ⟨by rfl,?hyr2⟩ (by assumption) ?_
     case hyr2=>(intro W hSw;obtain⟨⟨o1,o2,o3,o4,o5,o6⟩,⟨o7,o8,o9,o10,o11,o12⟩,o13,o14,o15,o16⟩:=hcl6 W hSw;go_simp;first|done|with_reducible rfl)
     try simp only[Act.put]
     refine tK (i:=2) (v:=?vr3) rfl (fun _ _ _ h=>h) ⟨by rfl,?hyr3⟩ (by assumption) ?_
     case hyr3=>(intro W hSw;obtain⟨⟨o1,o2,o3,o4,o5,o6⟩,⟨o7,o8,o9,o10,o11,o12⟩,o13,o14,o15,o16⟩:=hcl6 W hSw;go_simp;first|done|with_reducible rfl)
     try simp only[Act.put]
     refine tK (i:=3) (v:=?vr4) rfl (fun _ _ _ h=>h) ⟨by rfl,?hyr4⟩ (by assumption) ?_
     case hyr4=>(intro W hSw;obtain⟨⟨o1,o2,o3,o4,o5,o6⟩,⟨o7,o8,o9,o10,o11,o12⟩,o13,o14,o15,o16⟩:=hcl6 W hSw;go_simp;first|done|with_reducible rfl)
     try simp only[Act.put]
     refine tK (i:=4) (v:=?vr5) rfl (fun _ _ _ h=>h) ⟨by rfl,?hyr5⟩ (by assumption) ?_
     case hyr5=>(intro W hSw;obtain⟨⟨o1,o2,o3,o4,o5,o6⟩,⟨o7,o8,o9,o10,o11,o12⟩,o13,o14,o15,o16⟩:=hcl6 W hSw;go_simp;first|done|with_reducible rfl)
     try simp only[Act.put]
     refine tK (i:=9) (v:=?vr6) rfl (fun _ _ _ h=>h) ⟨by rfl,?hyr6⟩ (by assumption) ?_
     case hyr6=>(intro W hSw;obtain⟨⟨o1,o2,o3,o4,o5,o6⟩,⟨o7,o8,o9,o10,o11,o12⟩,o13,o14,o15,o16⟩:=hcl6 W hSw;go_simp;first|done|with_reducible rfl)
     try simp only[Act.put]
     refine tK (i:=10) (v:=?vr7) rfl (fun _ _ _ h=>h) ⟨by rfl,?hyr7⟩ (by assumption) ?_
     case hyr7=>(intro W hSw;obtain⟨⟨o1,o2,o3,o4,o5,o6⟩,⟨o7,o8,o9,o10,o11,o12⟩,o13,o14,o15,o16⟩:=hcl6 W hSw;go_simp;first|done|with_reducible rfl)
     try simp only[Act.put]
     refine tK (i:=11) (v:=?vr8) rfl (fun _ _ _ h=>h) ⟨by rfl,?hyr8⟩ (by assumption) ?_
     case hyr8=>(intro W hSw;obtain⟨⟨o1,o2,o3,o4,o5,o6⟩,⟨o7,o8,o9,o10,o11,o12⟩,o13,o14,o15,o16⟩:=hcl6 W hSw;go_simp;first|done|with_reducible rfl)
     try simp only[Act.put]
     refine tK (i:=12) (v:=?vr9) rfl (fun _ _ _ h=>h) ⟨by rfl,?hyr9⟩ (by assumption) ?_
     case hyr9=>(intro W hSw;obtain⟨⟨o1,o2,o3,o4,o5,o6⟩,⟨o7,o8,o9,o10,o11,o12⟩,o13,o14,o15,o16⟩:=hcl6 W hSw;go_simp;first|done|with_reducible rfl)
     try simp only[Act.put]
     refine tK (i:=13) (v:=?vr10) rfl (fun _ _ _ h=>h) ⟨by rfl,?hyr10⟩ (by assumption) ?_
     case hyr10=>(intro W hSw;obtain⟨⟨o1,o2,o3,o4,o5,o6⟩,⟨o7,o8,o9,o10,o11,o12⟩,o13,o14,o15,o16⟩:=hcl6 W hSw;go_simp;first|done|with_reducible rfl)
     try simp only[Act.put]
     refine wpAnyH_ready (rs:=[5,14]) (by kernel_rfl) (by simp) ?_
     refine AllReadyH.cons rfl (fun K hK=>?_) (AllReadyH.cons rfl (fun K hK=>?_) AllReadyH.nil)
     ·skip
      go_simp
      refine hK.out _ _ ?_ (fun hHeld=>?_)
      ·(try dsimp only);with_reducible first|exact hQ0|exact hQ3|exact hQ4|exact hQ5
      clear hK K
      try simp only[pT,Act.put]
      refine wpAnyH_ready (rs:=[6,14]) (by kernel_rfl) (by simp) ?_
      refine AllReadyH.cons rfl (fun K hK=>?_) (AllReadyH.cons rfl (fun K hK=>?_) AllReadyH.nil)
      ·skip
       go_simp
       refine hfld.mono ?_
       rintro e V3 ⟨rfl,hb3⟩
       have hQ3:=hQ3f V3 hb3
       have kT3:=hT3f V3 hb3
       obtain⟨t30,t31,t32,t33⟩:=A3k kT3
       refine hK.out _ _ ?_ (fun hHeld=>?_)
       ·(try dsimp only);with_reducible first|exact hQ0|exact hQ3|exact hQ4|exact hQ5
       clear hK K
       try simp only[pT,Act.put]
       refine tK (i:=7) (v:=?vr11) rfl (fun _ _ _ h=>h) ⟨by rfl,?hyr11⟩ (by assumption) ?_
       case hyr11=>(intro W hSw;obtain⟨⟨o1,o2,o3,o4,o5,o6⟩,⟨o7,o8,o9,o10,o11,o12⟩,o13,o14,o15,o16⟩:=hcl6 W hSw;go_simp;first|done|with_reducible rfl)
       try simp only[Act.put,List.setIfInBounds_toArray]
       refine tK (i:=8) (v:=?vr12) rfl (fun _ _ _ h=>h) ⟨by rfl,?hyr12⟩ (by assumption) ?_
       case hyr12=>(intro W hSw;obtain⟨⟨o1,o2,o3,o4,o5,o6⟩,⟨o7,o8,o9,o10,o11,o12⟩,o13,o14,o15,o16⟩:=hcl6 W hSw;go_simp;first|done|with_reducible rfl)
       try simp only[Act.put]
       refine wpAnyH_ready (rs:=[14]) (by kernel_rfl) (by simp) ?_
       refine AllReadyH.cons rfl (fun K hK=>?_) AllReadyH.nil
       go_simp
       refine hK.out _ _ ?_ (fun hHeld=>?_)
       ·(try dsimp only);with_reducible first|exact hQ0|exact hQ3|exact hQ4|exact hQ5
       clear hK K
       try simp only[pT,Act.put]
       refine wpAnyH_ready (rs:=[15]) (by kernel_rfl) (by simp) ?_
       refine AllReadyH.cons rfl (fun K hK=>?_) AllReadyH.nil
       go_simp
       refine(hmet V3 hb3).mono ?_
       rintro e V4 ⟨t,x1,y1,z1,x2,y2,z2,x3,y3,z3,rfl,HP,HMid,HPt,hfm⟩
       have hQ4:=hQ4f V3 V4 hb3 hfm
       have kT4:=hT4f V3 V4 hb3 hfm
       obtain⟨t40,t41,t42,t43⟩:=A3k kT4
       have tf0:=A0b kT4 0
       have tf1:=A0b kT4 1
       have tf2:=A0b kT4 2
       have tf3:=A0b kT4 3
       have zz3:=hb3.size
       have zz4:=hfm.size
       have zzD:V2.heap.size≤V2.drew.heap.size:=Nat.le_refl _
       have hQ5:=hQ5f V4 (.int .i64 t.number) (.slice x1 y1 z1) (.slice x2 y2 z2) (.slice x3 y3 z3) hQ4 kT4 (by omega)
       refine hK.out _ _ ?_ (fun hHeld=>?_)
       ·(try dsimp only);with_reducible first|exact hQ0|exact hQ3|exact hQ4|exact hQ5
       clear hK K
       try simp only[pT,Act.put]
       refine wpAnyH_ready (rs:=[16]) (by kernel_rfl) (by simp) ?_
       refine AllReadyH.cons rfl (fun K hK=>?_) AllReadyH.nil
       go_simp
       refine hK.out _ _ ?_ (fun hHeld=>?_)
       ·(try dsimp only);with_reducible first|exact hQ0|exact hQ3|exact hQ4|exact hQ5
       clear hK K
       try simp only[pT,Act.put]
       refine wpAnyH_done (by kernel_rfl) ?_ _
       go_wp2_with fail
       go_meet
       refine⟨t,x1,y1,z1,x2,y2,z2,x3,y3,z3,rfl,HP,HMid.out.fr (fr4 kT4),HPt,heap_setCell_same _ _ 3 _ _ _ (heap_setCell_same _ _ 2 _ _ _ (heap_setCell_same _ _ 1 _ _ _ (heap_setCell_same _ _ 0 _ _ _ kT4))),?_⟩
       exact((FrB.of_below (BTr (Below.refl _ V2).drew hb3):FrB (VL.fp (LB.fp d) (⟨un,ubi,uby,usu,(u1,v1,w1'),(u2,v2,w2'),(u3,v3,w3')⟩:VL (LB d))++VL.fp (LB.fp d) (⟨nu,bi,by',su,(p1,q1,r1),(p2,q2,r2),(p3,q3,r3)⟩:VL (LB d))) V2 V3).trans hfm (H:=VL.fp (LB.fp d) (⟨un,ubi,uby,usu,(u1,v1,w1'),(u2,v2,w2'),(u3,v3,w3')⟩:VL (LB d))++VL.fp (LB.fp d) (⟨nu,bi,by',su,(p1,q1,r1),(p2,q2,r2),(p3,q3,r3)⟩:VL (LB d))) (fun _ hi=>hi) (fun _ hi=>.inl hi)).trans (fr4 kT4) (fun _ hi=>List.mem_append_left _ hi) (fun _ hi=>.inl (List.mem_append_right _ hi))
      ·skip
       go_simp
       refine hK.out _ _ ?_ (fun hHeld=>?_)
       ·(try dsimp only);with_reducible first|exact hQ0|exact hQ3|exact hQ4|exact hQ5
       clear hK K
       try simp only[pT,Act.put]
       refine wpAnyH_ready (rs:=[6]) (by kernel_rfl) (by simp) ?_
       refine AllReadyH.cons rfl (fun K hK=>?_) AllReadyH.nil
       go_simp
       refine hfld.mono ?_
       rintro e V3 ⟨rfl,hb3⟩
       have hQ3:=hQ3f V3 hb3
       have kT3:=hT3f V3 hb3
       obtain⟨t30,t31,t32,t33⟩:=A3k kT3
       refine hK.out _ _ ?_ (fun hHeld=>?_)
       ·(try dsimp only);with_reducible first|exact hQ0|exact hQ3|exact hQ4|exact hQ5
       clear hK K
       try simp only[pT,Act.put]
       refine tK (i:=7) (v:=?vr13) rfl (fun _ _ _ h=>h) ⟨by rfl,?hyr13⟩ (by assumption) ?_
       case hyr13=>(intro W hSw;obtain⟨⟨o1,o2,o3,o4,o5,o6⟩,⟨o7,o8,o9,o10,o11,o12⟩,o13,o14,o15,o16⟩:=hcl6 W hSw;go_simp;first|done|with_reducible rfl)
       try simp only[Act.put,List.setIfInBounds_toArray]
       refine tK (i:=8) (v:=?vr14) rfl (fun _ _ _ h=>h) ⟨by rfl,?hyr14⟩ (by assumption) ?_
       case hyr14=>(intro W hSw;obtain⟨⟨o1,o2,o3,o4,o5,o6⟩,⟨o7,o8,o9,o10,o11,o12⟩,o13,o14,o15,o16⟩:=hcl6 W hSw;go_simp;first|done|with_reducible rfl)
       try simp only[Act.put]
       refine wpAnyH_ready (rs:=[15]) (by kernel_rfl) (by simp) ?_
       refine AllReadyH.cons rfl (fun K hK=>?_) AllReadyH.nil
       go_simp
       refine(hmet V3 hb3).mono ?_
       rintro e V4 ⟨t,x1,y1,z1,x2,y2,z2,x3,y3,z3,rfl,HP,HMid,HPt,hfm⟩
       have hQ4:=hQ4f V3 V4 hb3 hfm
       have kT4:=hT4f V3 V4 hb3 hfm
       obtain⟨t40,t41,t42,t43⟩:=A3k kT4
       have tf0:=A0b kT4 0
       have tf1:=A0b kT4 1
       have tf2:=A0b kT4 2
       have tf3:=A0b kT4 3
       have zz3:=hb3.size
       have zz4:=hfm.size
       have zzD:V2.heap.size≤V2.drew.heap.size:=Nat.le_refl _
       have hQ5:=hQ5f V4 (.int .i64 t.number) (.slice x1 y1 z1) (.slice x2 y2 z2) (.slice x3 y3 z3) hQ4 kT4 (by omega)
       refine hK.out _ _ ?_ (fun hHeld=>?_)
       ·(try dsimp only);with_reducible first|exact hQ0|exact hQ3|exact hQ4|exact hQ5
       clear hK K
       try simp only[pT,Act.put]
       refine wpAnyH_ready (rs:=[16]) (by kernel_rfl) (by simp) ?_
       refine AllReadyH.cons rfl (fun K hK=>?_) AllReadyH.nil
       go_simp
       refine hK.out _ _ ?_ (fun hHeld=>?_)
       ·(try dsimp only);with_reducible first|exact hQ0|exact hQ3|exact hQ4|exact hQ5
       clear hK K
       try simp only[pT,Act.put]
       refine wpAnyH_done (by kernel_rfl) ?_ _
       go_wp2_with fail
       go_meet
       refine⟨t,x1,y1,z1,x2,y2,z2,x3,y3,z3,rfl,HP,HMid.out.fr (fr4 kT4),HPt,heap_setCell_same _ _ 3 _ _ _ (heap_setCell_same _ _ 2 _ _ _ (heap_setCell_same _ _ 1 _ _ _ (heap_setCell_same _ _ 0 _ _ _ kT4))),?_⟩
       exact((FrB.of_below (BTr (Below.refl _ V2).drew hb3):FrB (VL.fp (LB.fp d) (⟨un,ubi,uby,usu,(u1,v1,w1'),(u2,v2,w2'),(u3,v3,w3')⟩:VL (LB d))++VL.fp (LB.fp d) (⟨nu,bi,by',su,(p1,q1,r1),(p2,q2,r2),(p3,q3,r3)⟩:VL (LB d))) V2 V3).trans hfm (H:=VL.fp (LB.fp d) (⟨un,ubi,uby,usu,(u1,v1,w1'),(u2,v2,w2'),(u3,v3,w3')⟩:VL (LB d))++VL.fp (LB.fp d) (⟨nu,bi,by',su,(p1,q1,r1),(p2,q2,r2),(p3,q3,r3)⟩:VL (LB d))) (fun _ hi=>hi) (fun _ hi=>.inl hi)).trans (fr4 kT4) (fun _ hi=>List.mem_append_left _ hi) (fun _ hi=>.inl (List.mem_append_right _ hi))
     ·skip
      go_simp
      refine hK.out _ _ ?_ (fun hHeld=>?_)
      ·(try dsimp only);with_reducible first|exact hQ0|exact hQ3|exact hQ4|exact hQ5
      clear hK K
      try simp only[pT,Act.put]
      refine wpAnyH_ready (rs:=[5]) (by kernel_rfl) (by simp) ?_
      refine AllReadyH.cons rfl (fun K hK=>?_) AllReadyH.nil
      go_simp
      refine hK.out _ _ ?_ (fun hHeld=>?_)
      ·(try dsimp only);with_reducible first|exact hQ0|exact hQ3|exact hQ4|exact hQ5
      clear hK K
      try simp only[pT,Act.put]
      refine wpAnyH_ready (rs:=[6]) (by kernel_rfl) (by simp) ?_
      refine AllReadyH.cons rfl (fun K hK=>?_) AllReadyH.nil
      go_simp
      refine hfld.mono ?_
      rintro e V3 ⟨rfl,hb3⟩
      have hQ3:=hQ3f V3 hb3
      have kT3:=hT3f V3 hb3
      obtain⟨t30,t31,t32,t33⟩:=A3k kT3
      refine hK.out _ _ ?_ (fun hHeld=>?_)
      ·(try dsimp only);with_reducible first|exact hQ0|exact hQ3|exact hQ4|exact hQ5
      clear hK K
      try simp only[pT,Act.put]
      refine tK (i:=7) (v:=?vr15) rfl (fun _ _ _ h=>h) ⟨by rfl,?hyr15⟩ (by assumption) ?_
      case hyr15=>(intro W hSw;obtain⟨⟨o1,o2,o3,o4,o5,o6⟩,⟨o7,o8,o9,o10,o11,o12⟩,o13,o14,o15,o16⟩:=hcl6 W hSw;go_simp;first|done|with_reducible rfl)
      try simp only[Act.put,List.setIfInBounds_toArray]
      refine tK (i:=8) (v:=?vr16) rfl (fun _ _ _ h=>h) ⟨by rfl,?hyr16⟩ (by assumption) ?_
      case hyr16=>(intro W hSw;obtain⟨⟨o1,o2,o3,o4,o5,o6⟩,⟨o7,o8,o9,o10,o11,o12⟩,o13,o14,o15,o16⟩:=hcl6 W hSw;go_simp;first|done|with_reducible rfl)
      try simp only[Act.put]
      refine wpAnyH_ready (rs:=[15]) (by kernel_rfl) (by simp) ?_
      refine AllReadyH.cons rfl (fun K hK=>?_) AllReadyH.nil
      go_simp
      refine(hmet V3 hb3).mono ?_
      rintro e V4 ⟨t,x1,y1,z1,x2,y2,z2,x3,y3,z3,rfl,HP,HMid,HPt,hfm⟩
      have hQ4:=hQ4f V3 V4 hb3 hfm
      have kT4:=hT4f V3 V4 hb3 hfm
      obtain⟨t40,t41,t42,t43⟩:=A3k kT4
      have tf0:=A0b kT4 0
      have tf1:=A0b kT4 1
      have tf2:=A0b kT4 2
      have tf3:=A0b kT4 3
      have zz3:=hb3.size
      have zz4:=hfm.size
      have zzD:V2.heap.size≤V2.drew.heap.size:=Nat.le_refl _
      have hQ5:=hQ5f V4 (.int .i64 t.number) (.slice x1 y1 z1) (.slice x2 y2 z2) (.slice x3 y3 z3) hQ4 kT4 (by omega)
      refine hK.out _ _ ?_ (fun hHeld=>?_)
      ·(try dsimp only);with_reducible first|exact hQ0|exact hQ3|exact hQ4|exact hQ5
      clear hK K
      try simp only[pT,Act.put]
      refine wpAnyH_ready (rs:=[16]) (by kernel_rfl) (by simp) ?_
      refine AllReadyH.cons rfl (fun K hK=>?_) AllReadyH.nil
      go_simp
      refine hK.out _ _ ?_ (fun hHeld=>?_)
      ·(try dsimp only);with_reducible first|exact hQ0|exact hQ3|exact hQ4|exact hQ5
      clear hK K
      try simp only[pT,Act.put]
      refine wpAnyH_done (by kernel_rfl) ?_ _
      go_wp2_with fail
      go_meet
      refine⟨t,x1,y1,z1,x2,y2,z2,x3,y3,z3,rfl,HP,HMid.out.fr (fr4 kT4),HPt,heap_setCell_same _ _ 3 _ _ _ (heap_setCell_same _ _ 2 _ _ _ (heap_setCell_same _ _ 1 _ _ _ (heap_setCell_same _ _ 0 _ _ _ kT4))),?_⟩
      exact((FrB.of_below (BTr (Below.refl _ V2).drew hb3):FrB (VL.fp (LB.fp d) (⟨un,ubi,uby,usu,(u1,v1,w1'),(u2,v2,w2'),(u3,v3,w3')⟩:VL (LB d))++VL.fp (LB.fp d) (⟨nu,bi,by',su,(p1,q1,r1),(p2,q2,r2),(p3,q3,r3)⟩:VL (LB d))) V2 V3).trans hfm (H:=VL.fp (LB.fp d) (⟨un,ubi,uby,usu,(u1,v1,w1'),(u2,v2,w2'),(u3,v3,w3')⟩:VL (LB d))++VL.fp (LB.fp d) (⟨nu,bi,by',su,(p1,q1,r1),(p2,q2,r2),(p3,q3,r3)⟩:VL (LB d))) (fun _ hi=>hi) (fun _ hi=>.inl hi)).trans (fr4 kT4) (fun _ hi=>List.mem_append_left _ hi) (fun _ hi=>.inl (List.mem_append_right _ hi))
    case rest=>
     obtain⟨t,x1,y1,z1,x2,y2,z2,x3,y3,z3,rfl,HP,HMid,HPt,kTc,hfc⟩:=hcut
     have hzc:=hfc.size
     have hGX:FrB (L0++[w.heap.size+2]) W5 wc:=hext _ _ _ hG2 hfc fun k hk hlt=>by
      rcases List.mem_append.1 hk with hk|hk
      ·exact List.mem_append_left _ ((HNFF.out k hk).2.2.2 hlt)
      ·rw[List.mem_singleton] at hk
       omega
     have kAX:=(hfc.blk (show w.heap.size+2 < V2.heap.size by omega) (fun h=>(nI _ h).2.2.2.2 rfl)).trans kA2
     obtain⟨_,kMc,_,_⟩:=hkeep wc hGX
     obtain⟨t20,t21,t22,t23⟩:=A3k kTc
     obtain⟨m20,m21,m22⟩:=A6o kMc
     obtain⟨a20,a21⟩:=A0x kAX
     have HPy:Hid _:=HPy0.out _ HPt.out
     have hput:Calls Tryz.prog 43 #[.agg #[.string (S s),.slice (some ⟨bf,of,none⟩) nf cf,.slice ab nb cb],.agg #[.slice (some ⟨gA,0,none⟩) f0 g0,.slice a1 n1 c1],.agg #[.int .i64 t.number,.slice x1 y1 z1,.slice x2 y2 z2,.slice x3 y3 z3]] wc fun e w'=>
       ∃ (l':List (VL (LB d))) (a':Option Addr) (n' c':Nat),e = .returned (.agg #[.slice a' n' c',.slice a1 n1 c1])∧Hid (l'.map (VL.pl (LB.pl d))=A6d M.fields x (l.map (VL.pl (LB.pl d))) (VL.pl (LB.pl d) t))∧Hid (JSt d W0.heap.size W5 L0 ⟨vb,ub,(some ⟨gB,0,none⟩,m0,d0),(b1,m1,d1)⟩ w' ⟨l',ua,(a',n',c'),(a1,n1,c1)⟩ (vb.drop (i+1)))∧FrB (own1 (some ⟨gA,0,none⟩,f0,g0)) wc w':=by
      obtain⟨ht1,ht2⟩:=HTn.out _ HPt.out
      have htn:t.number=nu:=ht1
      have:=B6v HMid.out (vb:=.slice ab nb cb) (HF.out.below FAt.stays (hbl _ hGX)) HOK.out.1 HOK.out.2 ⟨_,_,_,rfl⟩ ⟨s,rfl⟩ HNum.out (by have:=HLl.out;have:=HWt.out;show(l.length+1)*80≤140737488355328;omega) (by have:=(hbl _ hGX).size;omega) (by omega) (by rw[htn];exact HX.out) (by omega) (by rw[htn];exact HNU.out)
      rw[HP.out.1,HP.out.2.1,HP.out.2.2] at this
      exact this
     clear hQ3f hT3f hT4f hQ4f hQ5f hmet hcl6 hfld jF jM kT2 hQ0
     go_wp2_with fail
     refine hput.mono ?_
     rintro e V6 ⟨l',a',n',c',rfl,HPl',HJ',hfr⟩
     have zA:w.heap.size+2∉own1 (some ⟨gA,0,none⟩,f0,g0):=fun hm=>by
      have h1:=List.count_pos_iff.2 hm
      have h2:=(HMid.out.once (w.heap.size+2)).2 (by omega)
      have h3:=HLC.out (w.heap.size+2) (by omega)
      unfold A6x at h2
      dsimp only at h2
      omega
     have hzX:=hGX.size
     have hz6:=hfr.size
     have k6:=(hfr.blk (show w.heap.size+2 < wc.heap.size by omega) zA).trans kAX
     obtain⟨c60,c61⟩:=A0x k6
     have f60:=A0b k6 0
     have f61:=A0b k6 1
     have hG6:FrB (L0++[w.heap.size+2]) W5 V6:=hext _ _ _ hGX hfr fun k hk hlt=>by
      have h1:=List.count_pos_iff.2 hk
      have h2:=(HMid.out.once k).2 hlt
      unfold A6x at h2
      dsimp only at h2
      exact List.mem_append_left _ (List.count_pos_iff.1 (by omega))
     have HG7:Hid _:=C0j k6 (x0:=.slice a' n' c') (x1:=.slice a1 n1 c1)
     have HK7:Hid _:=heap_setCell_same _ _ 1 _ _ (.slice a1 n1 c1) (heap_setCell_same _ _ 0 _ _ (.slice a' n' c') k6)
     go_wp2_with fail
     go_roundg (m0 - (i+1))
     case measure=>omega
     case rel=>
      refine⟨i+1,l',a',n',c',by omega,by go_num,?_,?_,?_,?_⟩
      ·show _=_
       rw[HPl'.out,HPy.out,HPL.out,List.take_add_one,Hv.out]
       simp only[List.map_append,List.foldl_append,Option.toList_some,List.map_cons,List.map_nil,List.foldl_cons,List.foldl_nil]
      ·refine HJ'.out.fr HG7.out fun k hk=>?_
       rw[List.mem_singleton.1 hk]
       have h2:=(HJ'.out.once (w.heap.size+2)).2 (by omega)
       have h3:=HLC.out (w.heap.size+2) (by omega)
       omega
      ·exact HK7.out
      ·exact hext _ _ _ hG6 HG7.out fun k hk _=>List.mem_append_right _ hk
  ·have hi':i=m0:=by omega
   have hJ:JSt d W0.heap.size W5 L0 ⟨vb,ub,(b0,m0,d0),(b1,m1,d1)⟩ wr ⟨l,ua,(e0,f0,g0),(a1,n1,c1)⟩ []:=by
    have h1:=HJ.out
    rwa [List.drop_eq_nil_of_le (by have:=HFL.out;omega)] at h1
   have HPE:Hid (l.map (VL.pl (LB.pl d))=(vb.map (VL.pl (LB.pl d))).foldl (A1x (jnB ms d) ms M.fields) (va.map (VL.pl (LB.pl d)))):=by
    have h1:=HPL.out
    rwa [List.take_of_length_le (by have:=HFL.out;omega)] at h1
   have hr1:Row ekR wr W0.heap.size (PV.v (a1,n1,c1)) ua:=hJ.own.r1
   have hr2:Row ekR wr W0.heap.size (PV.v (b1,m1,d1)) ub:=hJ.rb1
   have hl1:(ua.length+ub.length)*48≤140737488355328:=by
    have:=HLen.out
    simp only[List.length_map] at this
    omega
   have bB:W0.heap.size≤wr.heap.size:=(hbl _ hG).size
   obtain⟨yA0,yA1⟩:=A0x xA
   obtain⟨yB0,yB1⟩:=A0x kB
   have HJe:Hid _:=hJ
   clear hJ hLl hWl hSL kF kM
   unfold PV.v at hr1 hr2
   go_wp2_with (at_builtin;refine A4e rfl ekR _ _ rfl W0.heap.size (a1,n1,c1) (b1,m1,d1) ua ub (by decide) rfl hr1 rfl hr2 (by decide) hl1 bB ?_)
   intro e1 f1 g1 w1 R1 O1 F1 M1
   have zw1:=F1.size
   have z0:∀ k,w.heap.size≤k→k < W5.heap.size→A6h d ⟨vb,ub,(b0,m0,d0),(b1,m1,d1)⟩ ⟨l,ua,(e0,f0,g0),(a1,n1,c1)⟩ [] k=0:=fun k h1 h2=>by
    have:=(HJe.out.once k).2 h2
    have:=HLC.out k h1
    omega
   have n1':∀ k,w.heap.size≤k→k < W5.heap.size→k∉own1 (a1,n1,c1):=fun k h1 h2 hm=>by
    have h3:=z0 k h1 h2
    have h4:=List.count_pos_iff.2 hm
    unfold A6h at h3
    dsimp only at h3
    omega
   have kA1:=(F1.blk (show w.heap.size+2 < wr.heap.size by omega) (n1' _ (by omega) (by omega))).trans xA
   have kR1:=(F1.blk (show w.heap.size+4 < wr.heap.size by omega) (n1' _ (by omega) (by omega))).trans kR
   obtain⟨s0,s1⟩:=A0x kA1
   have q1:=A0b kA1 1
   obtain⟨r0,r1⟩:=A0x kR1
   have q2:=A0b kR1 0
   have q3:=A0b kR1 1
   have G1:FrB [w.heap.size+2] w1 (w1.setCell ⟨w.heap.size+2,1,none⟩ (.slice e1 f1 g1)):=A1b kA1 (by decide)
   have kR2:=(G1.blk (show w.heap.size+4 < w1.heap.size by omega) (by simp)).trans kR1
   have G2:=C0j kR2 (x0:=.slice e0 f0 g0) (x1:=.slice e1 f1 g1)
   have HT:Hid (FrB [w.heap.size+2,w.heap.size+4] w1 _):=G1.trans G2 (fun i hi=>by simp at hi;simp[hi]) (fun i hi=>.inl (by simp at hi;simp[hi]))
   have HR1:Hid _:=R1
   have HF1:Hid _:=F1
   have HM1:Hid _:=M1
   clear kA1 kR1 G1 kR2 G2 R1 O1 F1 M1
   go_wp2_with fail
   refine bodyPost_ret (v:=.agg #[.slice e0 f0 g0,.slice e1 f1 g1]) (by simp[results,Tryz.results35,go_sem, *]) rfl ?_
   have T:=HT.out
   have hJ:=HJe.out
   have nT:∀ k,k < w.heap.size∨W5.heap.size≤k→k∉[w.heap.size+2,w.heap.size+4]:=fun k hk hm=>by
    simp only[List.mem_cons,List.mem_nil_iff,or_false] at hm
    omega
   have cJ:∀ k,A6h d ⟨vb,ub,(b0,m0,d0),(b1,m1,d1)⟩ ⟨l,ua,(e0,f0,g0),(a1,n1,c1)⟩ [] k≤1∧(k < W5.heap.size→A6h d ⟨vb,ub,(b0,m0,d0),(b1,m1,d1)⟩ ⟨l,ua,(e0,f0,g0),(a1,n1,c1)⟩ [] k≤L0.count k):=hJ.once
   have lJ:=fun k=>hJ.lt (k:=k)
   unfold A6h at cJ z0 lJ
   dsimp only at cJ z0 lJ
   have nK:∀ k,0 < (own1 (e0,f0,g0)).count k+(l.flatMap (VL.fp (LB.fp d))).count k→k∉own1 (a1,n1,c1)∧k∉[w.heap.size+2,w.heap.size+4]:=fun k hk=>⟨fun hm=>by
     have:=List.count_pos_iff.2 hm
     have:=(cJ k).1
     omega,nT k (by
     have h1:=z0 k
     omega)⟩
   refine⟨(⟨l,ua++ub,(e0,f0,g0),(e1,f1,g1)⟩:BL (LB d)),e0,f0,g0,e1,f1,g1,rfl,rfl,?_,?_,?_,?_⟩
   ·show(⟨l.map (VL.pl (LB.pl d)),(ua++ub).map Prod.fst⟩:BO (BI d))=⟨(vb.map (VL.pl (LB.pl d))).foldl (A1x (jnB ms d) ms M.fields) (va.map (VL.pl (LB.pl d))),ua.map Prod.fst++ub.map Prod.fst⟩
    rw[HPE.out,List.map_append]
   ·refine⟨Row.frB (p:=(e0,f0,g0)) (Row.frB (p:=(e0,f0,g0)) hJ.own.r0 HF1.out fun k hk=>(nK k (by have:=List.count_pos_iff.2 hk;omega)).1) T fun k hk=>(nK k (by have:=List.count_pos_iff.2 hk;omega)).2,fun v hv=>OwnV.fr (OwnB.fr d) (OwnV.fr (OwnB.fr d) (hJ.own.r0v v hv) HF1.out fun k hk=>(nK k (by have:=List.count_pos_iff.2 (List.mem_flatMap.2 ⟨v,hv,hk⟩:k∈l.flatMap (VL.fp (LB.fp d)));omega)).1) T fun k hk=>(nK k (by have:=List.count_pos_iff.2 (List.mem_flatMap.2 ⟨v,hv,hk⟩:k∈l.flatMap (VL.fp (LB.fp d)));omega)).2,Row.frB (p:=(e1,f1,g1)) HR1.out T fun k hk=>nT k ?_,fun r hr=>?_⟩
    ·rcases HM1.out k hk with h1|h1
     ·have:=List.count_pos_iff.2 h1
      have:=z0 k
      omega
     ·omega
    ·rcases List.mem_append.1 hr with hr|hr
     ·exact((hJ.own.r1y r hr).frY HF1.out).frY T
     ·exact((hJ.rb1y r hr).frY HF1.out).frY T
   ·intro k
    have o1:=A3g (e1,f1,g1) k
    have o2:0 < (own1 (e1,f1,g1)).count k→0 < (own1 (a1,n1,c1)).count k∨wr.heap.size≤k:=fun h=>(HM1.out k (A0t h)).imp List.count_pos_iff.2 id
    have h1:=cJ k
    have h2:=lJ k
    rw[←HL0.out]
    show(BL.fp (LB.fp d) (⟨l,ua++ub,(e0,f0,g0),(e1,f1,g1)⟩:BL (LB d))).count k≤1∧(k < w.heap.size→(BL.fp (LB.fp d) (⟨l,ua++ub,(e0,f0,g0),(e1,f1,g1)⟩:BL (LB d))).count k≤L0.count k)
    rw[A5k]
    dsimp only
    exact⟨by omega,fun hk=>by have:=h1.2 (by omega);omega⟩
   ·rw[←HL0.out]
    have t1:FrB (L0++[w.heap.size+2]) W5 w1:=hext _ _ _ hG HF1.out fun k hk hlt=>by
     have:=List.count_pos_iff.2 hk
     have:=(cJ k).2 hlt
     exact List.mem_append_left _ (List.count_pos_iff.1 (by omega))
    have t2:FrB (L0++[w.heap.size+2,w.heap.size+4]) W5 _:=t1.trans T (fun i hi=>by
     rcases List.mem_append.1 hi with hi|hi
     ·exact List.mem_append_left _ hi
     ·exact List.mem_append_right _ (by simp at hi;simp[hi])) (fun i hi=>.inl (List.mem_append_right _ hi))
    exact(FrB.of_below hb5:FrB L0 w W5).trans t2 (fun _ hi=>hi) fun i hi=>by
     rcases List.mem_append.1 hi with hi|hi
     ·exact .inl hi
     ·right
      simp only[List.mem_cons,List.mem_nil_iff,or_false] at hi
      omega
end L
end Go.Proofs.YtelmjekjohbmjaaGreatDoor
