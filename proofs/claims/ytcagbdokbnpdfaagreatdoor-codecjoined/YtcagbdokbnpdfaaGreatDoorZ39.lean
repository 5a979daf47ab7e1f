import Derived.Test.YtcagbdokbnpdfaaGreatDoorZ38
import Derived.Test.YtcagbdokbnpdfaaGreatDoorZ28
import Derived.ProofKit
import Derived.OpenShut
import Derived.Deep.Slices
import Derived.SizedLaws
import Derived.Test.YtcagbdokbnpdfaaGreatDoorZ03
import Derived.Deep.LoopGhost
namespace Go.Proofs.YtcagbdokbnpdfaaGreatDoor
namespace L
open Go.RowKit
set_option linter.unusedVariables false
def A4e:GI:=⟨[⟨[65],[⟨[120],1,2,[],true,0⟩,⟨[121],2,10,[65],false,0⟩],[]⟩],[]⟩
def B6z:MI:=⟨[65],[⟨[120],1,2,[],true,0⟩,⟨[121],2,10,[65],false,0⟩],[]⟩
def A9z:BO (BI 0):=⟨[⟨1,[1,2],[],[]⟩],[]⟩
def C3t:BO (BI 11):=⟨[⟨1,[1,2],[],[]⟩],[]⟩
theorem C1d:A7k A4e 0 0 A9z=([10,2,2,4],0):=by decide +kernel
theorem B7b:D3s B6z = [1,2]:=by
 show List.mergeSort [(1:Int),2] (fun x y=>decide (x≤y)) = [1,2]
 exact List.mergeSort_of_pairwise (by simp)
theorem C1f:A2d A4e 0 [10,2,2,4] = .ok C3t:=by kernel_rfl
theorem B7a:Fits A4e:=by
 refine⟨fun m hm=>?_,fun e he=>by cases he⟩
 simp only[A4e,List.mem_singleton] at hm
 subst hm
 refine⟨by decide,fun f hf=>?_⟩
 simp only[List.mem_cons,List.mem_nil_iff,or_false] at hf
 rcases hf with rfl|rfl <;> decide
theorem C1e:∀ M∈A4e.msgs,(∀ f∈M.fields,I64 f.number∧I64 f.choice)∧M.fields.length≤140737488355328:=by
 intro M hM
 simp only[A4e,List.mem_singleton] at hM
 subst hM
 refine⟨fun f hf=>?_,by decide⟩
 simp only[List.mem_cons,List.mem_nil_iff,or_false] at hf
 rcases hf with rfl|rfl <;> (unfold I64;decide)
theorem B1z {w:World}{a:Option Addr}{n c:Nat}(hg:GRd w (.slice a n c) (.slice none 0 0) A4e) (hT:Tabs w):WIn A4e a n c none 0 0 0 w:=⟨hg,by decide,by decide,B7a,C1e,hT,by decide,by decide⟩
theorem C3u:BOk (0+1) A9z:=by
 refine⟨fun v hv=>?_,by unfold reachBytes;decide,fun r hr=>(List.not_mem_nil hr).elim,by unfold reachBytes;decide⟩
 have hv:v=⟨1,[1,2],[],[]⟩:=List.mem_singleton.1 hv
 subst hv
 refine⟨by unfold I64;decide,by decide,by unfold reachBytes;decide,fun l hl=>(List.not_mem_nil hl).elim,by unfold reachBytes;decide,fun s hs=>(List.not_mem_nil hs).elim,by unfold reachBytes;decide⟩
theorem A7y {α:Type}{sz n:Nat}{P:World→Addr→α→Prop}{w:World}{g:Nat}{l:List α}(hl:l.length=n) (hn:n≤1000000) (hat:∀ k a,l[k]?=some a→P w ⟨g,k*sz,none⟩ a):RdL sz P w (.slice (some ⟨g,0,none⟩) n n) l:=
 ⟨_,n,n,rfl,hl,Nat.le_refl _,by unfold maxLen;omega,(fun e=>by cases e),fun x hx k a ha=>by cases hx;rw[A0f,Nat.zero_add];exact hat k a ha⟩
set_option maxHeartbeats 2000000 in
set_option maxRecDepth 100000 in
theorem A8k (w:World):Calls Tryz.prog 35 #[] w fun e w'=>∃ a n c,e = .returned (.agg #[.slice a n c,.slice none 0 0])∧GRd w' (.slice a n c) (.slice none 0 0) A4e∧Below w.heap.size w w':=by
 obtain⟨X,HX⟩:∃ X,Hid (X=((w.alloc (.cells #[.slice (some ⟨w.heap.size+1+1,0,none⟩) 1 1,.slice none 0 0] 25)).alloc (.cells #[.string ⟨#[120]⟩,.int .i64 1,.int .i64 2,.string ⟨#[]⟩,.bool true,.int .i64 0,.string ⟨#[121]⟩,.int .i64 2,.int .i64 10,.string ⟨#[65]⟩,.bool false,.int .i64 0] 58)).alloc (.cells #[.string ⟨#[65]⟩,.slice (some ⟨w.heap.size+1,0,none⟩) 2 2,.slice none 0 0] 35)):=⟨_,rfl⟩
 obtain⟨x3,x2,x1⟩:=C3v w (.cells #[.slice (some ⟨w.heap.size+1+1,0,none⟩) 1 1,.slice none 0 0] 25) (.cells #[.string ⟨#[120]⟩,.int .i64 1,.int .i64 2,.string ⟨#[]⟩,.bool true,.int .i64 0,.string ⟨#[121]⟩,.int .i64 2,.int .i64 10,.string ⟨#[65]⟩,.bool false,.int .i64 0] 58) (.cells #[.string ⟨#[65]⟩,.slice (some ⟨w.heap.size+1,0,none⟩) 2 2,.slice none 0 0] 35)
 rw[←HX.out] at x1 x2 x3
 have hb:Below w.heap.size w X:=by rw[HX.out];exact(((Below.refl _ _).alloc (Nat.le_refl _) _).alloc (by simp) _).alloc (by simp;omega) _
 have hrf:RdL 6 FAt X (.slice (some ⟨w.heap.size+1,0,none⟩) 2 2) [⟨[120],1,2,[],true,0⟩,⟨[121],2,10,[65],false,0⟩]:=by
  refine A7y rfl (by decide) fun k a ha=>?_
  match k,ha with
  | 0,ha=>
   have ha:(⟨[120],1,2,[],true,0⟩:FI)=a:=by simpa using ha
   subst ha
   refine⟨A0a x2 0 _ rfl,?_,?_,?_,?_,?_⟩ <;> rw[A0f]
   ·exact A0a x2 1 _ rfl
   ·exact A0a x2 2 _ rfl
   ·exact A0a x2 3 _ rfl
   ·exact A0a x2 4 _ rfl
   ·exact A0a x2 5 _ rfl
  | 1,ha=>
   have ha:(⟨[121],2,10,[65],false,0⟩:FI)=a:=by simpa using ha
   subst ha
   refine⟨A0a x2 6 _ rfl,?_,?_,?_,?_,?_⟩ <;> rw[A0f]
   ·exact A0a x2 7 _ rfl
   ·exact A0a x2 8 _ rfl
   ·exact A0a x2 9 _ rfl
   ·exact A0a x2 10 _ rfl
   ·exact A0a x2 11 _ rfl
  | k+2,ha=>simp at ha
 have hrm:RdL 3 MAt X (.slice (some ⟨w.heap.size+1+1,0,none⟩) 1 1) A4e.msgs:=by
  refine A7y rfl (by decide) fun k a ha=>?_
  match k,ha with
  | 0,ha=>
   have ha:(⟨[65],[⟨[120],1,2,[],true,0⟩,⟨[121],2,10,[65],false,0⟩],[]⟩:MI)=a:=by simpa [A4e] using ha
   subst ha
   refine⟨_,_,A0a x3 0 _ rfl,?_,?_,hrf,RdL.nil _ _ _⟩ <;> rw[A0f]
   ·exact A0a x3 1 _ rfl
   ·exact A0a x3 2 _ rfl
  | k+1,ha=>simp[A4e] at ha
 have y0:X.cell? ⟨w.heap.size,0,none⟩=some (.slice (some ⟨w.heap.size+1+1,0,none⟩) 1 1):=A0a x1 0 _ rfl
 have y1:X.cell? ⟨w.heap.size,1,none⟩=some (.slice none 0 0):=A0a x1 1 _ rfl
 go_enter Tryz.func35,Tryz.ntmps35
 go_wp2_with fail
 rw[←HX.out]
 refine bodyPost_ret (v:=.agg #[.slice (some ⟨w.heap.size+1+1,0,none⟩) 1 1,.slice none 0 0]) (by simp[results,Tryz.results35,go_sem,y0,y1]) rfl ?_
 exact⟨_,_,_,rfl,⟨hrm,RdL.nil _ _ _⟩,hb⟩
set_option maxRecDepth 100000 in
theorem D3i (a b:Option Addr) (n c n' c':Nat) (w:World):(Instr.field 25 (.agg #[.slice a n c,.slice b n' c']) 0).run Tryz.prog w = .ok (.slice a n c) w:=by rfl
set_option maxHeartbeats 4000000 in
set_option maxRecDepth 100000 in
theorem alive5_any:B9e:=by
 intro w hT
 have hf:=A8k w
 go_enter Tryz.func17,Tryz.ntmps17
 go_wp2_with fail
 refine hf.mono ?_
 rintro e w2 ⟨am,nm,cm,rfl,hg,hb1⟩
 obtain⟨W3,HW3⟩:∃ W3,Hid (W3=(w2.alloc (.cells #[.int .u64 1,.int .u64 2] 63)).alloc (.cells #[.int .i64 1,.slice (some ⟨w2.heap.size,0,none⟩) 2 2,.slice none 0 0,.slice none 0 0] 54)):=⟨_,rfl⟩
 have x2:W3.heap[w2.heap.size]?=some (.cells #[.int .u64 1,.int .u64 2] 63 (0,0)):=by rw[HW3.out];exact A0u _ _ _
 have x3:W3.heap[w2.heap.size+1]?=some (.cells #[.int .i64 1,.slice (some ⟨w2.heap.size,0,none⟩) 2 2,.slice none 0 0,.slice none 0 0] 54 (0,0)):=by rw[HW3.out];exact A0r _ _ _
 have hb3:Below w2.heap.size w2 W3:=by rw[HW3.out];exact((Below.refl _ _).alloc (Nat.le_refl _) _).alloc (by simp) _
 have hbw3:Below w.heap.size w W3:=KBT hb1 hb3
 have hru:RdL 1 UAt W3 (.slice (some ⟨w2.heap.size,0,none⟩) 2 2) [1,2]:=by
  refine A7y rfl (by decide) fun k a ha=>?_
  match k,ha with
  | 0,ha=>
   have ha:1=a:=by simpa using ha
   subst ha
   exact A0a x2 0 _ rfl
  | 1,ha=>
   have ha:2=a:=by simpa using ha
   subst ha
   exact A0a x2 1 _ rfl
  | k+2,ha=>simp at ha
 have hrv:BRd 0 W3 (.slice (some ⟨w2.heap.size+1,0,none⟩) 1 1) (.slice none 0 0) A9z:=by
  refine⟨A7y rfl (by decide) fun k a ha=>?_,RdL.nil _ _ _⟩
  match k,ha with
  | 0,ha=>
   have ha:(⟨1,[1,2],[],[]⟩:VI (BI 0))=a:=by simpa [A9z] using ha
   subst ha
   refine⟨_,_,_,A0a x3 0 _ rfl,?_,?_,?_,hru,RdL.nil _ _ _,RdL.nil _ _ _⟩ <;> rw[A0f]
   ·exact A0a x3 1 _ rfl
   ·exact A0a x3 2 _ rfl
   ·exact A0a x3 3 _ rfl
  | k+1,ha=>simp[A9z] at ha
 have hbt:=A3z (B1z (hg.below hb3) (hT.below hbw3)) (d:=0) hrv C3u
 rw[C1d] at hbt
 clear hf x2 x3 hru hrv
 go_wp2_with fail
 rw[←HW3.out]
 refine hbt.mono ?_
 rintro e w4 ⟨a4,n4,c4,rfl,hr4,hb4⟩
 have hbw4:Below w.heap.size w w4:=KBT hbw3 hb4
 have hf2:=A8k w4
 clear hbt
 go_wp2_with fail
 refine hf2.mono ?_
 rintro e w5 ⟨am2,nm2,cm2,rfl,hg2,hb5⟩
 have hbw5:Below w.heap.size w w5:=KBT hbw4 hb5
 have hr5:=hr4.below hb5
 have hpa:Calls Tryz.prog 14 #[.agg #[.slice am2 nm2 cm2,.slice none 0 0],.int .i64 0,.slice a4 n4 c4] w5 fun e w'=>∃ (i0:Option Addr) (l0:Nat) (i1:Option Addr) (j1 l1:Nat),e = .returned (.tuple #[.agg #[.slice i0 1 l0,.slice i1 j1 l1],.int .i64 0])∧Below w5.heap.size w5 w':=by
  refine(A3a (B1z hg2 (hT.below hbw5)) hr5.rdY).mono ?_
  intro e w' ho
  rw[C1f] at ho
  obtain⟨c,i0,j0,l0,i1,j1,l1,h1,h2,h3,h4,_,h5⟩:=ho
  have hj:j0=1:=by
   have h6:=OwnB.rd (show OwnB w5.heap.size (11+1) w' c from h4)
   have h7 : [PV.v (BL.q0 c),PV.v (BL.q1 c)] = [.slice i0 j0 l0,.slice i1 j1 l1]:=h1
   simp only[List.cons.injEq,and_true] at h7
   rw[h7.1,h7.2,show LB.pl (11+1) c=C3t from h3] at h6
   exact h6.1.len.1
  subst hj
  exact⟨i0,l0,i1,j1,l1,h2,h5⟩
 clear hf2
 go_wp2_with fail
 refine hpa.mono ?_
 rintro e w6 ⟨i0,l0,i1,j1,l1,rfl,hb6⟩
 have hbw6:Below w.heap.size w w6:=KBT hbw5 hb6
 obtain⟨W8,HW8⟩:∃ W8,Hid (W8=(w6.alloc (.cells #[.slice i0 1 l0,.slice i1 j1 l1] 29)).alloc (.cells #[.int .u8 10,.int .u8 2,.int .u8 2,.int .u8 4] 5)):=⟨_,rfl⟩
 have x7:W8.heap[w6.heap.size]?=some (.cells #[.slice i0 1 l0,.slice i1 j1 l1] 29 (0,0)):=by rw[HW8.out];exact A0u _ _ _
 have x8:W8.heap[w6.heap.size+1]?=some (.cells #[.int .u8 10,.int .u8 2,.int .u8 2,.int .u8 4] 5 (0,0)):=by rw[HW8.out];exact A0r _ _ _
 have hb8:Below w6.heap.size w6 W8:=by rw[HW8.out];exact((Below.refl _ _).alloc (Nat.le_refl _) _).alloc (by simp) _
 have hz8:w6.heap.size+2≤W8.heap.size:=by rw[HW8.out];simp
 have hbw8:Below w.heap.size w W8:=KBT hbw6 hb8
 have hrl:RdL 1 YAt W8 (.slice (some ⟨w6.heap.size+1,0,none⟩) 4 4) [10,2,2,4]:=by
  refine A7y rfl (by decide) fun k a ha=>?_
  match k,ha with
  | 0,ha=>
   have ha:(10:UInt8)=a:=by simpa using ha
   subst ha
   exact A0a x8 0 _ rfl
  | 1,ha=>
   have ha:(2:UInt8)=a:=by simpa using ha
   subst ha
   exact A0a x8 1 _ rfl
  | 2,ha=>
   have ha:(2:UInt8)=a:=by simpa using ha
   subst ha
   exact A0a x8 2 _ rfl
  | 3,ha=>
   have ha:(4:UInt8)=a:=by simpa using ha
   subst ha
   exact A0a x8 3 _ rfl
  | k+4,ha=>simp at ha
 have s1:=A2n (((hr5.below hb6).below ((Below.refl _ w6).alloc (Nat.le_refl _) (.cells #[.slice i0 1 l0,.slice i1 j1 l1] 29)))).rdY
 have s2:=A2n hrl
 rw[HW8.out] at s2
 have hHow:=A9v 7 W8
 rw[show A3t 7=5 from by decide] at hHow
 have hf3:=A8k W8
 obtain⟨y0,y1⟩:=A0v x7
 rw[HW8.out] at y0
 clear hpa
 go_wp2_with fail
 rw[←HW8.out]
 refine hHow.mono ?_
 rintro e _ ⟨rfl,rfl⟩
 go_wp2_with fail
 refine hf3.mono ?_
 rintro e w9 ⟨am3,nm3,cm3,rfl,hg3,hb9⟩
 have hnm3:nm3=1:=hg3.1.len.1
 subst hnm3
 obtain⟨bm,om,rfl,hat⟩:=hg3.1.get MAt.plain (k:=0) (a:=B6z) rfl
 obtain⟨vf,vb,g0,g1,g2,hrf,hrb⟩:=hat.at
 obtain⟨af,nf,kf,rfl,_,_⟩:=hrf.shape
 obtain⟨ab,nb,kb,rfl,_,_⟩:=hrb.shape
 rw[Nat.zero_mul,Nat.add_zero] at g0 g1 g2
 have hnu:=B8e (nm:=[65]) (m:=B6z) hrf ⟨ab,nb,kb,rfl⟩ (by decide)
 have hnu:Calls Tryz.prog 10 #[.agg #[.string (S [65]),.slice af nf kf,.slice ab nb kb]] w9 fun e w'=>∃ ao cap,e = .returned (.slice ao 2 cap)∧Below w9.heap.size w9 w':=hnu.mono fun e w' ⟨a,n,c,h1,h2,h3⟩=>by
  have hl:n=2:=by
   have:=h2.len
   rw[B7b] at this
   exact this
  subst hl
  exact⟨a,c,h1,h3⟩
 have g0:w9.cell? ⟨bm,om,none⟩=some (.string (S [65])):=g0
 clear hf3 hHow s1 s2 hat
 have hfl:=D3i
 go_wp2_with fail
 refine hnu.mono ?_
 rintro e w10 ⟨an,cn,rfl,hb10⟩
 have hbf:=KBT (KBT hbw8 hb9) hb10
 go_wp2
 go_ret
 exact⟨rfl,hbf⟩
end L
end Go.Proofs.YtcagbdokbnpdfaaGreatDoor
namespace Go.Proofs.YtcagbdokbnpdfaaGreatDoor
open Go.ChangeShapes Go.WideShapes Go.ChangeAt Go.RowKit
theorem C2z {w:World}{x:Addr}{len cap:Nat}{zs:List Int}(hl:len≤cap) (hm:cap≤maxLen) (hz:len≤zs.length)
  (hcell:∀ i,i < zs.length→w.cell? (x.add i)=some (.int .u8 (zs.getD i 0))) (hwz:∀ n∈zs,(Lit.int .u8 n).wf=true) :
  RdA w (some x) len cap ((zs.take len).map fun n=>UInt8.ofNat n.toNat):=by
 refine⟨by simp;omega,hl,hm,by simp,?_⟩
 intro y hy i hi
 cases hy
 rw[hcell i (by omega)]
 have hiz:i < zs.length:=by omega
 have hb:=bounds_u8 (hwz zs[i] (List.getElem_mem hiz))
 simp[hi,hiz]
 omega
section
variable {H:Type}{enc:TypeId×Value→H}{w:World}{base:Nat}{spare:Nat→Bool}{held:Bool}
set_option maxRecDepth 100000 in
theorem A5k {fuel:Nat}{cs:List Value}{x:DataW H×List MemPlace}(h:DataW.trod enc Tryz.prog w base spare held fuel 30 cs=some x) :
  ∃ ao len cap l,cs = [.slice ao len cap]∧RdA w ao len cap l:=by
 rcases open_ints Tryz.underlying30 Tryz.underlying5 (by kernel_rfl) h with⟨hcs,_⟩|⟨a,len,cap,zs,hcs,_,hl,hm,hz,_,hcell,hwz⟩
 ·exact⟨none,0,0,[],hcs,RdA.nil _⟩
 ·exact⟨some a,len,cap,_,hcs,C2z hl hm (by split at hz <;> omega) hcell hwz⟩
set_option maxRecDepth 100000 in
theorem B9z {fuel:Nat}{a:Addr}{cs:List Value}{x:DataW H×List MemPlace}(hc:w.cells? base a 4=some cs) (h:DataW.trod enc Tryz.prog w base spare held fuel 65 cs=some x) :
  ∃ r:Rcd,r.wf∧RecAt w a r:=by
 obtain⟨_,hlen,hcell⟩:=World.cells?_some hc
 obtain⟨xs,n,_,_,_,hxl,hf⟩:=DataW.trod_struct Tryz.underlying65 h
 have hc3:Tryz.prog.cellsOf 3=1:=by kernel_rfl
 have hc22:Tryz.prog.cellsOf 63=1:=by kernel_rfl
 have hc23:Tryz.prog.cellsOf 30=1:=by kernel_rfl
 match cs,hlen with
 | [c0,c1,c2,c3],_=>
  have f0:DataW.trod enc Tryz.prog w base spare held n 3 (([c0,c1,c2,c3].drop 0).take (Tryz.prog.cellsOf 3))=xs[0]?:=hf 0 _ rfl
  have f1:DataW.trod enc Tryz.prog w base spare held n 3 (([c0,c1,c2,c3].drop 1).take (Tryz.prog.cellsOf 3))=xs[1]?:=hf 1 _ rfl
  have f2:DataW.trod enc Tryz.prog w base spare held n 63 (([c0,c1,c2,c3].drop 2).take (Tryz.prog.cellsOf 63))=xs[2]?:=hf 2 _ rfl
  have f3:DataW.trod enc Tryz.prog w base spare held n 30 (([c0,c1,c2,c3].drop 3).take (Tryz.prog.cellsOf 30))=xs[3]?:=hf 3 _ rfl
  have hxs:xs.length=4:=hxl
  rw[List.getElem?_eq_getElem (by omega)] at f0 f1 f2 f3
  rw[hc3] at f0 f1
  rw[hc22] at f2
  rw[hc23] at f3
  obtain⟨n0,e0,_,w0⟩:=DataW.trod_int Tryz.underlying3 f0
  obtain⟨n1,e1,_,w1⟩:=DataW.trod_int Tryz.underlying3 f1
  obtain⟨n2,e2,_,w2⟩:=DataW.trod_int Tryz.underlying63 f2
  obtain⟨ao,len,cap,l,e3,hr⟩:=A5k f3
  simp at e0 e1 e2 e3
  subst e0 e1 e2 e3
  obtain⟨N2,rfl⟩:=Int.eq_ofNat_of_zero_le (bounds_u64 w2).1
  have b0:=bounds_i64 w0
  have b1:=bounds_i64 w1
  have b2:=bounds_u64 w2
  refine⟨⟨n0,n1,N2,l⟩,⟨by dsimp only;omega,by dsimp only;omega,by dsimp only;omega,by dsimp only;omega,by dsimp only;omega⟩,ao,len,cap,?_,?_,?_,?_,hr⟩
  ·have:=hcell 0 (by omega);simpa [Addr.add] using this
  ·exact hcell 1 (by omega)
  ·exact hcell 2 (by omega)
  ·exact hcell 3 (by omega)
end
end Go.Proofs.YtcagbdokbnpdfaaGreatDoor
namespace Go.Proofs.YtcagbdokbnpdfaaGreatDoor
namespace L
open Go.RowKit
set_option linter.unusedVariables false
set_option maxHeartbeats 2000000 in
set_option maxRecDepth 100000 in
theorem B8q {nm vb:Value}{ao:Option Addr}{n cap:Nat}{l:List FI}{w:World}(h:RdL 6 FAt w (.slice ao n cap) l) (hvb:∃ ao n cap,vb = .slice ao n cap) (hnm:∃ s:List UInt8,nm = .string (S s)) (num:Int) (hno:∀ a∈l,decide (a.number=num)=false) :
  Calls Tryz.prog 21 #[.agg #[nm,.slice ao n cap,vb],.int .i64 num] w fun e w'=>e = .returned (.pointer none)∧Below w.heap.size w w':=by
 obtain⟨_,_,_,e0,Hn,hcap⟩:=h.shape
 cases e0
 obtain⟨ae,ne,ce,rfl⟩:=hvb
 obtain⟨s,rfl⟩:=hnm
 obtain⟨W0,HW0⟩:∃ W0,Hid (W0=w.alloc (.cells #[.string (S s),.slice ao n cap,.slice ae ne ce] 35)):=⟨_,rfl⟩
 have hb0:Below w.heap.size w W0:=by rw[HW0.out];exact(Below.refl _ _).alloc (Nat.le_refl _) _
 have x0:W0.heap[w.heap.size]?=some (.cells #[.string (S s),.slice ao n cap,.slice ae ne ce] 35 (0,0)):=by rw[HW0.out];exact heap_alloc_new _ _
 obtain⟨t0,t1,t2⟩:=B3e x0
 go_enter Tryz.func21,Tryz.ntmps21
 go_wp2_with fail
 rw[←HW0.out]
 go_loopg [9] n (fun m i wr=>∃ k:Nat,k+m=n∧i = .int .i64 k∧W0=wr)
 case atStart=>exact⟨0,by omega,rfl,rfl⟩
 case round=>
  obtain⟨k,hk,rfl,rfl⟩:=hrel
  by_cases hlt:k < n
  ·obtain⟨a,Ha⟩:∃ a,Hid (l[k]?=some a):=⟨l[k]'(by rw[←Hn.out];exact hlt),List.getElem?_eq_getElem (by rw[←Hn.out];exact hlt)⟩
   obtain⟨b',off',e',hat⟩:=(h.below FAt.stays hb0).get FAt.plain Ha.out
   subst e'
   obtain⟨s0,s1,s2,s3,s4,s5⟩:=hat.at
   have hki:(k:Int) < (n:Int):=by omega
   clear hat
   have hqb:(a.number == num)=false:=by simpa using hno a (List.mem_of_getElem? Ha.out)
   go_wp2_with fail
   go_roundg (n - (k+1))
   case measure=>omega
   case rel=>exact⟨k+1,by omega,by go_num,rfl⟩
  ·go_wp2
   go_ret
   exact⟨rfl,hb0⟩
end L
end Go.Proofs.YtcagbdokbnpdfaaGreatDoor
namespace Go.Proofs.YtcagbdokbnpdfaaGreatDoor
namespace L
open Go.RowKit
set_option linter.unusedVariables false
theorem C6q {nm vb:Value}{ao:Option Addr}{n cap:Nat}{l:List FI}{w:World}(h:RdL 6 FAt w (.slice ao n cap) l) (hvb:∃ ao n cap,vb = .slice ao n cap) (hnm:∃ s:List UInt8,nm = .string (S s)) (num:Int){j:Nat}{f:FI}(hj:l[j]?=some f) (hf:f.number=num) (hno:∀ a∈l.take j,decide (a.number=num)=false) :
  Calls Tryz.prog 21 #[.agg #[nm,.slice ao n cap,vb],.int .i64 num] w fun e w'=>(∃ b off,ao=some ⟨b,off,none⟩∧e = .returned (.pointer (some ⟨b,off+j*6,none⟩)))∧Below w.heap.size w w':=by
 obtain⟨_,_,_,e0,Hn,hcap⟩:=h.shape
 cases e0
 obtain⟨ae,ne,ce,rfl⟩:=hvb
 obtain⟨s,rfl⟩:=hnm
 have hjl:j < n:=by rw[Hn.out];exact(List.getElem?_eq_some_iff.1 hj).1
 obtain⟨b,off,rfl,_⟩:=h.get FAt.plain hj
 obtain⟨W0,HW0⟩:∃ W0,Hid (W0=w.alloc (.cells #[.string (S s),.slice (some ⟨b,off,none⟩) n cap,.slice ae ne ce] 35)):=⟨_,rfl⟩
 have hb0:Below w.heap.size w W0:=by rw[HW0.out];exact(Below.refl _ _).alloc (Nat.le_refl _) _
 have x0:W0.heap[w.heap.size]?=some (.cells #[.string (S s),.slice (some ⟨b,off,none⟩) n cap,.slice ae ne ce] 35 (0,0)):=by rw[HW0.out];exact heap_alloc_new _ _
 obtain⟨t0,t1,t2⟩:=B3e x0
 go_enter Tryz.func21,Tryz.ntmps21
 go_wp2_with fail
 rw[←HW0.out]
 go_loopg [9] n (fun m i wr=>∃ k:Nat,k+m=n∧i = .int .i64 k∧k≤j∧W0=wr)
 case atStart=>exact⟨0,by omega,rfl,by omega,rfl⟩
 case round=>
  obtain⟨k,hk,rfl,hkj,rfl⟩:=hrel
  have hlt:k < n:=by omega
  obtain⟨a,Ha⟩:∃ a,Hid (l[k]?=some a):=⟨l[k]'(by rw[←Hn.out];exact hlt),List.getElem?_eq_getElem (by rw[←Hn.out];exact hlt)⟩
  obtain⟨b',off',e',hat⟩:=(h.below FAt.stays hb0).get FAt.plain Ha.out
  cases e'
  obtain⟨s0,s1,s2,s3,s4,s5⟩:=hat.at
  have hki:(k:Int) < (n:Int):=by omega
  clear hat
  by_cases hkj':k=j
  ·subst hkj'
   have hfa:a=f:=by have:=Ha.out.symm.trans hj;simpa using this
   have hqb:(a.number == num)=true:=by rw[hfa];simpa using hf
   clear hfa
   go_wp2
   go_ret
   exact⟨⟨b,off,rfl,rfl⟩,hb0⟩
  ·have hq:=hno a (List.mem_of_getElem? (i:=k) (by rw[List.getElem?_take,if_pos (by omega)];exact Ha.out))
   have hqb:(a.number == num)=false:=by simpa using hq
   clear hq
   go_wp2_with fail
   go_roundg (n - (k+1))
   case measure=>omega
   case rel=>exact⟨k+1,by omega,by go_num,by omega,rfl⟩
end L
end Go.Proofs.YtcagbdokbnpdfaaGreatDoor
