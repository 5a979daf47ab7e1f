import Derived.Test.YtelmjekjohbmjaaGreatDoorY06
namespace Go.Proofs.YtelmjekjohbmjaaGreatDoor
namespace L
open Go.RowKit
def C1d (b:Nat):List Ru:=[⟨7,123,#[.pointer (some ⟨b+6,0,none⟩)]⟩,⟨3,124,#[]⟩,⟨8,126,#[.pointer (some ⟨b+1,0,none⟩),.pointer (some ⟨b+7,0,none⟩)]⟩,⟨1,128,#[]⟩,⟨6,129,#[.pointer (some ⟨b,0,none⟩)]⟩,⟨8,131,#[]⟩,⟨2,133,#[.pointer (some ⟨b+8,0,none⟩)]⟩]
def C1z (b:Nat):Value:=.func (.func 147) #[] #[.pointer (some ⟨b+4,0,none⟩),.pointer (some ⟨b+5,0,none⟩)]
def A9s (b:Nat) (vm ve nm vf vb:Value):List Obj:=[.cells #[vm,ve] 25,.cells #[nm,vf,vb] 48,.cells #[.slice none 0 0] 87,.cells #[.slice none 0 0] 46,.cells #[.int .i64 0] 3,.cells #[.int .i64 0] 3,.cells #[.func (.func 116) #[] #[.pointer (some ⟨b+2,0,none⟩)]] 104,.cells #[.func (.func 146) #[] #[.pointer (some ⟨b+3,0,none⟩)]] 126,.cells #[C1z b] 126,.cells (A4n (C1d b)) 158]
set_option maxHeartbeats 1000000 in
set_option maxRecDepth 100000 in
theorem A7x (a1 a2 a3 a4:Option Addr) (n1 n2 n3 n4 c1 c2 c3 c4:Nat) (s:List UInt8) (w:World):Calls Tryz.prog 82 #[.agg #[.slice a1 n1 c1,.slice a2 n2 c2],.agg #[.string (S s),.slice a3 n3 c3,.slice a4 n4 c4]] w fun e w'=>e = .returned (.slice (some ⟨w.heap.size+9,0,none⟩) 7 7)∧A3s w (A9s w.heap.size (.slice a1 n1 c1) (.slice a2 n2 c2) (.string (S s)) (.slice a3 n3 c3) (.slice a4 n4 c4))=w':=by
 have hmf:=A2y
 go_enter Tryz.func82,Tryz.ntmps82
 go_wp2_with fail
 refine(A5w _).mono ?_
 rintro e w1 ⟨rfl,rfl⟩
 go_wp2_with fail
 refine(A8c _).mono ?_
 rintro e w1 ⟨rfl,rfl⟩
 go_wp2_with fail
 refine(C0o _).mono ?_
 rintro e w1 ⟨rfl,rfl⟩
 go_wp2
 go_ret
 exact⟨rfl,rfl⟩
structure Mem where
 names:List (List UInt8)
 nums:List Int
 last:Int
 begun:Int
structure KSt (w0 W:World) (B b:Nat) (a1 a2 a3 a4:Option Addr) (n1 n2 n3 n4 c1 c2 c3 c4:Nat) (nm:List UInt8) (s:Mem):Prop where
 names:SSt W B (b+2) (b+6) s.names
 nums:NSt W B (b+3) (b+7) s.nums
 last:W.heap[b+4]?=some (.cells #[.int .i64 s.last] 3 (0,0))
 begun:W.heap[b+5]?=some (.cells #[.int .i64 s.begun] 3 (0,0))
 mis:W.heap[b+8]?=some (.cells #[C1z b] 126 (0,0))
 file:W.heap[b]?=some (.cells #[.slice a1 n1 c1,.slice a2 n2 c2] 25 (0,0))
 msg:W.heap[b+1]?=some (.cells #[.string (S nm),.slice a3 n3 c3,.slice a4 n4 c4] 48 (0,0))
 lt:b+9 < B
 size:B≤W.heap.size
 base:b=w0.heap.size
 bel:Below b w0 W
section
variable {w0 W W':World}{B b:Nat}{a1 a2 a3 a4:Option Addr}{n1 n2 n3 n4 c1 c2 c3 c4:Nat}{nm:List UInt8}{s:Mem}
theorem KSt.below (h:KSt w0 W B b a1 a2 a3 a4 n1 n2 n3 n4 c1 c2 c3 c4 nm s) (hb:Below W.heap.size W W'):KSt w0 W' B b a1 a2 a3 a4 n1 n2 n3 n4 c1 c2 c3 c4 nm s:=by
 have k:∀ {i o},W.heap[i]?=some o→W'.heap[i]?=some o:=fun {i o} hi=>(hb.block i (Array.getElem?_eq_some_iff.1 hi).1).trans hi
 have hl:=h.lt
 have hs:=h.size
 exact⟨h.names.below hb,h.nums.below hb,k h.last,k h.begun,k h.mis,k h.file,k h.msg,h.lt,Nat.le_trans h.size hb.size,h.base,h.bel.trans (hb.mono (by omega))⟩
theorem KSt.setS {l:List (List UInt8)}(h:KSt w0 W B b a1 a2 a3 a4 n1 n2 n3 n4 c1 c2 c3 c4 nm s) (hS:SSt W' B (b+2) (b+6) l) (hF:FrT 9 B (b+2) W W'):KSt w0 W' B b a1 a2 a3 a4 n1 n2 n3 n4 c1 c2 c3 c4 nm ⟨l,s.nums,s.last,s.begun⟩:=by
 have hl:=h.lt
 have hs:=h.size
 exact⟨hS,h.nums.frt hF (by omega) (by omega) (by omega) (by omega),A1w hF h.last (by omega) (by omega),A1w hF h.begun (by omega) (by omega),A1w hF h.mis (by omega) (by omega),A1w hF h.file (by omega) (by omega),A1w hF h.msg (by omega) (by omega),hl,Nat.le_trans hs hF.size,h.base,h.bel.trans ⟨hF.os,hF.tape,hF.output,hF.size,fun k hk=>hF.block k (by omega) (by omega) (.inl (by omega))⟩⟩
theorem KSt.setN {l:List Int}(h:KSt w0 W B b a1 a2 a3 a4 n1 n2 n3 n4 c1 c2 c3 c4 nm s) (hS:NSt W' B (b+3) (b+7) l) (hF:FrT 3 B (b+3) W W'):KSt w0 W' B b a1 a2 a3 a4 n1 n2 n3 n4 c1 c2 c3 c4 nm ⟨s.names,l,s.last,s.begun⟩:=by
 have hl:=h.lt
 have hs:=h.size
 exact⟨h.names.frt hF (by omega) (by omega) (by omega) (by omega),hS,A1w hF h.last (by omega) (by omega),A1w hF h.begun (by omega) (by omega),A1w hF h.mis (by omega) (by omega),A1w hF h.file (by omega) (by omega),A1w hF h.msg (by omega) (by omega),hl,Nat.le_trans hs hF.size,h.base,h.bel.trans ⟨hF.os,hF.tape,hF.output,hF.size,fun k hk=>hF.block k (by omega) (by omega) (.inl (by omega))⟩⟩
theorem Row.same {α:Type}{E:EK α}{v:Value}{l:List α}(h:Row E W B v l) (hk:∀ k,B≤k→W'.heap[k]?=W.heap[k]?):Row E W' B v l:=by
 refine⟨h.1,?_⟩
 rcases h.2 with hn|⟨g,cap,cur,hv,hbg,hg,r⟩
 ·exact .inl hn
 ·exact .inr ⟨g,cap,cur,hv,hbg,by rw[hk g hbg];exact hg,r⟩
theorem KSt.setM {x y:Int}(h:KSt w0 W B b a1 a2 a3 a4 n1 n2 n3 n4 c1 c2 c3 c4 nm s) (h1:W'.heap[b+4]?=some (.cells #[.int .i64 x] 3 (0,0))) (h2:W'.heap[b+5]?=some (.cells #[.int .i64 y] 3 (0,0))) (hk:∀ k,¬ k=b+4→¬ k=b+5→W'.heap[k]?=W.heap[k]?) (hz:W'.heap.size=W.heap.size) (ho:W'.os=W.os) (ht:W'.tape=W.tape) (hu:W'.output=W.output):KSt w0 W' B b a1 a2 a3 a4 n1 n2 n3 n4 c1 c2 c3 c4 nm ⟨s.names,s.nums,x,y⟩:=by
 have hl:=h.lt
 have hs:=h.size
 obtain⟨⟨v1,r1,r2⟩,r3,r4⟩:=h.names
 obtain⟨⟨v2,q1,q2⟩,q3,q4⟩:=h.nums
 refine⟨⟨⟨v1,(hk _ (by omega) (by omega)).trans r1,r2.same fun k hb=>hk k (by omega) (by omega)⟩,(hk _ (by omega) (by omega)).trans r3,r4⟩,⟨⟨v2,(hk _ (by omega) (by omega)).trans q1,q2.same fun k hb=>hk k (by omega) (by omega)⟩,(hk _ (by omega) (by omega)).trans q3,q4⟩,h1,h2,(hk _ (by omega) (by omega)).trans h.mis,(hk _ (by omega) (by omega)).trans h.file,(hk _ (by omega) (by omega)).trans h.msg,hl,by omega,h.base,h.bel.trans ⟨ho,ht,hu,by omega,fun k hb=>hk k (by omega) (by omega)⟩⟩
end
def A1a (g:GI) (bar:List Int):Nat→FI→Mem→Bool×Mem
 | 0,x,s=>(!A1q x.name||decide (x.name∈s.names),⟨A4g x.name s.names,s.nums,s.last,s.begun⟩)
 | 1,x,s=>(!A9n x.number,s)
 | 2,x,s=>(decide (x.number∈bar)||decide (x.number∈s.nums),⟨s.names,A4g x.number s.nums,s.last,s.begun⟩)
 | 3,x,s=>(decide (x.kind < 1)||decide (10 < x.kind),s)
 | 4,x,s=>(!A9o g x,s)
 | 5,x,s=>(A6a x||(decide (0 < x.choice)&&x.many),s)
 | _,x,s=>(A5b s.last s.begun x.choice,⟨s.names,s.nums,x.choice,max s.begun x.choice⟩)
set_option maxHeartbeats 1000000 in
set_option maxRecDepth 100000 in
theorem B3i {w0 W:World}{B b:Nat}{a1 a2 a3 a4:Option Addr}{n1 n2 n3 n4 c1 c2 c3 c4:Nat}{nm:List UInt8}{s:Mem}(g:GI) (bar:List Int) (h:KSt w0 W B b a1 a2 a3 a4 n1 n2 n3 n4 c1 c2 c3 c4 nm s) (hl:s.names.length≤1000) (x:FI) (hx:x.name.length≤9223372036854775807) :
  Calls Tryz.prog 123 #[fv x,.pointer (some ⟨b+6,0,none⟩)] W fun e W'=>e = .returned (.bool (A1a g bar 0 x s).1)∧((A1a g bar 0 x s).1=false→KSt w0 W' B b a1 a2 a3 a4 n1 n2 n3 n4 c1 c2 c3 c4 nm (A1a g bar 0 x s).2)∧Fr B [b+2,b+3,b+4,b+5] W W':=by
 obtain⟨W1,HW1⟩:∃ W1,Hid (W1=W.alloc (.cells #[.string (S x.name),.int .i64 x.number,.int .i64 x.kind,.string (S x.type),.bool x.many,.int .i64 x.choice] 53)):=⟨_,rfl⟩
 have hba:Below W.heap.size W W1:=by rw[HW1.out];exact(Below.refl _ _).alloc (Nat.le_refl _) _
 have hX1:W1.heap[W.heap.size]?=some (.cells #[.string (S x.name),.int .i64 x.number,.int .i64 x.kind,.string (S x.type),.bool x.many,.int .i64 x.choice] 53 (0,0)):=by rw[HW1.out];exact heap_alloc_new _ _
 obtain⟨x0,x1,x2,x3,x4,x5⟩:=A9m hX1
 have h1:=h.below hba
 have hlt:=h.lt
 have hsz:=h1.size
 have hF0:Fr B [b+2,b+3,b+4,b+5] W W1:=Fr.of_below hba
 have c0:W1.cell? ⟨b+6,0,none⟩=some (.func (.func 116) #[] #[.pointer (some ⟨b+2,0,none⟩)]):=A0a h1.names.fn 0 _ rfl
 have hnm:=A7h x.name hx W1
 have hcc:=h1.names.call2 hsz hl (by omega) (by omega) x.name
 unfold fv
 cases hq:A1q x.name with
 | false=>
  have HN:Hid ((A1a g bar 0 x s).1=true):=by show _=_;rw[A1a,hq];rfl
  rw[hq] at hnm
  clear hq hcc
  go_enter Tryz.func123,Tryz.ntmps123
  go_wp2_with fail
  rw[←HW1.out]
  refine hnm.mono ?_
  rintro e w1 ⟨rfl,rfl⟩
  go_wp2
  go_ret
  refine⟨by rw[HN.out];rfl,fun e=>?_,hF0⟩
  rw[HN.out] at e;cases e
 | true=>
  have HN:Hid ((A1a g bar 0 x s).1=decide (x.name∈s.names)):=by show _=_;rw[A1a,hq];rfl
  rw[hq] at hnm
  clear hq
  go_enter Tryz.func123,Tryz.ntmps123
  go_wp2_with fail
  rw[←HW1.out]
  refine hnm.mono ?_
  rintro e w1 ⟨rfl,rfl⟩
  go_wp2_with fail
  refine hcc.mono ?_
  rintro e w2 ⟨rfl,h2,hF⟩
  go_wp2
  go_ret
  exact⟨by rw[HN.out];rfl,fun _=>h1.setS h2 hF,hF0.trans (hF.fr (.inl rfl) (by simp))⟩
set_option maxHeartbeats 1000000 in
set_option maxRecDepth 100000 in
theorem B3j {w0 W:World}{B b:Nat}{a1 a2 a3 a4:Option Addr}{n1 n2 n3 n4 c1 c2 c3 c4:Nat}{nm:List UInt8}{s:Mem}(g:GI) (bar:List Int) (h:KSt w0 W B b a1 a2 a3 a4 n1 n2 n3 n4 c1 c2 c3 c4 nm s) (x:FI) :
  Calls Tryz.prog 124 #[fv x] W fun e W'=>e = .returned (.bool (A1a g bar 1 x s).1)∧((A1a g bar 1 x s).1=false→KSt w0 W' B b a1 a2 a3 a4 n1 n2 n3 n4 c1 c2 c3 c4 nm (A1a g bar 1 x s).2)∧Fr B [b+2,b+3,b+4,b+5] W W':=by
 obtain⟨W1,HW1⟩:∃ W1,Hid (W1=W.alloc (.cells #[.string (S x.name),.int .i64 x.number,.int .i64 x.kind,.string (S x.type),.bool x.many,.int .i64 x.choice] 53)):=⟨_,rfl⟩
 have hba:Below W.heap.size W W1:=by rw[HW1.out];exact(Below.refl _ _).alloc (Nat.le_refl _) _
 have hX1:W1.heap[W.heap.size]?=some (.cells #[.string (S x.name),.int .i64 x.number,.int .i64 x.kind,.string (S x.type),.bool x.many,.int .i64 x.choice] 53 (0,0)):=by rw[HW1.out];exact heap_alloc_new _ _
 obtain⟨x0,x1,x2,x3,x4,x5⟩:=A9m hX1
 have h1:=h.below hba
 have hlt:=h.lt
 have hsz:=h1.size
 have hF0:Fr B [b+2,b+3,b+4,b+5] W W1:=Fr.of_below hba
 have hcb:=C0h x.number W1
 unfold fv
 have HN:Hid ((A1a g bar 1 x s).1 = !A9n x.number):=rfl
 generalize A9n x.number=q at hcb HN
 go_enter Tryz.func124,Tryz.ntmps124
 go_wp2_with fail
 rw[←HW1.out]
 refine hcb.mono ?_
 rintro e w1 ⟨rfl,rfl⟩
 go_wp2
 go_ret
 exact⟨by rw[HN.out];rfl,fun _=>h1,hF0⟩
set_option maxHeartbeats 1000000 in
set_option maxRecDepth 100000 in
theorem B3k {w0 W:World}{B b:Nat}{a1 a2 a3 a4:Option Addr}{n1 n2 n3 n4 c1 c2 c3 c4:Nat}{nm:List UInt8}{s:Mem}(g:GI) (bar:List Int) (h:KSt w0 W B b a1 a2 a3 a4 n1 n2 n3 n4 c1 c2 c3 c4 nm s) (hl:s.nums.length≤1000) (hbar:RdL 1 NAt w0 (.slice a4 n4 c4) bar) (x:FI) :
  Calls Tryz.prog 126 #[fv x,.pointer (some ⟨b+1,0,none⟩),.pointer (some ⟨b+7,0,none⟩)] W fun e W'=>e = .returned (.bool (A1a g bar 2 x s).1)∧((A1a g bar 2 x s).1=false→KSt w0 W' B b a1 a2 a3 a4 n1 n2 n3 n4 c1 c2 c3 c4 nm (A1a g bar 2 x s).2)∧Fr B [b+2,b+3,b+4,b+5] W W':=by
 obtain⟨W1,HW1⟩:∃ W1,Hid (W1=W.alloc (.cells #[.string (S x.name),.int .i64 x.number,.int .i64 x.kind,.string (S x.type),.bool x.many,.int .i64 x.choice] 53)):=⟨_,rfl⟩
 have hba:Below W.heap.size W W1:=by rw[HW1.out];exact(Below.refl _ _).alloc (Nat.le_refl _) _
 have hX1:W1.heap[W.heap.size]?=some (.cells #[.string (S x.name),.int .i64 x.number,.int .i64 x.kind,.string (S x.type),.bool x.many,.int .i64 x.choice] 53 (0,0)):=by rw[HW1.out];exact heap_alloc_new _ _
 obtain⟨x0,x1,x2,x3,x4,x5⟩:=A9m hX1
 have h1:=h.below hba
 have hlt:=h.lt
 have hsz:=h1.size
 have hF0:Fr B [b+2,b+3,b+4,b+5] W W1:=Fr.of_below hba
 have c0:W1.cell? ⟨b+7,0,none⟩=some (.func (.func 146) #[] #[.pointer (some ⟨b+3,0,none⟩)]):=A0a h1.nums.fn 0 _ rfl
 obtain⟨_,_,m2⟩:=A6o h1.msg
 rw[HW1.out] at m2
 have hct:=A3z (hbar.below NAt.stays (h.base▸h1.bel)) x.number
 have hcc:=h1.nums.call2 hsz hl (by omega) (by omega) x.number
 unfold fv
 cases hq:decide (x.number∈bar) with
 | true=>
  have HN:Hid ((A1a g bar 2 x s).1=true):=by show _=_;rw[A1a,hq];rfl
  rw[hq] at hct
  clear hq hcc
  go_enter Tryz.func126,Tryz.ntmps126
  go_wp2_with fail
  rw[←HW1.out]
  refine hct.mono ?_
  rintro e w1 ⟨rfl,rfl⟩
  go_wp2
  go_ret
  refine⟨by rw[HN.out];rfl,fun e=>?_,hF0⟩
  rw[HN.out] at e;cases e
 | false=>
  have HN:Hid ((A1a g bar 2 x s).1=decide (x.number∈s.nums)):=by show _=_;rw[A1a,hq];rfl
  rw[hq] at hct
  clear hq
  go_enter Tryz.func126,Tryz.ntmps126
  go_wp2_with fail
  rw[←HW1.out]
  refine hct.mono ?_
  rintro e w1 ⟨rfl,rfl⟩
  go_wp2_with fail
  refine hcc.mono ?_
  rintro e w2 ⟨rfl,h2,hF⟩
  go_wp2
  go_ret
  exact⟨by rw[HN.out];rfl,fun _=>h1.setN h2 hF,hF0.trans (hF.fr (.inr rfl) (by simp))⟩
set_option maxHeartbeats 1000000 in
set_option maxRecDepth 100000 in
theorem B3l {w0 W:World}{B b:Nat}{a1 a2 a3 a4:Option Addr}{n1 n2 n3 n4 c1 c2 c3 c4:Nat}{nm:List UInt8}{s:Mem}(g:GI) (bar:List Int) (h:KSt w0 W B b a1 a2 a3 a4 n1 n2 n3 n4 c1 c2 c3 c4 nm s) (x:FI) :
  Calls Tryz.prog 128 #[fv x] W fun e W'=>e = .returned (.bool (A1a g bar 3 x s).1)∧((A1a g bar 3 x s).1=false→KSt w0 W' B b a1 a2 a3 a4 n1 n2 n3 n4 c1 c2 c3 c4 nm (A1a g bar 3 x s).2)∧Fr B [b+2,b+3,b+4,b+5] W W':=by
 obtain⟨W1,HW1⟩:∃ W1,Hid (W1=W.alloc (.cells #[.string (S x.name),.int .i64 x.number,.int .i64 x.kind,.string (S x.type),.bool x.many,.int .i64 x.choice] 53)):=⟨_,rfl⟩
 have hba:Below W.heap.size W W1:=by rw[HW1.out];exact(Below.refl _ _).alloc (Nat.le_refl _) _
 have hX1:W1.heap[W.heap.size]?=some (.cells #[.string (S x.name),.int .i64 x.number,.int .i64 x.kind,.string (S x.type),.bool x.many,.int .i64 x.choice] 53 (0,0)):=by rw[HW1.out];exact heap_alloc_new _ _
 obtain⟨x0,x1,x2,x3,x4,x5⟩:=A9m hX1
 have h1:=h.below hba
 have hlt:=h.lt
 have hsz:=h1.size
 have hF0:Fr B [b+2,b+3,b+4,b+5] W W1:=Fr.of_below hba
 unfold fv
 obtain⟨q1,hq1⟩:∃ q,decide (x.kind < 1)=q:=⟨_,rfl⟩
 obtain⟨q2,hq2⟩:∃ q,decide (10 < x.kind)=q:=⟨_,rfl⟩
 have HN:Hid ((A1a g bar 3 x s).1=(q1||q2)):=by show _=_;rw[A1a,hq1,hq2]
 cases q1 <;> cases q2
 all_goals simp only[decide_eq_true_eq,decide_eq_false_iff_not] at hq1 hq2
 all_goals first|(exfalso;omega)|skip
 all_goals go_enter Tryz.func128,Tryz.ntmps128
 all_goals go_wp2
 all_goals rw[←HW1.out]
 all_goals go_ret
 all_goals exact⟨by rw[HN.out];rfl,fun _=>h1,hF0⟩
set_option maxHeartbeats 1000000 in
set_option maxRecDepth 100000 in
theorem B3m {w0 W:World}{B b:Nat}{a1 a2 a3 a4:Option Addr}{n1 n2 n3 n4 c1 c2 c3 c4:Nat}{nm:List UInt8}{s:Mem}(g:GI) (bar:List Int) (h:KSt w0 W B b a1 a2 a3 a4 n1 n2 n3 n4 c1 c2 c3 c4 nm s) (hg:GRd w0 (.slice a1 n1 c1) (.slice a2 n2 c2) g) (x:FI) :
  Calls Tryz.prog 129 #[fv x,.pointer (some ⟨b,0,none⟩)] W fun e W'=>e = .returned (.bool (A1a g bar 4 x s).1)∧((A1a g bar 4 x s).1=false→KSt w0 W' B b a1 a2 a3 a4 n1 n2 n3 n4 c1 c2 c3 c4 nm (A1a g bar 4 x s).2)∧Fr B [b+2,b+3,b+4,b+5] W W':=by
 obtain⟨W1,HW1⟩:∃ W1,Hid (W1=W.alloc (.cells #[.string (S x.name),.int .i64 x.number,.int .i64 x.kind,.string (S x.type),.bool x.many,.int .i64 x.choice] 53)):=⟨_,rfl⟩
 have hba:Below W.heap.size W W1:=by rw[HW1.out];exact(Below.refl _ _).alloc (Nat.le_refl _) _
 have hX1:W1.heap[W.heap.size]?=some (.cells #[.string (S x.name),.int .i64 x.number,.int .i64 x.kind,.string (S x.type),.bool x.many,.int .i64 x.choice] 53 (0,0)):=by rw[HW1.out];exact heap_alloc_new _ _
 obtain⟨x0,x1,x2,x3,x4,x5⟩:=A9m hX1
 have h1:=h.below hba
 have hlt:=h.lt
 have hsz:=h1.size
 have hF0:Fr B [b+2,b+3,b+4,b+5] W W1:=Fr.of_below hba
 obtain⟨f0,f1⟩:=A0x h1.file
 rw[HW1.out] at f0 f1
 have hht:=B1l (hg.below (h.base▸h1.bel)) x
 unfold fv at hht
 unfold fv
 have HN:Hid ((A1a g bar 4 x s).1 = !A9o g x):=rfl
 generalize A9o g x=q at hht HN
 go_enter Tryz.func129,Tryz.ntmps129
 go_wp2_with fail
 rw[←HW1.out]
 refine hht.mono ?_
 rintro e w1 ⟨rfl,hb1⟩
 go_wp2
 go_ret
 exact⟨by rw[HN.out];rfl,fun _=>h1.below hb1,hF0.trans (Fr.of_below hb1)⟩
set_option maxHeartbeats 1000000 in
set_option maxRecDepth 100000 in
theorem B3n {w0 W:World}{B b:Nat}{a1 a2 a3 a4:Option Addr}{n1 n2 n3 n4 c1 c2 c3 c4:Nat}{nm:List UInt8}{s:Mem}(g:GI) (bar:List Int) (h:KSt w0 W B b a1 a2 a3 a4 n1 n2 n3 n4 c1 c2 c3 c4 nm s) (x:FI) :
  Calls Tryz.prog 131 #[fv x] W fun e W'=>e = .returned (.bool (A1a g bar 5 x s).1)∧((A1a g bar 5 x s).1=false→KSt w0 W' B b a1 a2 a3 a4 n1 n2 n3 n4 c1 c2 c3 c4 nm (A1a g bar 5 x s).2)∧Fr B [b+2,b+3,b+4,b+5] W W':=by
 obtain⟨W1,HW1⟩:∃ W1,Hid (W1=W.alloc (.cells #[.string (S x.name),.int .i64 x.number,.int .i64 x.kind,.string (S x.type),.bool x.many,.int .i64 x.choice] 53)):=⟨_,rfl⟩
 have hba:Below W.heap.size W W1:=by rw[HW1.out];exact(Below.refl _ _).alloc (Nat.le_refl _) _
 have hX1:W1.heap[W.heap.size]?=some (.cells #[.string (S x.name),.int .i64 x.number,.int .i64 x.kind,.string (S x.type),.bool x.many,.int .i64 x.choice] 53 (0,0)):=by rw[HW1.out];exact heap_alloc_new _ _
 obtain⟨x0,x1,x2,x3,x4,x5⟩:=A9m hX1
 have h1:=h.below hba
 have hlt:=h.lt
 have hsz:=h1.size
 have hF0:Fr B [b+2,b+3,b+4,b+5] W W1:=Fr.of_below hba
 have hnd:=B0b x W1
 unfold fv at hnd
 unfold fv
 have HN:Hid ((A1a g bar 5 x s).1=(A6a x||(decide (0 < x.choice)&&x.many))):=rfl
 generalize A6a x=q at hnd HN
 cases q with
 | true=>
  go_enter Tryz.func131,Tryz.ntmps131
  go_wp2_with fail
  rw[←HW1.out]
  refine hnd.mono ?_
  rintro e w1 ⟨rfl,hb1⟩
  go_wp2
  go_ret
  exact⟨by rw[HN.out];rfl,fun _=>h1.below hb1,hF0.trans (Fr.of_below hb1)⟩
 | false=>
  obtain⟨q1,hq1⟩:∃ q,decide (0 < x.choice)=q:=⟨_,rfl⟩
  rw[hq1] at HN
  have hXb:∀ w1,Below W1.heap.size W1 w1→w1.heap[W.heap.size]?=some (.cells #[.string (S x.name),.int .i64 x.number,.int .i64 x.kind,.string (S x.type),.bool x.many,.int .i64 x.choice] 53 (0,0)):=fun w1 hb=>(hb.block _ (Array.getElem?_eq_some_iff.1 hX1).1).trans hX1
  cases q1
  all_goals simp only[decide_eq_true_eq,decide_eq_false_iff_not] at hq1
  all_goals go_enter Tryz.func131,Tryz.ntmps131
  all_goals go_wp2_with fail
  all_goals rw[←HW1.out]
  all_goals refine hnd.mono ?_
  all_goals rintro e w1 ⟨rfl,hb1⟩
  all_goals obtain⟨y0,y1,y2,y3,y4,y5⟩:=A9m (hXb w1 hb1)
  all_goals clear hXb
  all_goals go_wp2
  all_goals go_ret
  all_goals exact⟨by rw[HN.out];rfl,fun _=>h1.below hb1,hF0.trans (Fr.of_below hb1)⟩
set_option maxHeartbeats 1000000 in
set_option maxRecDepth 100000 in
theorem B3o {w0 W:World}{B b:Nat}{a1 a2 a3 a4:Option Addr}{n1 n2 n3 n4 c1 c2 c3 c4:Nat}{nm:List UInt8}{s:Mem}(g:GI) (bar:List Int) (h:KSt w0 W B b a1 a2 a3 a4 n1 n2 n3 n4 c1 c2 c3 c4 nm s) (hb0:0≤s.begun) (hb1:s.begun≤1000000) (x:FI) :
  Calls Tryz.prog 133 #[fv x,.pointer (some ⟨b+8,0,none⟩)] W fun e W'=>e = .returned (.bool (A1a g bar 6 x s).1)∧((A1a g bar 6 x s).1=false→KSt w0 W' B b a1 a2 a3 a4 n1 n2 n3 n4 c1 c2 c3 c4 nm (A1a g bar 6 x s).2)∧Fr B [b+2,b+3,b+4,b+5] W W':=by
 obtain⟨W1,HW1⟩:∃ W1,Hid (W1=W.alloc (.cells #[.string (S x.name),.int .i64 x.number,.int .i64 x.kind,.string (S x.type),.bool x.many,.int .i64 x.choice] 53)):=⟨_,rfl⟩
 have hba:Below W.heap.size W W1:=by rw[HW1.out];exact(Below.refl _ _).alloc (Nat.le_refl _) _
 have hX1:W1.heap[W.heap.size]?=some (.cells #[.string (S x.name),.int .i64 x.number,.int .i64 x.kind,.string (S x.type),.bool x.many,.int .i64 x.choice] 53 (0,0)):=by rw[HW1.out];exact heap_alloc_new _ _
 obtain⟨x0,x1,x2,x3,x4,x5⟩:=A9m hX1
 have h1:=h.below hba
 have hlt:=h.lt
 have hsz:=h1.size
 have hF0:Fr B [b+2,b+3,b+4,b+5] W W1:=Fr.of_below hba
 have c0:W1.cell? ⟨b+8,0,none⟩=some (C1z b):=A0a h1.mis 0 _ rfl
 have hcc:=B8y h1.last h1.begun (by omega) hb0 hb1 x.choice
 unfold C1z at c0
 rw[HW1.out] at c0
 unfold fv
 have HN:Hid ((A1a g bar 6 x s).1=A5b s.last s.begun x.choice):=rfl
 go_enter Tryz.func133,Tryz.ntmps133
 go_wp2_with fail
 rw[←HW1.out]
 refine hcc.mono ?_
 rintro e w2 ⟨rfl,k1,k2,k3,k4,k5,k6,k7⟩
 have hF2:Fr B [b+2,b+3,b+4,b+5] W1 w2:=⟨k5,k6,k7,by omega,fun k hk hc _=>k3 k (fun e=>hc (by simp[e])) (fun e=>hc (by simp[e]))⟩
 have HK:Hid ((A1a g bar 6 x s).1=false→KSt w0 w2 B b a1 a2 a3 a4 n1 n2 n3 n4 c1 c2 c3 c4 nm (A1a g bar 6 x s).2):=by
  intro e
  have e':A5b s.last s.begun x.choice=false:=e
  rw[e'] at k1 k2
  exact h1.setM k1 k2 k3 k4 k5 k6 k7
 clear k1 k2 k3 k4 k5 k6 k7
 go_wp2
 go_ret
 exact⟨by rw[HN.out];rfl,HK.out,hF0.trans hF2⟩
end L
end Go.Proofs.YtelmjekjohbmjaaGreatDoor
namespace Go.Proofs.YtelmjekjohbmjaaGreatDoor
namespace L
open Go.RowKit
theorem A6m {α:Type} [DecidableEq α] (x : α) (l:List α):(A4g x l).length≤l.length+1:=by unfold A4g;split <;> simp
theorem A9v {w:World}{vl:Value}{l:List II}{n:Int}(hl:RdL 2 TAt w vl l) (hn:l.length≤900) (hs:∀ s∈l,s.name.length≤9223372036854775807) :
  Calls Tryz.prog 83 #[vl,.slice (some ⟨w.heap.size+5,0,none⟩) 3 3] (A3s w (A9u w.heap.size n)) fun e w'=>e = .returned (.agg #[.int .i64 (A0h (A2t n) [7,3,8] 0 l ([],[])).1,.int .i64 (((A0h (A2t n) [7,3,8] 0 l ([],[])).2:Nat):Int)])∧Below w.heap.size w w':=by
 obtain⟨b,Hb⟩:∃ b,Hid (b=w.heap.size):=⟨_,rfl⟩
 obtain⟨W6,HW⟩:∃ W6,Hid (W6=A3s w (A9u w.heap.size n)):=⟨_,rfl⟩
 have hz:W6.heap.size=w.heap.size+6:=by rw[HW.out,A4x];rfl
 have hb:Below w.heap.size w W6:=by rw[HW.out];exact A2k _ _
 have ha:∀ i o,(A9u w.heap.size n)[i]?=some o→W6.heap[w.heap.size+i]?=some o:=fun i o h=>by rw[HW.out];exact A6t _ _ i o h
 rw[←HW.out]
 have hB:=B1c (B:=W6.heap.size) (B0:=w.heap.size) (cs:=[w.heap.size+1,w.heap.size+2]) (w:=W6) (l:=l) (rs:=C1f w.heap.size) (g:=w.heap.size+5) (A2t n) (fun k j s W=>ISt W W6.heap.size w.heap.size n s∧s.1.length≤(if j=0 then k else k+1)∧s.2.length≤(if j≤2 then k else k+1)) ([],[])
  (fun W hW=>hl.below TAt.stays (hb.trans hW)) (ha 5 _ rfl) (by simp) (by omega) (Nat.le_refl _) (by simp) (by simp;omega) (by simp[C1f]) ?_ ?_ (fun k j s W W' _ hI hb'=>⟨hI.1.below hb',hI.2⟩) (fun k s W _ hI=>⟨hI.1,by simpa [C1f] using hI.2⟩) ?_
 ·refine hB.mono ?_
  rintro e w' ⟨rfl,hF⟩
  exact⟨rfl,hb.trans (hF.below (by omega) (by omega) (by simp))⟩
 ·intro r hr args w'
  simp only[C1f,List.mem_cons,List.mem_nil_iff,or_false] at hr
  rcases hr with rfl|rfl|rfl
  ·exact enters_of Tryz.func134 (by kernel_rfl) rfl args w'
  ·exact enters_of Tryz.func135 (by kernel_rfl) rfl args w'
  ·exact enters_of Tryz.func136 (by kernel_rfl) rfl args w'
 ·exact⟨⟨⟨⟨_,ha 1 _ rfl,Row.nil _ _ _⟩,ha 3 _ rfl,by omega⟩,⟨⟨_,ha 2 _ rfl,Row.nil _ _ _⟩,ha 4 _ rfl,by omega⟩,ha 0 _ rfl,by omega⟩,by simp,by simp⟩
 ·intro k j r f s W hf hr hBW _ hI
  obtain⟨h1,h2,h3⟩:=hI
  have hk:=(List.getElem?_eq_some_iff.1 hf).1
  have hjl:j < 3:=(List.getElem?_eq_some_iff.1 hr).1
  match j,hjl,hr with
  | 0,_,hr=>
   cases hr
   refine(B5v h1 hBW (by simp at h2;omega) f (hs f (A1m hf))).mono ?_
   rintro e W' ⟨rfl,k1,k2⟩
   refine⟨rfl,fun e=>⟨k1 e,?_,?_⟩,k2⟩
   ·have:=A6m f.name s.1;simp at h2;show(A4g f.name s.1).length≤k+1;omega
   ·show s.2.length≤k;simpa using h3
  | 1,_,hr=>
   cases hr
   refine(B5w h1 f).mono ?_
   rintro e W' ⟨rfl,k1,k2⟩
   exact⟨rfl,fun e=>⟨k1 e,by show s.1.length≤k+1;simpa using h2,by show s.2.length≤k;simpa using h3⟩,k2⟩
  | 2,_,hr=>
   cases hr
   refine(B5x h1 hBW (by simp at h3;omega) f).mono ?_
   rintro e W' ⟨rfl,k1,k2⟩
   refine⟨rfl,fun e=>⟨k1 e,by show s.1.length≤k+1;simpa using h2,?_⟩,k2⟩
   have:=A6m f.value s.2;simp at h3;show(A4g f.value s.2).length≤k+1;omega
set_option maxRecDepth 100000 in
theorem B9x (a b:Int) (w:World):(Instr.field 63 (.agg #[.int .i64 a,.int .i64 b]) 0).run Tryz.prog w = .ok (.int .i64 a) w:=by rfl
def A3o (e:EI):Int:=if e.items.length < 1∨16 < e.items.length then 5 else(A0h (A2t ((e.items.getD 0 ⟨[],0⟩).value)) [7,3,8] 0 e.items ([],[])).1
set_option maxHeartbeats 1000000 in
set_option maxRecDepth 100000 in
theorem A9k {w:World}{vi:Value}(e:EI) (hl:RdL 2 TAt w vi e.items) (hs:∀ s∈e.items,s.name.length≤9223372036854775807) :
  Calls Tryz.prog 50 #[.agg #[.string (S e.name),vi]] w fun en w'=>en = .returned (.int .i64 (A3o e))∧Below w.heap.size w w':=by
 obtain⟨ao,n,cap,rfl,Hn,hcap⟩:=hl.shape
 have hba:=(Below.refl w.heap.size w).alloc (Nat.le_refl _) (.cells #[.string (S e.name),.slice ao n cap] 94)
 by_cases h1:n < 1
 ·have HE:Hid (A3o e=5):=by show _=_;rw[A3o,if_pos (.inl (by rw[←Hn.out];exact h1))]
  have hi:(n:Int) < 1:=by omega
  go_enter Tryz.func50,Tryz.ntmps50
  go_wp2
  go_ret
  exact⟨by rw[HE.out];rfl,hba⟩
 ·by_cases h2:16 < n
  ·have HE:Hid (A3o e=5):=by show _=_;rw[A3o,if_pos (.inr (by rw[←Hn.out];exact h2))]
   have hi:¬ (n:Int) < 1:=by omega
   have hj:(16:Int) < (n:Int):=by omega
   go_enter Tryz.func50,Tryz.ntmps50
   go_wp2
   go_ret
   exact⟨by rw[HE.out];rfl,hba⟩
  ·obtain⟨i0,Hi⟩:∃ i0,Hid (e.items[0]?=some i0):=⟨e.items[0]'(by rw[←Hn.out];omega),List.getElem?_eq_getElem (by rw[←Hn.out];omega)⟩
   have HE:Hid (A3o e=(A0h (A2t i0.value) [7,3,8] 0 e.items ([],[])).1):=by
    show _=_
    rw[A3o,if_neg (by rw[←Hn.out];omega),List.getD_eq_getElem?_getD,Hi.out]
    rfl
   have hi:¬ (n:Int) < 1:=by omega
   have hj:¬ (16:Int) < (n:Int):=by omega
   have hn0:(0:Int) < (n:Int):=by omega
   have hl1:=hl.below TAt.stays hba
   obtain⟨b,off,rfl,hat⟩:=hl1.get TAt.plain Hi.out
   obtain⟨t0,t1⟩:=hat.at
   simp only[Nat.zero_mul,Nat.add_zero] at t0 t1
   obtain⟨W1,HW1⟩:∃ W1,Hid (W1=w.alloc (.cells #[.string (S e.name),.slice (some ⟨b,off,none⟩) n cap] 94)):=⟨_,rfl⟩
   have hx1:W1.heap[w.heap.size]?=some (.cells #[.string (S e.name),.slice (some ⟨b,off,none⟩) n cap] 94 (0,0)):=by rw[HW1.out];exact heap_alloc_new _ _
   rw[←HW1.out] at hl1 hba t0 t1
   have hd:Below W1.heap.size W1 W1.drew:=(Below.refl _ _).drew
   have hnew:=A9a i0.value W1.drew
   have hbr:=A9v (n:=i0.value) (hl1.below TAt.stays hd) (by rw[←Hn.out];omega) hs
   have hcl:∀ W,Below W1.heap.size W1 W→W.cell? ⟨w.heap.size,1,none⟩=some (.slice (some ⟨b,off,none⟩) n cap)∧W.cell? ⟨b,off+1,none⟩=some (.int .i64 i0.value):=fun W hW=>⟨A0c hW (A0a hx1 1 _ rfl),A0c hW t1⟩
   obtain⟨z0,z1⟩:=hcl W1.drew hd
   have hfl:=B9x
   clear hat t0 t1 hl1
   go_enter Tryz.func50,Tryz.ntmps50
   go_wp2_with fail
   rw[←HW1.out]
   go_region_with (first
    | (go_at_call 84;refine hnew.mono ?_;rintro en w1 ⟨rfl,hw1⟩;obtain⟨z2,z3⟩:=hcl w1 (by rw[←hw1];exact hd.trans (A2k (A9u W1.drew.heap.size i0.value) W1.drew)))
    | (go_at_call 83;rw[←hw1];refine hbr.mono ?_;rintro en w2 ⟨rfl,hb2⟩))
   all_goals
    go_wp2
    go_ret
    exact⟨by rw[HE.out];rfl,hba.trans ((hd.trans hb2).mono hba.size)⟩
end L
end Go.Proofs.YtelmjekjohbmjaaGreatDoor
