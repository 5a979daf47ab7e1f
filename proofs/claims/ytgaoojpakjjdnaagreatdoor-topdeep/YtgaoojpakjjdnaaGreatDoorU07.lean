import Derived.Test.YtgaoojpakjjdnaaGreatDoorU06
set_option maxHeartbeats 32000000
set_option maxRecDepth 100000
namespace Go.Proofs.YtgaoojpakjjdnaaGreatDoor
namespace L
open Go.RowKit
def C9r (b:Nat):List Ru:=[⟨7,161,#[.pointer (some ⟨b+6,0,none⟩)]⟩,⟨3,162,#[]⟩,⟨8,164,#[.pointer (some ⟨b+1,0,none⟩),.pointer (some ⟨b+7,0,none⟩)]⟩,⟨1,166,#[]⟩,⟨6,167,#[.pointer (some ⟨b,0,none⟩)]⟩,⟨8,169,#[]⟩,⟨2,171,#[.pointer (some ⟨b+8,0,none⟩)]⟩]
def D0p (b:Nat):Value:=.func (.func 215) #[] #[.pointer (some ⟨b+4,0,none⟩),.pointer (some ⟨b+5,0,none⟩)]
def B3f (b:Nat) (vm ve nm vf vb:Value):List Obj:=[.cells #[vm,ve] 25,.cells #[nm,vf,vb] 38,.cells #[.slice none 0 0] 93,.cells #[.slice none 0 0] 30,.cells #[.int .i64 0] 3,.cells #[.int .i64 0] 3,.cells #[.func (.func 154) #[] #[.pointer (some ⟨b+2,0,none⟩)]] 152,.cells #[.func (.func 214) #[] #[.pointer (some ⟨b+3,0,none⟩)]] 67,.cells #[D0p b] 67,.cells (A5j (C9r b)) 221]
theorem B0l (a1 a2 a3 a4:Option Addr) (n1 n2 n3 n4 c1 c2 c3 c4:Nat) (s:List UInt8) (w:World):Calls Tryz.prog 99 #[.agg #[.slice a1 n1 c1,.slice a2 n2 c2],.agg #[.string (S s),.slice a3 n3 c3,.slice a4 n4 c4]] w fun e w'=>e = .returned (.slice (some ⟨w.heap.size+9,0,none⟩) 7 7)∧A4i w (B3f w.heap.size (.slice a1 n1 c1) (.slice a2 n2 c2) (.string (S s)) (.slice a3 n3 c3) (.slice a4 n4 c4))=w':=by
 have ac:=A3i
 go_enter Tryz.func99,Tryz.ntmps99
 go_wp2_with fail
 refine(A7t _).mono ?_
 rintro e w1 ⟨rfl,rfl⟩
 go_wp2_with fail
 refine(B0z _).mono ?_
 rintro e w1 ⟨rfl,rfl⟩
 go_wp2_with fail
 refine(C8k _).mono ?_
 rintro e w1 ⟨rfl,rfl⟩
 go_wp2
 go_ret
 exact⟨rfl,rfl⟩
structure Mem where
 names:List (List UInt8)
 nums:List Int
 last:Int
 begun:Int
structure KSt (w0 W:World) (B b:Nat) (a1 a2 a3 a4:Option Addr) (n1 n2 n3 n4 c1 c2 c3 c4:Nat) (nm:List UInt8) (s:Mem):Prop where
 names:SSt W B (b+2) (b+6) s.names
 nums:NSt W B (b+3) (b+7) s.nums
 last:W.heap[b+4]?=some (.cells #[.int .i64 s.last] 3 (0,0))
 begun:W.heap[b+5]?=some (.cells #[.int .i64 s.begun] 3 (0,0))
 mis:W.heap[b+8]?=some (.cells #[D0p b] 67 (0,0))
 file:W.heap[b]?=some (.cells #[.slice a1 n1 c1,.slice a2 n2 c2] 25 (0,0))
 msg:W.heap[b+1]?=some (.cells #[.string (S nm),.slice a3 n3 c3,.slice a4 n4 c4] 38 (0,0))
 lt:b+9 < B
 size:B≤W.heap.size
 base:b=w0.heap.size
 bel:Below b w0 W
section
variable {w0 W W':World}{B b:Nat}{a1 a2 a3 a4:Option Addr}{n1 n2 n3 n4 c1 c2 c3 c4:Nat}{nm:List UInt8}{s:Mem}
theorem KSt.below (h:KSt w0 W B b a1 a2 a3 a4 n1 n2 n3 n4 c1 c2 c3 c4 nm s) (hb:Below W.heap.size W W'):KSt w0 W' B b a1 a2 a3 a4 n1 n2 n3 n4 c1 c2 c3 c4 nm s:=by
 have k:∀ {i o},W.heap[i]?=some o→W'.heap[i]?=some o:=fun {i o} hi=>(hb.block i (Array.getElem?_eq_some_iff.1 hi).1).trans hi
 have hl:=h.lt
 have hs:=h.size
 exact⟨h.names.below hb,h.nums.below hb,k h.last,k h.begun,k h.mis,k h.file,k h.msg,h.lt,Nat.le_trans h.size hb.size,h.base,h.bel.trans (hb.mono (by omega))⟩
theorem KSt.setS {l:List (List UInt8)}(h:KSt w0 W B b a1 a2 a3 a4 n1 n2 n3 n4 c1 c2 c3 c4 nm s) (hS:SSt W' B (b+2) (b+6) l) (hF:FrT 9 B (b+2) W W'):KSt w0 W' B b a1 a2 a3 a4 n1 n2 n3 n4 c1 c2 c3 c4 nm ⟨l,s.nums,s.last,s.begun⟩:=by
 have hl:=h.lt
 have hs:=h.size
 exact⟨hS,h.nums.frt hF (by omega) (by omega) (by omega) (by omega),A1v hF h.last (by omega) (by omega),A1v hF h.begun (by omega) (by omega),A1v hF h.mis (by omega) (by omega),A1v hF h.file (by omega) (by omega),A1v hF h.msg (by omega) (by omega),hl,Nat.le_trans hs hF.size,h.base,h.bel.trans ⟨hF.os,hF.tape,hF.output,hF.size,fun k hk=>hF.block k (by omega) (by omega) (.inl (by omega))⟩⟩
theorem KSt.setN {l:List Int}(h:KSt w0 W B b a1 a2 a3 a4 n1 n2 n3 n4 c1 c2 c3 c4 nm s) (hS:NSt W' B (b+3) (b+7) l) (hF:FrT 3 B (b+3) W W'):KSt w0 W' B b a1 a2 a3 a4 n1 n2 n3 n4 c1 c2 c3 c4 nm ⟨s.names,l,s.last,s.begun⟩:=by
 have hl:=h.lt
 have hs:=h.size
 exact⟨h.names.frt hF (by omega) (by omega) (by omega) (by omega),hS,A1v hF h.last (by omega) (by omega),A1v hF h.begun (by omega) (by omega),A1v hF h.mis (by omega) (by omega),A1v hF h.file (by omega) (by omega),A1v hF h.msg (by omega) (by omega),hl,Nat.le_trans hs hF.size,h.base,h.bel.trans ⟨hF.os,hF.tape,hF.output,hF.size,fun k hk=>hF.block k (by omega) (by omega) (.inl (by omega))⟩⟩
theorem Row.same {α:Type}{E:EK α}{v:Value}{l:List α}(h:Row E W B v l) (hk:∀ k,B≤k→W'.heap[k]?=W.heap[k]?):Row E W' B v l:=by
 refine⟨h.1,?_⟩
 rcases h.2 with hn|⟨g,cap,cur,hv,hbg,hg,r⟩
 ·exact .inl hn
 ·exact .inr ⟨g,cap,cur,hv,hbg,by rw[hk g hbg];exact hg,r⟩
theorem KSt.setM {x y:Int}(h:KSt w0 W B b a1 a2 a3 a4 n1 n2 n3 n4 c1 c2 c3 c4 nm s) (h1:W'.heap[b+4]?=some (.cells #[.int .i64 x] 3 (0,0))) (h2:W'.heap[b+5]?=some (.cells #[.int .i64 y] 3 (0,0))) (hk:∀ k,¬ k=b+4→¬ k=b+5→W'.heap[k]?=W.heap[k]?) (hz:W'.heap.size=W.heap.size) (ho:W'.os=W.os) (ht:W'.tape=W.tape) (hu:W'.output=W.output):KSt w0 W' B b a1 a2 a3 a4 n1 n2 n3 n4 c1 c2 c3 c4 nm ⟨s.names,s.nums,x,y⟩:=by
 have hl:=h.lt
 have hs:=h.size
 obtain⟨⟨v1,r1,r2⟩,r3,r4⟩:=h.names
 obtain⟨⟨v2,q1,q2⟩,q3,q4⟩:=h.nums
 refine⟨⟨⟨v1,(hk _ (by omega) (by omega)).trans r1,r2.same fun k hb=>hk k (by omega) (by omega)⟩,(hk _ (by omega) (by omega)).trans r3,r4⟩,⟨⟨v2,(hk _ (by omega) (by omega)).trans q1,q2.same fun k hb=>hk k (by omega) (by omega)⟩,(hk _ (by omega) (by omega)).trans q3,q4⟩,h1,h2,(hk _ (by omega) (by omega)).trans h.mis,(hk _ (by omega) (by omega)).trans h.file,(hk _ (by omega) (by omega)).trans h.msg,hl,by omega,h.base,h.bel.trans ⟨ho,ht,hu,by omega,fun k hb=>hk k (by omega) (by omega)⟩⟩
end
def A1e (g:GI) (bar:List Int):Nat→FI→Mem→Bool×Mem
 | 0,x,s=>(!A5g x.name||decide (x.name∈s.names),⟨A6q x.name s.names,s.nums,s.last,s.begun⟩)
 | 1,x,s=>(!C6y x.number,s)
 | 2,x,s=>(decide (x.number∈bar)||decide (x.number∈s.nums),⟨s.names,A6q x.number s.nums,s.last,s.begun⟩)
 | 3,x,s=>(decide (x.kind < 1)||decide (10 < x.kind),s)
 | 4,x,s=>(!B6h g x,s)
 | 5,x,s=>(B3q x||(decide (0 < x.choice)&&x.many),s)
 | _,x,s=>(B6o s.last s.begun x.choice,⟨s.names,s.nums,x.choice,max s.begun x.choice⟩)
theorem B8f {w0 W:World}{B b:Nat}{a1 a2 a3 a4:Option Addr}{n1 n2 n3 n4 c1 c2 c3 c4:Nat}{nm:List UInt8}{s:Mem}(g:GI) (ac:List Int) (h:KSt w0 W B b a1 a2 a3 a4 n1 n2 n3 n4 c1 c2 c3 c4 nm s) (hl:s.names.length≤1000) (x:FI) (hx:x.name.length≤9223372036854775807) :
  Calls Tryz.prog 161 #[fv x,.pointer (some ⟨b+6,0,none⟩)] W fun e W'=>e = .returned (.bool (A1e g ac 0 x s).1)∧((A1e g ac 0 x s).1=false→KSt w0 W' B b a1 a2 a3 a4 n1 n2 n3 n4 c1 c2 c3 c4 nm (A1e g ac 0 x s).2)∧Fr B [b+2,b+3,b+4,b+5] W W':=by
 obtain⟨W1,ag⟩:∃ W1,Hid (W1=W.alloc (.cells #[.string (S x.name),.int .i64 x.number,.int .i64 x.kind,.string (S x.type),.bool x.many,.int .i64 x.choice] 40)):=⟨_,rfl⟩
 have ak:Below W.heap.size W W1:=by rw[ag.out];exact(Below.refl _ _).alloc (Nat.le_refl _) _
 have au:W1.heap[W.heap.size]?=some (.cells #[.string (S x.name),.int .i64 x.number,.int .i64 x.kind,.string (S x.type),.bool x.many,.int .i64 x.choice] 40 (0,0)):=by rw[ag.out];exact heap_alloc_new _ _
 obtain⟨x0,x1,x2,x3,x4,x5⟩:=A8g au
 have h1:=h.below ak
 have hlt:=h.lt
 have hsz:=h1.size
 have aj:Fr B [b+2,b+3,b+4,b+5] W W1:=Fr.of_below ak
 have c0:W1.cell? ⟨b+6,0,none⟩=some (.func (.func 154) #[] #[.pointer (some ⟨b+2,0,none⟩)]):=A0a h1.names.fn 0 _ rfl
 have ah:=A9p x.name hx W1
 have hcc:=h1.names.call2 hsz hl (by omega) (by omega) x.name
 unfold fv
 cases hq:A5g x.name with
 | false=>
  have HN:Hid ((A1e g ac 0 x s).1=true):=by show _=_;rw[A1e,hq];rfl
  rw[hq] at ah
  clear hq hcc
  go_enter Tryz.func161,Tryz.ntmps161
  go_wp2_with fail
  rw[←ag.out]
  refine ah.mono ?_
  rintro e w1 ⟨rfl,rfl⟩
  go_wp2
  go_ret
  refine⟨by rw[HN.out];rfl,fun e=>?_,aj⟩
  rw[HN.out] at e;cases e
 | true=>
  have HN:Hid ((A1e g ac 0 x s).1=decide (x.name∈s.names)):=by show _=_;rw[A1e,hq];rfl
  rw[hq] at ah
  clear hq
  go_enter Tryz.func161,Tryz.ntmps161
  go_wp2_with fail
  rw[←ag.out]
  refine ah.mono ?_
  rintro e w1 ⟨rfl,rfl⟩
  go_wp2_with fail
  refine hcc.mono ?_
  rintro e w2 ⟨rfl,h2,hF⟩
  go_wp2
  go_ret
  exact⟨by rw[HN.out];rfl,fun _=>h1.setS h2 hF,aj.trans (hF.fr (.inl rfl) (by simp))⟩
theorem B8g {w0 W:World}{B b:Nat}{a1 a2 a3 a4:Option Addr}{n1 n2 n3 n4 c1 c2 c3 c4:Nat}{nm:List UInt8}{s:Mem}(g:GI) (ac:List Int) (h:KSt w0 W B b a1 a2 a3 a4 n1 n2 n3 n4 c1 c2 c3 c4 nm s) (x:FI) :
  Calls Tryz.prog 162 #[fv x] W fun e W'=>e = .returned (.bool (A1e g ac 1 x s).1)∧((A1e g ac 1 x s).1=false→KSt w0 W' B b a1 a2 a3 a4 n1 n2 n3 n4 c1 c2 c3 c4 nm (A1e g ac 1 x s).2)∧Fr B [b+2,b+3,b+4,b+5] W W':=by
 obtain⟨W1,ag⟩:∃ W1,Hid (W1=W.alloc (.cells #[.string (S x.name),.int .i64 x.number,.int .i64 x.kind,.string (S x.type),.bool x.many,.int .i64 x.choice] 40)):=⟨_,rfl⟩
 have ah:Below W.heap.size W W1:=by rw[ag.out];exact(Below.refl _ _).alloc (Nat.le_refl _) _
 have ak:W1.heap[W.heap.size]?=some (.cells #[.string (S x.name),.int .i64 x.number,.int .i64 x.kind,.string (S x.type),.bool x.many,.int .i64 x.choice] 40 (0,0)):=by rw[ag.out];exact heap_alloc_new _ _
 obtain⟨x0,x1,x2,x3,x4,x5⟩:=A8g ak
 have h1:=h.below ah
 have hlt:=h.lt
 have hsz:=h1.size
 have aj:Fr B [b+2,b+3,b+4,b+5] W W1:=Fr.of_below ah
 have hcb:=C8a x.number W1
 unfold fv
 have HN:Hid ((A1e g ac 1 x s).1 = !C6y x.number):=rfl
 generalize C6y x.number=q at hcb HN
 go_enter Tryz.func162,Tryz.ntmps162
 go_wp2_with fail
 rw[←ag.out]
 refine hcb.mono ?_
 rintro e w1 ⟨rfl,rfl⟩
 go_wp2
 go_ret
 exact⟨by rw[HN.out];rfl,fun _=>h1,aj⟩
theorem B8h {w0 W:World}{B b:Nat}{a1 a2 a3 a4:Option Addr}{n1 n2 n3 n4 c1 c2 c3 c4:Nat}{nm:List UInt8}{s:Mem}(g:GI) (ac:List Int) (h:KSt w0 W B b a1 a2 a3 a4 n1 n2 n3 n4 c1 c2 c3 c4 nm s) (hl:s.nums.length≤1000) (aj:RdL 1 NAt w0 (.slice a4 n4 c4) ac) (x:FI) :
  Calls Tryz.prog 164 #[fv x,.pointer (some ⟨b+1,0,none⟩),.pointer (some ⟨b+7,0,none⟩)] W fun e W'=>e = .returned (.bool (A1e g ac 2 x s).1)∧((A1e g ac 2 x s).1=false→KSt w0 W' B b a1 a2 a3 a4 n1 n2 n3 n4 c1 c2 c3 c4 nm (A1e g ac 2 x s).2)∧Fr B [b+2,b+3,b+4,b+5] W W':=by
 obtain⟨W1,ag⟩:∃ W1,Hid (W1=W.alloc (.cells #[.string (S x.name),.int .i64 x.number,.int .i64 x.kind,.string (S x.type),.bool x.many,.int .i64 x.choice] 40)):=⟨_,rfl⟩
 have au:Below W.heap.size W W1:=by rw[ag.out];exact(Below.refl _ _).alloc (Nat.le_refl _) _
 have aw:W1.heap[W.heap.size]?=some (.cells #[.string (S x.name),.int .i64 x.number,.int .i64 x.kind,.string (S x.type),.bool x.many,.int .i64 x.choice] 40 (0,0)):=by rw[ag.out];exact heap_alloc_new _ _
 obtain⟨x0,x1,x2,x3,x4,x5⟩:=A8g aw
 have h1:=h.below au
 have hlt:=h.lt
 have hsz:=h1.size
 have ak:Fr B [b+2,b+3,b+4,b+5] W W1:=Fr.of_below au
 have c0:W1.cell? ⟨b+7,0,none⟩=some (.func (.func 214) #[] #[.pointer (some ⟨b+3,0,none⟩)]):=A0a h1.nums.fn 0 _ rfl
 obtain⟨_,_,m2⟩:=A4e h1.msg
 rw[ag.out] at m2
 have ah:=A4r (aj.below NAt.stays (h.base▸h1.bel)) x.number
 have hcc:=h1.nums.call2 hsz hl (by omega) (by omega) x.number
 unfold fv
 cases hq:decide (x.number∈ac) with
 | true=>
  have HN:Hid ((A1e g ac 2 x s).1=true):=by show _=_;rw[A1e,hq];rfl
  rw[hq] at ah
  clear hq hcc
  go_enter Tryz.func164,Tryz.ntmps164
  go_wp2_with fail
  rw[←ag.out]
  refine ah.mono ?_
  rintro e w1 ⟨rfl,rfl⟩
  go_wp2
  go_ret
  refine⟨by rw[HN.out];rfl,fun e=>?_,ak⟩
  rw[HN.out] at e;cases e
 | false=>
  have HN:Hid ((A1e g ac 2 x s).1=decide (x.number∈s.nums)):=by show _=_;rw[A1e,hq];rfl
  rw[hq] at ah
  clear hq
  go_enter Tryz.func164,Tryz.ntmps164
  go_wp2_with fail
  rw[←ag.out]
  refine ah.mono ?_
  rintro e w1 ⟨rfl,rfl⟩
  go_wp2_with fail
  refine hcc.mono ?_
  rintro e w2 ⟨rfl,h2,hF⟩
  go_wp2
  go_ret
  exact⟨by rw[HN.out];rfl,fun _=>h1.setN h2 hF,ak.trans (hF.fr (.inr rfl) (by simp))⟩
theorem B8i {w0 W:World}{B b:Nat}{a1 a2 a3 a4:Option Addr}{n1 n2 n3 n4 c1 c2 c3 c4:Nat}{nm:List UInt8}{s:Mem}(g:GI) (ac:List Int) (h:KSt w0 W B b a1 a2 a3 a4 n1 n2 n3 n4 c1 c2 c3 c4 nm s) (x:FI) :
  Calls Tryz.prog 166 #[fv x] W fun e W'=>e = .returned (.bool (A1e g ac 3 x s).1)∧((A1e g ac 3 x s).1=false→KSt w0 W' B b a1 a2 a3 a4 n1 n2 n3 n4 c1 c2 c3 c4 nm (A1e g ac 3 x s).2)∧Fr B [b+2,b+3,b+4,b+5] W W':=by
 obtain⟨W1,ag⟩:∃ W1,Hid (W1=W.alloc (.cells #[.string (S x.name),.int .i64 x.number,.int .i64 x.kind,.string (S x.type),.bool x.many,.int .i64 x.choice] 40)):=⟨_,rfl⟩
 have ah:Below W.heap.size W W1:=by rw[ag.out];exact(Below.refl _ _).alloc (Nat.le_refl _) _
 have aw:W1.heap[W.heap.size]?=some (.cells #[.string (S x.name),.int .i64 x.number,.int .i64 x.kind,.string (S x.type),.bool x.many,.int .i64 x.choice] 40 (0,0)):=by rw[ag.out];exact heap_alloc_new _ _
 obtain⟨x0,x1,x2,x3,x4,x5⟩:=A8g aw
 have h1:=h.below ah
 have hlt:=h.lt
 have hsz:=h1.size
 have au:Fr B [b+2,b+3,b+4,b+5] W W1:=Fr.of_below ah
 unfold fv
 obtain⟨q1,aj⟩:∃ q,decide (x.kind < 1)=q:=⟨_,rfl⟩
 obtain⟨q2,ak⟩:∃ q,decide (10 < x.kind)=q:=⟨_,rfl⟩
 have HN:Hid ((A1e g ac 3 x s).1=(q1||q2)):=by show _=_;rw[A1e,aj,ak]
 cases q1 <;> cases q2
 all_goals simp only[decide_eq_true_eq,decide_eq_false_iff_not] at aj ak
 all_goals first|(exfalso;omega)|skip
 all_goals go_enter Tryz.func166,Tryz.ntmps166
 all_goals go_wp2
 all_goals rw[←ag.out]
 all_goals go_ret
 all_goals exact⟨by rw[HN.out];rfl,fun _=>h1,au⟩
theorem B8j {w0 W:World}{B b:Nat}{a1 a2 a3 a4:Option Addr}{n1 n2 n3 n4 c1 c2 c3 c4:Nat}{nm:List UInt8}{s:Mem}(g:GI) (ag:List Int) (h:KSt w0 W B b a1 a2 a3 a4 n1 n2 n3 n4 c1 c2 c3 c4 nm s) (hg:GRd w0 (.slice a1 n1 c1) (.slice a2 n2 c2) g) (x:FI) :
  Calls Tryz.prog 167 #[fv x,.pointer (some ⟨b,0,none⟩)] W fun e W'=>e = .returned (.bool (A1e g ag 4 x s).1)∧((A1e g ag 4 x s).1=false→KSt w0 W' B b a1 a2 a3 a4 n1 n2 n3 n4 c1 c2 c3 c4 nm (A1e g ag 4 x s).2)∧Fr B [b+2,b+3,b+4,b+5] W W':=by
 obtain⟨W1,ac⟩:∃ W1,Hid (W1=W.alloc (.cells #[.string (S x.name),.int .i64 x.number,.int .i64 x.kind,.string (S x.type),.bool x.many,.int .i64 x.choice] 40)):=⟨_,rfl⟩
 have aj:Below W.heap.size W W1:=by rw[ac.out];exact(Below.refl _ _).alloc (Nat.le_refl _) _
 have au:W1.heap[W.heap.size]?=some (.cells #[.string (S x.name),.int .i64 x.number,.int .i64 x.kind,.string (S x.type),.bool x.many,.int .i64 x.choice] 40 (0,0)):=by rw[ac.out];exact heap_alloc_new _ _
 obtain⟨x0,x1,x2,x3,x4,x5⟩:=A8g au
 have h1:=h.below aj
 have hlt:=h.lt
 have hsz:=h1.size
 have ak:Fr B [b+2,b+3,b+4,b+5] W W1:=Fr.of_below aj
 obtain⟨f0,f1⟩:=A0s h1.file
 rw[ac.out] at f0 f1
 have ah:=B5h (hg.below (h.base▸h1.bel)) x
 unfold fv at ah
 unfold fv
 have HN:Hid ((A1e g ag 4 x s).1 = !B6h g x):=rfl
 generalize B6h g x=q at ah HN
 go_enter Tryz.func167,Tryz.ntmps167
 go_wp2_with fail
 rw[←ac.out]
 refine ah.mono ?_
 rintro e w1 ⟨rfl,hb1⟩
 go_wp2
 go_ret
 exact⟨by rw[HN.out];rfl,fun _=>h1.below hb1,ak.trans (Fr.of_below hb1)⟩
theorem B8k {w0 W:World}{B b:Nat}{a1 a2 a3 a4:Option Addr}{n1 n2 n3 n4 c1 c2 c3 c4:Nat}{nm:List UInt8}{s:Mem}(g:GI) (ag:List Int) (h:KSt w0 W B b a1 a2 a3 a4 n1 n2 n3 n4 c1 c2 c3 c4 nm s) (x:FI) :
  Calls Tryz.prog 169 #[fv x] W fun e W'=>e = .returned (.bool (A1e g ag 5 x s).1)∧((A1e g ag 5 x s).1=false→KSt w0 W' B b a1 a2 a3 a4 n1 n2 n3 n4 c1 c2 c3 c4 nm (A1e g ag 5 x s).2)∧Fr B [b+2,b+3,b+4,b+5] W W':=by
 obtain⟨W1,ac⟩:∃ W1,Hid (W1=W.alloc (.cells #[.string (S x.name),.int .i64 x.number,.int .i64 x.kind,.string (S x.type),.bool x.many,.int .i64 x.choice] 40)):=⟨_,rfl⟩
 have aw:Below W.heap.size W W1:=by rw[ac.out];exact(Below.refl _ _).alloc (Nat.le_refl _) _
 have aj:W1.heap[W.heap.size]?=some (.cells #[.string (S x.name),.int .i64 x.number,.int .i64 x.kind,.string (S x.type),.bool x.many,.int .i64 x.choice] 40 (0,0)):=by rw[ac.out];exact heap_alloc_new _ _
 obtain⟨x0,x1,x2,x3,x4,x5⟩:=A8g aj
 have h1:=h.below aw
 have hlt:=h.lt
 have hsz:=h1.size
 have ak:Fr B [b+2,b+3,b+4,b+5] W W1:=Fr.of_below aw
 have ah:=B3r x W1
 unfold fv at ah
 unfold fv
 have HN:Hid ((A1e g ag 5 x s).1=(B3q x||(decide (0 < x.choice)&&x.many))):=rfl
 generalize B3q x=q at ah HN
 cases q with
 | true=>
  go_enter Tryz.func169,Tryz.ntmps169
  go_wp2_with fail
  rw[←ac.out]
  refine ah.mono ?_
  rintro e w1 ⟨rfl,hb1⟩
  go_wp2
  go_ret
  exact⟨by rw[HN.out];rfl,fun _=>h1.below hb1,ak.trans (Fr.of_below hb1)⟩
 | false=>
  obtain⟨q1,ba⟩:∃ q,decide (0 < x.choice)=q:=⟨_,rfl⟩
  rw[ba] at HN
  have au:∀ w1,Below W1.heap.size W1 w1→w1.heap[W.heap.size]?=some (.cells #[.string (S x.name),.int .i64 x.number,.int .i64 x.kind,.string (S x.type),.bool x.many,.int .i64 x.choice] 40 (0,0)):=fun w1 hb=>(hb.block _ (Array.getElem?_eq_some_iff.1 aj).1).trans aj
  cases q1
  all_goals simp only[decide_eq_true_eq,decide_eq_false_iff_not] at ba
  all_goals go_enter Tryz.func169,Tryz.ntmps169
  all_goals go_wp2_with fail
  all_goals rw[←ac.out]
  all_goals refine ah.mono ?_
  all_goals rintro e w1 ⟨rfl,hb1⟩
  all_goals obtain⟨y0,y1,y2,y3,y4,y5⟩:=A8g (au w1 hb1)
  all_goals clear au
  all_goals go_wp2
  all_goals go_ret
  all_goals exact⟨by rw[HN.out];rfl,fun _=>h1.below hb1,ak.trans (Fr.of_below hb1)⟩
theorem B8l {w0 W:World}{B b:Nat}{a1 a2 a3 a4:Option Addr}{n1 n2 n3 n4 c1 c2 c3 c4:Nat}{nm:List UInt8}{s:Mem}(g:GI) (ac:List Int) (h:KSt w0 W B b a1 a2 a3 a4 n1 n2 n3 n4 c1 c2 c3 c4 nm s) (hb0:0≤s.begun) (hb1:s.begun≤1000000) (x:FI) :
  Calls Tryz.prog 171 #[fv x,.pointer (some ⟨b+8,0,none⟩)] W fun e W'=>e = .returned (.bool (A1e g ac 6 x s).1)∧((A1e g ac 6 x s).1=false→KSt w0 W' B b a1 a2 a3 a4 n1 n2 n3 n4 c1 c2 c3 c4 nm (A1e g ac 6 x s).2)∧Fr B [b+2,b+3,b+4,b+5] W W':=by
 obtain⟨W1,ag⟩:∃ W1,Hid (W1=W.alloc (.cells #[.string (S x.name),.int .i64 x.number,.int .i64 x.kind,.string (S x.type),.bool x.many,.int .i64 x.choice] 40)):=⟨_,rfl⟩
 have ah:Below W.heap.size W W1:=by rw[ag.out];exact(Below.refl _ _).alloc (Nat.le_refl _) _
 have ak:W1.heap[W.heap.size]?=some (.cells #[.string (S x.name),.int .i64 x.number,.int .i64 x.kind,.string (S x.type),.bool x.many,.int .i64 x.choice] 40 (0,0)):=by rw[ag.out];exact heap_alloc_new _ _
 obtain⟨x0,x1,x2,x3,x4,x5⟩:=A8g ak
 have h1:=h.below ah
 have hlt:=h.lt
 have hsz:=h1.size
 have aj:Fr B [b+2,b+3,b+4,b+5] W W1:=Fr.of_below ah
 have c0:W1.cell? ⟨b+8,0,none⟩=some (D0p b):=A0a h1.mis 0 _ rfl
 have hcc:=C5r h1.last h1.begun (by omega) hb0 hb1 x.choice
 unfold D0p at c0
 rw[ag.out] at c0
 unfold fv
 have HN:Hid ((A1e g ac 6 x s).1=B6o s.last s.begun x.choice):=rfl
 go_enter Tryz.func171,Tryz.ntmps171
 go_wp2_with fail
 rw[←ag.out]
 refine hcc.mono ?_
 rintro e w2 ⟨rfl,k1,k2,k3,k4,k5,k6,k7⟩
 have hF2:Fr B [b+2,b+3,b+4,b+5] W1 w2:=⟨k5,k6,k7,by omega,fun k hk hc _=>k3 k (fun e=>hc (by simp[e])) (fun e=>hc (by simp[e]))⟩
 have HK:Hid ((A1e g ac 6 x s).1=false→KSt w0 w2 B b a1 a2 a3 a4 n1 n2 n3 n4 c1 c2 c3 c4 nm (A1e g ac 6 x s).2):=by
  intro e
  have e':B6o s.last s.begun x.choice=false:=e
  rw[e'] at k1 k2
  exact h1.setM k1 k2 k3 k4 k5 k6 k7
 clear k1 k2 k3 k4 k5 k6 k7
 go_wp2
 go_ret
 exact⟨by rw[HN.out];rfl,HK.out,aj.trans hF2⟩
open Go.RowKit
theorem A8q {α:Type} [DecidableEq α] (x : α) (l:List α):(A6q x l).length≤l.length+1:=by unfold A6q;split <;> simp
theorem B3j {w:World}{vl:Value}{l:List II}{n:Int}(hl:RdL 2 TAt w vl l) (hn:l.length≤900) (hs:∀ s∈l,s.name.length≤9223372036854775807) :
  Calls Tryz.prog 100 #[vl,.slice (some ⟨w.heap.size+5,0,none⟩) 3 3] (A4i w (B3i w.heap.size n)) fun e w'=>e = .returned (.agg #[.int .i64 (A0k (A4b n) [7,3,8] 0 l ([],[])).1,.int .i64 (((A0k (A4b n) [7,3,8] 0 l ([],[])).2:Nat):Int)])∧Below w.heap.size w w':=by
 obtain⟨b,Hb⟩:∃ b,Hid (b=w.heap.size):=⟨_,rfl⟩
 obtain⟨W6,HW⟩:∃ W6,Hid (W6=A4i w (B3i w.heap.size n)):=⟨_,rfl⟩
 have hz:W6.heap.size=w.heap.size+6:=by rw[HW.out,A6e];rfl
 have hb:Below w.heap.size w W6:=by rw[HW.out];exact A2m _ _
 have ha:∀ i o,(B3i w.heap.size n)[i]?=some o→W6.heap[w.heap.size+i]?=some o:=fun i o h=>by rw[HW.out];exact A8y _ _ i o h
 rw[←HW.out]
 have hB:=B4x (B:=W6.heap.size) (B0:=w.heap.size) (cs:=[w.heap.size+1,w.heap.size+2]) (w:=W6) (l:=l) (rs:=C9u w.heap.size) (g:=w.heap.size+5) (A4b n) (fun k j s W=>ISt W W6.heap.size w.heap.size n s∧s.1.length≤(if j=0 then k else k+1)∧s.2.length≤(if j≤2 then k else k+1)) ([],[])
  (fun W hW=>hl.below TAt.stays (hb.trans hW)) (ha 5 _ rfl) (by simp) (by omega) (Nat.le_refl _) (by simp) (by simp;omega) (by simp[C9u]) ?_ ?_ (fun k j s W W' _ hI hb'=>⟨hI.1.below hb',hI.2⟩) (fun k s W _ hI=>⟨hI.1,by simpa [C9u] using hI.2⟩) ?_
 ·refine hB.mono ?_
  rintro e w' ⟨rfl,hF⟩
  exact⟨rfl,hb.trans (hF.below (by omega) (by omega) (by simp))⟩
 ·intro r hr args w'
  simp only[C9u,List.mem_cons,List.mem_nil_iff,or_false] at hr
  rcases hr with rfl|rfl|rfl
  ·exact enters_of Tryz.func172 (by kernel_rfl) rfl args w'
  ·exact enters_of Tryz.func173 (by kernel_rfl) rfl args w'
  ·exact enters_of Tryz.func174 (by kernel_rfl) rfl args w'
 ·exact⟨⟨⟨⟨_,ha 1 _ rfl,Row.nil _ _ _⟩,ha 3 _ rfl,by omega⟩,⟨⟨_,ha 2 _ rfl,Row.nil _ _ _⟩,ha 4 _ rfl,by omega⟩,ha 0 _ rfl,by omega⟩,by simp,by simp⟩
 ·intro k j r f s W hf hr ac _ hI
  obtain⟨h1,h2,h3⟩:=hI
  have hk:=(List.getElem?_eq_some_iff.1 hf).1
  have ag:j < 3:=(List.getElem?_eq_some_iff.1 hr).1
  match j,ag,hr with
  | 0,_,hr=>
   cases hr
   refine(C1j h1 ac (by simp at h2;omega) f (hs f (A2v hf))).mono ?_
   rintro e W' ⟨rfl,k1,k2⟩
   refine⟨rfl,fun e=>⟨k1 e,?_,?_⟩,k2⟩
   ·have:=A8q f.name s.1;simp at h2;show(A6q f.name s.1).length≤k+1;omega
   ·show s.2.length≤k;simpa using h3
  | 1,_,hr=>
   cases hr
   refine(C1k h1 f).mono ?_
   rintro e W' ⟨rfl,k1,k2⟩
   exact⟨rfl,fun e=>⟨k1 e,by show s.1.length≤k+1;simpa using h2,by show s.2.length≤k;simpa using h3⟩,k2⟩
  | 2,_,hr=>
   cases hr
   refine(C1l h1 ac (by simp at h3;omega) f).mono ?_
   rintro e W' ⟨rfl,k1,k2⟩
   refine⟨rfl,fun e=>⟨k1 e,by show s.1.length≤k+1;simpa using h2,?_⟩,k2⟩
   have:=A8q f.value s.2;simp at h3;show(A6q f.value s.2).length≤k+1;omega
theorem C7f (a b:Int) (w:World):(Instr.field 50 (.agg #[.int .i64 a,.int .i64 b]) 0).run Tryz.prog w = .ok (.int .i64 a) w:=by rfl
def A4w (e:EI):Int:=if e.items.length < 1∨16 < e.items.length then 5 else(A0k (A4b ((e.items.getD 0 ⟨[],0⟩).value)) [7,3,8] 0 e.items ([],[])).1
theorem B2r {w:World}{vi:Value}(e:EI) (hl:RdL 2 TAt w vi e.items) (hs:∀ s∈e.items,s.name.length≤9223372036854775807) :
  Calls Tryz.prog 44 #[.agg #[.string (S e.name),vi]] w fun en w'=>en = .returned (.int .i64 (A4w e))∧Below w.heap.size w w':=by
 obtain⟨ao,n,cap,rfl,Hn,aw⟩:=hl.shape
 have ac:=(Below.refl w.heap.size w).alloc (Nat.le_refl _) (.cells #[.string (S e.name),.slice ao n cap] 100)
 by_cases h1:n < 1
 ·have HE:Hid (A4w e=5):=by show _=_;rw[A4w,if_pos (.inl (by rw[←Hn.out];exact h1))]
  have hi:(n:Int) < 1:=by omega
  go_enter Tryz.func44,Tryz.ntmps44
  go_wp2
  go_ret
  exact⟨by rw[HE.out];rfl,ac⟩
 ·by_cases h2:16 < n
  ·have HE:Hid (A4w e=5):=by show _=_;rw[A4w,if_pos (.inr (by rw[←Hn.out];exact h2))]
   have hi:¬ (n:Int) < 1:=by omega
   have hj:(16:Int) < (n:Int):=by omega
   go_enter Tryz.func44,Tryz.ntmps44
   go_wp2
   go_ret
   exact⟨by rw[HE.out];rfl,ac⟩
  ·obtain⟨i0,Hi⟩:∃ i0,Hid (e.items[0]?=some i0):=⟨e.items[0]'(by rw[←Hn.out];omega),List.getElem?_eq_getElem (by rw[←Hn.out];omega)⟩
   have HE:Hid (A4w e=(A0k (A4b i0.value) [7,3,8] 0 e.items ([],[])).1):=by
    show _=_
    rw[A4w,if_neg (by rw[←Hn.out];omega),List.getD_eq_getElem?_getD,Hi.out]
    rfl
   have hi:¬ (n:Int) < 1:=by omega
   have hj:¬ (16:Int) < (n:Int):=by omega
   have bc:(0:Int) < (n:Int):=by omega
   have ag:=hl.below TAt.stays ac
   obtain⟨b,off,rfl,hat⟩:=ag.get TAt.plain Hi.out
   obtain⟨t0,t1⟩:=hat.at
   simp only[Nat.zero_mul,Nat.add_zero] at t0 t1
   obtain⟨W1,ah⟩:∃ W1,Hid (W1=w.alloc (.cells #[.string (S e.name),.slice (some ⟨b,off,none⟩) n cap] 100)):=⟨_,rfl⟩
   have hx1:W1.heap[w.heap.size]?=some (.cells #[.string (S e.name),.slice (some ⟨b,off,none⟩) n cap] 100 (0,0)):=by rw[ah.out];exact heap_alloc_new _ _
   rw[←ah.out] at ag ac t0 t1
   have hd:Below W1.heap.size W1 W1.drew:=(Below.refl _ _).drew
   have aj:=B2a i0.value W1.drew
   have hbr:=B3j (n:=i0.value) (ag.below TAt.stays hd) (by rw[←Hn.out];omega) hs
   have ak:∀ W,Below W1.heap.size W1 W→W.cell? ⟨w.heap.size,1,none⟩=some (.slice (some ⟨b,off,none⟩) n cap)∧W.cell? ⟨b,off+1,none⟩=some (.int .i64 i0.value):=fun W hW=>⟨A0c hW (A0a hx1 1 _ rfl),A0c hW t1⟩
   obtain⟨z0,z1⟩:=ak W1.drew hd
   have ba:=C7f
   clear hat t0 t1 ag
   go_enter Tryz.func44,Tryz.ntmps44
   go_wp2_with fail
   rw[←ah.out]
   go_region_with (first
    | (go_at_call 101;refine aj.mono ?_;rintro en w1 ⟨rfl,au⟩;obtain⟨z2,z3⟩:=ak w1 (by rw[←au];exact hd.trans (A2m (B3i W1.drew.heap.size i0.value) W1.drew)))
    | (go_at_call 100;rw[←au];refine hbr.mono ?_;rintro en w2 ⟨rfl,hb2⟩))
   all_goals
    go_wp2
    go_ret
    exact⟨by rw[HE.out];rfl,ac.trans ((hd.trans hb2).mono ac.size)⟩
end L
end Go.Proofs.YtgaoojpakjjdnaaGreatDoor
