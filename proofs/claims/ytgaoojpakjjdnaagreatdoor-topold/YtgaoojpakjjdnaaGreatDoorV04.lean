import Derived.Test.YtgaoojpakjjdnaaGreatDoorV03
set_option maxHeartbeats 32000000
set_option maxRecDepth 100000
namespace Go.Proofs.YtgaoojpakjjdnaaGreatDoor
namespace L
open Go.RowKit
def A5s (w:World):List Obj→World
 | []=>w
 | o::os=>A5s (w.alloc o) os
theorem A8f:∀ (os:List Obj) (w:World),(A5s w os).heap.size=w.heap.size+os.length
 | [],w=>rfl
 | o::os,w=>by rw[A5s,A8f os];simp;omega
theorem A3k:∀ (os:List Obj) (w:World),Below w.heap.size w (A5s w os)
 | [],w=>Below.refl _ _
 | o::os,w=>by
  rw[A5s]
  exact((Below.refl _ _).alloc (Nat.le_refl _) o).trans ((A3k os (w.alloc o)).mono (by simp))
theorem B2b:∀ (os:List Obj) (w:World) (i:Nat) (o:Obj),os[i]?=some o→(A5s w os).heap[w.heap.size+i]?=some o
 | [],_,_,_,h=>by simp at h
 | p::os,w,i,o,h=>by
  rw[A5s]
  cases i with
  | zero=>
   simp at h
   subst h
   rw[(A3k os (w.alloc p)).block _ (by simp)]
   exact heap_alloc_new w p
  | succ i=>
   have h':os[i]?=some o:=by simpa using h
   have:=B2b os (w.alloc p) i o h'
   rw[show w.heap.size+(i+1)=(w.alloc p).heap.size+i by simp;omega]
   exact this
structure FrT (T:TypeId) (B c:Nat) (w w':World):Prop where
 os:w'.os=w.os
 tape:w'.tape=w.tape
 output:w'.output=w.output
 size:w.heap.size≤w'.heap.size
 block:∀ k,k<w.heap.size→k≠c→(k<B∨∀ xs fr,w.heap[k]?≠some (.cells xs T fr))→w'.heap[k]?=w.heap[k]?
theorem FrT.fr {T:TypeId}{B c:Nat}{cs:List Nat}{w w':World}(h:FrT T B c w w')(hT:T=9∨T=3)(hc:c∈cs):Fr B cs w w':=
 ⟨h.os,h.tape,h.output,h.size,fun k hk ac hq=>h.block k hk (fun e=>ac (e▸hc)) (by
  rcases hq with hq|hq
  ·exact .inl hq
  ·right
   intro xs fr
   rcases hT with rfl|rfl
   ·exact(hq xs fr).1
   ·exact(hq xs fr).2)⟩
theorem FrT.of_upd {α:Type}{E:EK α}{B c:Nat}{v:Value}{l:List α}{w w':World}(hr:Row E w B v l)(hu:Upd c v.ownBlock w w'):FrT E.elem B c w w':=by
 refine⟨hu.os,hu.tape,hu.output,hu.size,fun k hk ac hq=>hu.block k hk ac ?_⟩
 intro e
 have hown:=hr.own k e
 rcases hr.2 with⟨hv,_⟩|⟨g,cap,cur,hv,_,hg,_⟩
 ·rw[hv] at e;simp[Value.ownBlock] at e
 ·rw[hv] at e
  have e:g=k:=by simpa [Value.ownBlock] using e
  subst e
  rcases hq with hq|hq
  ·omega
  ·exact hq cur (0,0) hg
theorem Row.frt {α:Type}{E:EK α}{w w':World}{B c:Nat}{T:TypeId}{v:Value}{l:List α}(h:Row E w B v l)(hF:FrT T B c w w')(hc:c<B)(hT:E.elem≠T):Row E w' B v l:=by
 refine⟨h.1,?_⟩
 rcases h.2 with hn|⟨g,cap,cur,hv,hbg,hg,r⟩
 ·exact .inl hn
 ·refine .inr ⟨g,cap,cur,hv,hbg,?_,r⟩
  rw[hF.block g (Array.getElem?_eq_some_iff.1 hg).1 (by omega) ?_]
  ·exact hg
  ·right
   intro xs fr
   rw[hg]
   simp
   intro _ e
   exact absurd e hT
structure NSt (W:World) (B c p:Nat) (l:List Int):Prop where
 row:∃ v,W.heap[c]?=some (.cells #[v] 30 (0,0))∧Row ekN W B v l
 fn:W.heap[p]?=some (.cells #[.func (.func 214) #[] #[.pointer (some ⟨c,0,none⟩)]] 67 (0,0))
 lt:c<B
theorem NSt.below {W W':World}{B c p:Nat}{l:List Int}(h:NSt W B c p l)(hb:Below W.heap.size W W'):NSt W' B c p l:=by
 obtain⟨⟨v,h1,h2⟩,h3,h4⟩:=h
 exact⟨⟨v,(hb.block c (Array.getElem?_eq_some_iff.1 h1).1).trans h1,h2.below hb⟩,(hb.block p (Array.getElem?_eq_some_iff.1 h3).1).trans h3,h4⟩
theorem A2s {T:TypeId}{B c k:Nat}{w w':World}{o:Obj}(hF:FrT T B c w w')(hk:w.heap[k]?=some o)(hc:k≠c)(hB:k<B):w'.heap[k]?=some o:=
 (hF.block k (Array.getElem?_eq_some_iff.1 hk).1 hc (.inl hB)).trans hk
theorem NSt.frt {W W':World}{B c p d:Nat}{l:List Int}(h:NSt W B c p l)(hF:FrT 9 B d W W')(hd:d<B)(hc:c≠d)(hp:p≠d)(ac:p<B):NSt W' B c p l:=by
 obtain⟨⟨v,h1,h2⟩,h3,h4⟩:=h
 exact⟨⟨v,A2s hF h1 hc h4,h2.frt hF hd (by decide)⟩,A2s hF h3 hp ac,h4⟩
theorem SSt.frt {W W':World}{B c p d:Nat}{l:List (List UInt8)}(h:SSt W B c p l)(hF:FrT 3 B d W W')(hd:d<B)(hc:c≠d)(hp:p≠d)(ac:p<B):SSt W' B c p l:=by
 obtain⟨⟨v,h1,h2⟩,h3,h4⟩:=h
 exact⟨⟨v,A2s hF h1 hc h4,h2.frt hF hd (by decide)⟩,A2s hF h3 hp ac,h4⟩
theorem SSt.call2 {W:World}{B c p:Nat}{l:List (List UInt8)}(h:SSt W B c p l)(hB:B≤W.heap.size)(hl:l.length≤1000)(hp:p≠c)(ac:p<B)(x:List UInt8) :
  Calls Tryz.prog 154 #[.string (S x),.pointer (some ⟨c,0,none⟩)] W fun e W'=>e = .returned (.bool (decide (x∈l)))∧SSt W' B c p (A6t x l)∧FrT 9 B c W W':=by
 obtain⟨⟨v,h1,h2⟩,h3,h4⟩:=h
 refine(B2a h1 h2 h4 hB hl x).mono ?_
 rintro e W' ⟨rfl,v',k1,k2,hu⟩
 have hF:FrT 9 B c W W':=FrT.of_upd h2 hu
 exact⟨rfl,⟨⟨v',k1,k2⟩,A2s hF h3 hp ac,h4⟩,hF⟩
theorem NSt.call2 {W:World}{B c p:Nat}{l:List Int}(h:NSt W B c p l)(hB:B≤W.heap.size)(hl:l.length≤1000)(hp:p≠c)(ac:p<B)(x:Int) :
  Calls Tryz.prog 214 #[.int .i64 x,.pointer (some ⟨c,0,none⟩)] W fun e W'=>e = .returned (.bool (decide (x∈l)))∧NSt W' B c p (A6t x l)∧FrT 3 B c W W':=by
 obtain⟨⟨v,h1,h2⟩,h3,h4⟩:=h
 refine(B9q h1 h2 h4 hB hl x).mono ?_
 rintro e W' ⟨rfl,v',k1,k2,hu⟩
 have hF:FrT 3 B c W W':=FrT.of_upd h2 hu
 exact⟨rfl,⟨⟨v',k1,k2⟩,A2s hF h3 hp ac,h4⟩,hF⟩
def D7j (b:Nat):List Ru:=[⟨7,172,#[.pointer (some ⟨b+3,0,none⟩)]⟩,⟨3,173,#[]⟩,⟨8,174,#[.pointer (some ⟨b,0,none⟩),.pointer (some ⟨b+4,0,none⟩)]⟩]
def B8b (b:Nat)(n:Int):List Obj:=[.cells #[.int .i64 n] 3,.cells #[.slice none 0 0] 93,.cells #[.slice none 0 0] 30,.cells #[.func (.func 154) #[] #[.pointer (some ⟨b+1,0,none⟩)]] 152,.cells #[.func (.func 214) #[] #[.pointer (some ⟨b+2,0,none⟩)]] 67,.cells (A7g (D7j b)) 227]
theorem B6b (n:Int)(w:World):Calls Tryz.prog 101 #[.int .i64 n] w fun e w'=>e = .returned (.slice (some ⟨w.heap.size+5,0,none⟩) 3 3)∧A5s w (B8b w.heap.size n)=w':=by
 have ac:=A4j
 go_enter Tryz.func101,Tryz.ntmps101
 go_wp2_with fail
 refine(B0f _).mono ?_
 rintro e w1 ⟨rfl,rfl⟩
 go_wp2_with fail
 refine(B4h _).mono ?_
 rintro e w1 ⟨rfl,rfl⟩
 go_wp2
 go_ret
 exact⟨rfl,rfl⟩
structure ISt (W:World) (B b:Nat) (n:Int) (s:List (List UInt8)×List Int):Prop where
 names:SSt W B (b+1) (b+3) s.1
 vals:NSt W B (b+2) (b+4) s.2
 first:W.heap[b]?=some (.cells #[.int .i64 n] 3 (0,0))
 lt:b+5<B
theorem ISt.below {W W':World}{B b:Nat}{n:Int}{s:List (List UInt8)×List Int}(h:ISt W B b n s)(hb:Below W.heap.size W W'):ISt W' B b n s:=
 ⟨h.names.below hb,h.vals.below hb,(hb.block b (Array.getElem?_eq_some_iff.1 h.first).1).trans h.first,h.lt⟩
def A5o (n:Int):Nat→II→List (List UInt8)×List Int→Bool×(List (List UInt8)×List Int)
 | 0,x,s=>(!A7d x.name||decide (x.name∈s.1),(A6t x.name s.1,s.2))
 | 1,x,s=>(decide (x.value < -2147483648)||decide (2147483647<x.value),s)
 | _,x,s=>(decide (n≠0)||decide (x.value∈s.2),(s.1,A6t x.value s.2))
theorem C7v {W:World}{B b:Nat}{n:Int}{s:List (List UInt8)×List Int}(h:ISt W B b n s)(hB:B≤W.heap.size)(hl:s.1.length≤1000)(x:II)(hx:x.name.length≤9223372036854775807) :
  Calls Tryz.prog 172 #[iv x,.pointer (some ⟨b+3,0,none⟩)] W fun e W'=>e = .returned (.bool (A5o n 0 x s).1)∧((A5o n 0 x s).1=false→ISt W' B b n (A5o n 0 x s).2)∧Fr B [b+1,b+2] W W':=by
 have ac:=(Below.refl W.heap.size W).alloc (Nat.le_refl _) (.cells #[.string (S x.name),.int .i64 x.value] 162)
 have h1:=h.below ac
 have c0:(W.alloc (.cells #[.string (S x.name),.int .i64 x.value] 162)).cell? ⟨b+3,0,none⟩=some (.func (.func 154) #[] #[.pointer (some ⟨b+1,0,none⟩)]):=A0a h1.names.fn 0 _ rfl
 have ag:=B3c x.name hx (W.alloc (.cells #[.string (S x.name),.int .i64 x.value] 162))
 have hlt:=h.lt
 have hcc:=h1.names.call2 (Nat.le_trans hB ac.size) hl (by omega) (by omega) x.name
 unfold iv
 cases hq:A7d x.name with
 | false=>
  have HN:Hid ((A5o n 0 x s).1=true):=by show _=_;rw[A5o,hq];rfl
  rw[hq] at ag
  clear hq hcc
  go_enter Tryz.func172,Tryz.ntmps172
  go_wp2_with fail
  refine ag.mono ?_
  rintro e w1 ⟨rfl,rfl⟩
  go_wp2
  go_ret
  refine⟨by rw[HN.out];rfl,fun e=>?_,Fr.of_below ac⟩
  rw[HN.out] at e;cases e
 | true=>
  have HN:Hid ((A5o n 0 x s).1=decide (x.name∈s.1)):=by show _=_;rw[A5o,hq];rfl
  rw[hq] at ag
  clear hq
  go_enter Tryz.func172,Tryz.ntmps172
  go_wp2_with fail
  refine ag.mono ?_
  rintro e w1 ⟨rfl,rfl⟩
  go_wp2_with fail
  refine hcc.mono ?_
  rintro e w2 ⟨rfl,h2,hF⟩
  go_wp2
  go_ret
  refine⟨by rw[HN.out];rfl,fun _=>⟨h2,h1.vals.frt hF (by omega) (by omega) (by omega) (by omega),A2s hF h1.first (by omega) (by omega),hlt⟩,(Fr.of_below ac).trans (hF.fr (.inl rfl) (by simp))⟩
theorem C7w {W:World}{B b:Nat}{n:Int}{s:List (List UInt8)×List Int}(h:ISt W B b n s)(x:II) :
  Calls Tryz.prog 173 #[iv x] W fun e W'=>e = .returned (.bool (A5o n 1 x s).1)∧((A5o n 1 x s).1=false→ISt W' B b n (A5o n 1 x s).2)∧Fr B [b+1,b+2] W W':=by
 have ac:=(Below.refl W.heap.size W).alloc (Nat.le_refl _) (.cells #[.string (S x.name),.int .i64 x.value] 162)
 have h1:=h.below ac
 unfold iv
 obtain⟨q1,ag⟩:∃ q,decide (x.value < -2147483648)=q:=⟨_,rfl⟩
 obtain⟨q2,ah⟩:∃ q,decide (2147483647<x.value)=q:=⟨_,rfl⟩
 have HN:Hid ((A5o n 1 x s).1=(q1||q2)):=by show _=_;rw[A5o,ag,ah]
 cases q1 <;> cases q2
 all_goals simp only[decide_eq_true_eq,decide_eq_false_iff_not] at ag ah
 all_goals first|(exfalso;omega)|skip
 all_goals go_enter Tryz.func173,Tryz.ntmps173
 all_goals go_wp2
 all_goals go_ret
 all_goals exact⟨by rw[HN.out];rfl,fun _=>h1,Fr.of_below ac⟩
theorem C7x {W:World}{B b:Nat}{n:Int}{s:List (List UInt8)×List Int}(h:ISt W B b n s)(hB:B≤W.heap.size)(hl:s.2.length≤1000)(x:II) :
  Calls Tryz.prog 174 #[iv x,.pointer (some ⟨b,0,none⟩),.pointer (some ⟨b+4,0,none⟩)] W fun e W'=>e = .returned (.bool (A5o n 2 x s).1)∧((A5o n 2 x s).1=false→ISt W' B b n (A5o n 2 x s).2)∧Fr B [b+1,b+2] W W':=by
 have ac:=(Below.refl W.heap.size W).alloc (Nat.le_refl _) (.cells #[.string (S x.name),.int .i64 x.value] 162)
 have h1:=h.below ac
 have c0:(W.alloc (.cells #[.string (S x.name),.int .i64 x.value] 162)).cell? ⟨b+4,0,none⟩=some (.func (.func 214) #[] #[.pointer (some ⟨b+2,0,none⟩)]):=A0a h1.vals.fn 0 _ rfl
 have c1:(W.alloc (.cells #[.string (S x.name),.int .i64 x.value] 162)).cell? ⟨b,0,none⟩=some (.int .i64 n):=A0a h1.first 0 _ rfl
 have hlt:=h.lt
 have hcc:=h1.vals.call2 (Nat.le_trans hB ac.size) hl (by omega) (by omega) x.value
 unfold iv
 obtain⟨q1,ag⟩:∃ q,(n != 0)=q:=⟨_,rfl⟩
 have HN:Hid ((A5o n 2 x s).1=(q1||decide (x.value∈s.2))):=by
  have e:decide (n≠0)=(n != 0):=by rw[Bool.eq_iff_iff];simp
  show(decide (n≠0)||decide (x.value∈s.2))=_
  rw[e,ag]
 cases q1 with
 | true=>
  clear hcc
  go_enter Tryz.func174,Tryz.ntmps174
  go_wp2
  go_ret
  refine⟨by rw[HN.out];rfl,fun e=>?_,Fr.of_below ac⟩
  rw[HN.out] at e;cases e
 | false=>
  go_enter Tryz.func174,Tryz.ntmps174
  go_wp2_with fail
  refine hcc.mono ?_
  rintro e w2 ⟨rfl,h2,hF⟩
  go_wp2
  go_ret
  refine⟨by rw[HN.out];rfl,fun _=>⟨h1.names.frt hF (by omega) (by omega) (by omega) (by omega),h2,A2s hF h1.first (by omega) (by omega),hlt⟩,(Fr.of_below ac).trans (hF.fr (.inr rfl) (by simp))⟩
def C6g (n:Int):Bool:=decide (1≤n)&&(decide (n<536870912)&&(decide (n<19000)||decide (19999<n)))
theorem D5o (n:Int)(w:World):Calls Tryz.prog 163 #[.int .i64 n] w fun e w'=>e = .returned (.bool (C6g n))∧w=w':=by
 obtain⟨q1,ac⟩:∃ q,decide (1≤n)=q:=⟨_,rfl⟩
 obtain⟨q2,ag⟩:∃ q,decide (n<536870912)=q:=⟨_,rfl⟩
 obtain⟨q3,ah⟩:∃ q,decide (n<19000)=q:=⟨_,rfl⟩
 obtain⟨q4,aj⟩:∃ q,decide (19999<n)=q:=⟨_,rfl⟩
 have HN:Hid (C6g n=(q1&&(q2&&(q3||q4)))):=by show _=_;rw[C6g,ac,ag,ah,aj]
 cases q1 <;> cases q2 <;> cases q3 <;> cases q4
 all_goals simp only[decide_eq_true_eq,decide_eq_false_iff_not] at ac ag ah aj
 all_goals first|(exfalso;omega)|skip
 all_goals go_enter Tryz.func163,Tryz.ntmps163
 all_goals go_wp2
 all_goals go_ret
 all_goals exact⟨by rw[HN.out];rfl,rfl⟩
def B5v (g:GI)(x:FI):Bool:=if x.kind=10 then decide (0≤A0k (fun m=>decide (m.name=x.type)) g.msgs) else if x.kind=5 then decide (0≤A0k (fun m=>decide (m.name=x.type)) g.enums) else true
theorem C0j {w:World}{vm ve:Value}{g:GI}(h:GRd w vm ve g)(x:FI):Calls Tryz.prog 168 #[.agg #[vm,ve],fv x] w fun e w'=>e = .returned (.bool (B5v g x))∧Below w.heap.size w w':=by
 obtain⟨am,nm,cm,rfl,aj,hcm⟩:=h.1.shape
 obtain⟨ae,ne,ce,rfl,ah,hce⟩:=h.2.shape
 have hb2:Below w.heap.size w ((w.alloc (.cells #[.slice am nm cm,.slice ae ne ce] 25)).alloc (.cells #[.string (S x.name),.int .i64 x.number,.int .i64 x.kind,.string (S x.type),.bool x.many,.int .i64 x.choice] 40)):=((Below.refl _ _).alloc (Nat.le_refl _) _).alloc (by simp) _
 have h2:=h.below hb2
 have ac:=A2y h2.1 ⟨ae,ne,ce,rfl⟩ x.type
 have hen:=A8y h2.2 ⟨am,nm,cm,rfl⟩ x.type
 unfold fv
 by_cases h10:x.kind=10
 ·have HN:Hid (B5v g x=decide (0≤A0k (fun m=>decide (m.name=x.type)) g.msgs)):=by show _=_;rw[B5v,if_pos h10]
  have hk:(x.kind==10)=true:=by simp[h10]
  generalize A0k (fun m=>decide (m.name=x.type)) g.msgs=r at ac HN
  clear h10 hen
  go_enter Tryz.func168,Tryz.ntmps168
  go_wp2_with fail
  refine ac.mono ?_
  rintro e w1 ⟨rfl,hb1⟩
  go_wp2
  go_ret
  exact⟨by rw[HN.out];rfl,hb2.trans (hb1.mono hb2.size)⟩
 ·have hk:(x.kind==10)=false:=by simp[h10]
  by_cases h5:x.kind=5
  ·have HN:Hid (B5v g x=decide (0≤A0k (fun m=>decide (m.name=x.type)) g.enums)):=by show _=_;rw[B5v,if_neg h10,if_pos h5]
   have ag:(x.kind==5)=true:=by simp[h5]
   generalize A0k (fun m=>decide (m.name=x.type)) g.enums=r at hen HN
   clear h10 h5 ac
   go_enter Tryz.func168,Tryz.ntmps168
   go_wp2_with fail
   refine hen.mono ?_
   rintro e w1 ⟨rfl,hb1⟩
   go_wp2
   go_ret
   exact⟨by rw[HN.out];rfl,hb2.trans (hb1.mono hb2.size)⟩
  ·have HN:Hid (B5v g x=true):=by show _=_;rw[B5v,if_neg h10,if_neg h5]
   have ag:(x.kind==5)=false:=by simp[h5]
   clear h10 h5 ac hen
   go_enter Tryz.func168,Tryz.ntmps168
   go_wp2
   go_ret
   exact⟨by rw[HN.out];rfl,hb2⟩
def B8k (x:FI):Bool:=decide (x.kind≠10)&&(decide (x.kind≠5)&&!x.type.isEmpty)
theorem B8l (x:FI)(w:World):Calls Tryz.prog 170 #[fv x] w fun e w'=>e = .returned (.bool (B8k x))∧Below w.heap.size w w':=by
 have ac:=(Below.refl w.heap.size w).alloc (Nat.le_refl _) (.cells #[.string (S x.name),.int .i64 x.number,.int .i64 x.kind,.string (S x.type),.bool x.many,.int .i64 x.choice] 40)
 obtain⟨q1,ag⟩:∃ q,(x.kind != 10)=q:=⟨_,rfl⟩
 obtain⟨q2,ah⟩:∃ q,(x.kind != 5)=q:=⟨_,rfl⟩
 obtain⟨q3,aj⟩:∃ q,(S x.type).toList.isEmpty=q:=⟨_,rfl⟩
 have HN:Hid (B8k x=(q1&&(q2&&!q3))):=by
  have e1:decide (x.kind≠10)=(x.kind != 10):=by rw[Bool.eq_iff_iff];simp
  have e2:decide (x.kind≠5)=(x.kind != 5):=by rw[Bool.eq_iff_iff];simp
  show _=_;rw[B8k,e1,e2,ag,ah,←aj,A2t]
 unfold fv
 cases q1 <;> cases q2 <;> cases q3
 all_goals go_enter Tryz.func170,Tryz.ntmps170
 all_goals go_wp2
 all_goals go_ret
 all_goals exact⟨by rw[HN.out];rfl,ac⟩
def D7h (b:Nat):List Ru:=[⟨7,161,#[.pointer (some ⟨b+6,0,none⟩)]⟩,⟨3,162,#[]⟩,⟨8,164,#[.pointer (some ⟨b+1,0,none⟩),.pointer (some ⟨b+7,0,none⟩)]⟩,⟨1,166,#[]⟩,⟨6,167,#[.pointer (some ⟨b,0,none⟩)]⟩,⟨8,169,#[]⟩,⟨2,171,#[.pointer (some ⟨b+8,0,none⟩)]⟩]
def D8i (b:Nat):Value:=.func (.func 215) #[] #[.pointer (some ⟨b+4,0,none⟩),.pointer (some ⟨b+5,0,none⟩)]
def B7x (b:Nat)(vm ve nm vf vb:Value):List Obj:=[.cells #[vm,ve] 25,.cells #[nm,vf,vb] 38,.cells #[.slice none 0 0] 93,.cells #[.slice none 0 0] 30,.cells #[.int .i64 0] 3,.cells #[.int .i64 0] 3,.cells #[.func (.func 154) #[] #[.pointer (some ⟨b+2,0,none⟩)]] 152,.cells #[.func (.func 214) #[] #[.pointer (some ⟨b+3,0,none⟩)]] 67,.cells #[D8i b] 67,.cells (A7g (D7h b)) 221]
theorem B3v (a1 a2 a3 a4:Option Addr)(n1 n2 n3 n4 c1 c2 c3 c4:Nat)(s:List UInt8)(w:World):Calls Tryz.prog 99 #[.agg #[.slice a1 n1 c1,.slice a2 n2 c2],.agg #[.string (S s),.slice a3 n3 c3,.slice a4 n4 c4]] w fun e w'=>e = .returned (.slice (some ⟨w.heap.size+9,0,none⟩) 7 7)∧A5s w (B7x w.heap.size (.slice a1 n1 c1) (.slice a2 n2 c2) (.string (S s)) (.slice a3 n3 c3) (.slice a4 n4 c4))=w':=by
 have ac:=A4j
 go_enter Tryz.func99,Tryz.ntmps99
 go_wp2_with fail
 refine(B0f _).mono ?_
 rintro e w1 ⟨rfl,rfl⟩
 go_wp2_with fail
 refine(B4h _).mono ?_
 rintro e w1 ⟨rfl,rfl⟩
 go_wp2_with fail
 refine(D5y _).mono ?_
 rintro e w1 ⟨rfl,rfl⟩
 go_wp2
 go_ret
 exact⟨rfl,rfl⟩
structure Mem where
 names:List (List UInt8)
 nums:List Int
 last:Int
 begun:Int
structure KSt (w0 W:World) (B b:Nat) (a1 a2 a3 a4:Option Addr) (n1 n2 n3 n4 c1 c2 c3 c4:Nat) (nm:List UInt8) (s:Mem):Prop where
 names:SSt W B (b+2) (b+6) s.names
 nums:NSt W B (b+3) (b+7) s.nums
 last:W.heap[b+4]?=some (.cells #[.int .i64 s.last] 3 (0,0))
 begun:W.heap[b+5]?=some (.cells #[.int .i64 s.begun] 3 (0,0))
 mis:W.heap[b+8]?=some (.cells #[D8i b] 67 (0,0))
 file:W.heap[b]?=some (.cells #[.slice a1 n1 c1,.slice a2 n2 c2] 25 (0,0))
 msg:W.heap[b+1]?=some (.cells #[.string (S nm),.slice a3 n3 c3,.slice a4 n4 c4] 38 (0,0))
 lt:b+9<B
 size:B≤W.heap.size
 base:b=w0.heap.size
 bel:Below b w0 W
section
variable {w0 W W':World}{B b:Nat}{a1 a2 a3 a4:Option Addr}{n1 n2 n3 n4 c1 c2 c3 c4:Nat}{nm:List UInt8}{s:Mem}
theorem KSt.below (h:KSt w0 W B b a1 a2 a3 a4 n1 n2 n3 n4 c1 c2 c3 c4 nm s)(hb:Below W.heap.size W W'):KSt w0 W' B b a1 a2 a3 a4 n1 n2 n3 n4 c1 c2 c3 c4 nm s:=by
 have k:∀ {i o},W.heap[i]?=some o→W'.heap[i]?=some o:=fun {i o} hi=>(hb.block i (Array.getElem?_eq_some_iff.1 hi).1).trans hi
 have hl:=h.lt
 have hs:=h.size
 exact⟨h.names.below hb,h.nums.below hb,k h.last,k h.begun,k h.mis,k h.file,k h.msg,h.lt,Nat.le_trans h.size hb.size,h.base,h.bel.trans (hb.mono (by omega))⟩
theorem KSt.setS {l:List (List UInt8)}(h:KSt w0 W B b a1 a2 a3 a4 n1 n2 n3 n4 c1 c2 c3 c4 nm s)(hS:SSt W' B (b+2) (b+6) l)(hF:FrT 9 B (b+2) W W'):KSt w0 W' B b a1 a2 a3 a4 n1 n2 n3 n4 c1 c2 c3 c4 nm ⟨l,s.nums,s.last,s.begun⟩:=by
 have hl:=h.lt
 have hs:=h.size
 exact⟨hS,h.nums.frt hF (by omega) (by omega) (by omega) (by omega),A2s hF h.last (by omega) (by omega),A2s hF h.begun (by omega) (by omega),A2s hF h.mis (by omega) (by omega),A2s hF h.file (by omega) (by omega),A2s hF h.msg (by omega) (by omega),hl,Nat.le_trans hs hF.size,h.base,h.bel.trans ⟨hF.os,hF.tape,hF.output,hF.size,fun k hk=>hF.block k (by omega) (by omega) (.inl (by omega))⟩⟩
theorem KSt.setN {l:List Int}(h:KSt w0 W B b a1 a2 a3 a4 n1 n2 n3 n4 c1 c2 c3 c4 nm s)(hS:NSt W' B (b+3) (b+7) l)(hF:FrT 3 B (b+3) W W'):KSt w0 W' B b a1 a2 a3 a4 n1 n2 n3 n4 c1 c2 c3 c4 nm ⟨s.names,l,s.last,s.begun⟩:=by
 have hl:=h.lt
 have hs:=h.size
 exact⟨h.names.frt hF (by omega) (by omega) (by omega) (by omega),hS,A2s hF h.last (by omega) (by omega),A2s hF h.begun (by omega) (by omega),A2s hF h.mis (by omega) (by omega),A2s hF h.file (by omega) (by omega),A2s hF h.msg (by omega) (by omega),hl,Nat.le_trans hs hF.size,h.base,h.bel.trans ⟨hF.os,hF.tape,hF.output,hF.size,fun k hk=>hF.block k (by omega) (by omega) (.inl (by omega))⟩⟩
theorem Row.same {α:Type}{E:EK α}{v:Value}{l:List α}(h:Row E W B v l)(hk:∀ k,B≤k→W'.heap[k]?=W.heap[k]?):Row E W' B v l:=by
 refine⟨h.1,?_⟩
 rcases h.2 with hn|⟨g,cap,cur,hv,hbg,hg,r⟩
 ·exact .inl hn
 ·exact .inr ⟨g,cap,cur,hv,hbg,by rw[hk g hbg];exact hg,r⟩
theorem KSt.setM {x y:Int}(h:KSt w0 W B b a1 a2 a3 a4 n1 n2 n3 n4 c1 c2 c3 c4 nm s)(h1:W'.heap[b+4]?=some (.cells #[.int .i64 x] 3 (0,0)))(h2:W'.heap[b+5]?=some (.cells #[.int .i64 y] 3 (0,0)))(hk:∀ k,¬ k=b+4→¬ k=b+5→W'.heap[k]?=W.heap[k]?)(hz:W'.heap.size=W.heap.size)(ho:W'.os=W.os)(ht:W'.tape=W.tape)(hu:W'.output=W.output):KSt w0 W' B b a1 a2 a3 a4 n1 n2 n3 n4 c1 c2 c3 c4 nm ⟨s.names,s.nums,x,y⟩:=by
 have hl:=h.lt
 have hs:=h.size
 obtain⟨⟨v1,r1,r2⟩,r3,r4⟩:=h.names
 obtain⟨⟨v2,q1,q2⟩,q3,q4⟩:=h.nums
 refine⟨⟨⟨v1,(hk _ (by omega) (by omega)).trans r1,r2.same fun k hb=>hk k (by omega) (by omega)⟩,(hk _ (by omega) (by omega)).trans r3,r4⟩,⟨⟨v2,(hk _ (by omega) (by omega)).trans q1,q2.same fun k hb=>hk k (by omega) (by omega)⟩,(hk _ (by omega) (by omega)).trans q3,q4⟩,h1,h2,(hk _ (by omega) (by omega)).trans h.mis,(hk _ (by omega) (by omega)).trans h.file,(hk _ (by omega) (by omega)).trans h.msg,hl,by omega,h.base,h.bel.trans ⟨ho,ht,hu,by omega,fun k hb=>hk k (by omega) (by omega)⟩⟩
end
def A1n (g:GI)(bar:List Int):Nat→FI→Mem→Bool×Mem
 | 0,x,s=>(!A7d x.name||decide (x.name∈s.names),⟨A6t x.name s.names,s.nums,s.last,s.begun⟩)
 | 1,x,s=>(!C6g x.number,s)
 | 2,x,s=>(decide (x.number∈bar)||decide (x.number∈s.nums),⟨s.names,A6t x.number s.nums,s.last,s.begun⟩)
 | 3,x,s=>(decide (x.kind<1)||decide (10<x.kind),s)
 | 4,x,s=>(!B5v g x,s)
 | 5,x,s=>(B8k x||(decide (0<x.choice)&&x.many),s)
 | _,x,s=>(B9n s.last s.begun x.choice,⟨s.names,s.nums,x.choice,max s.begun x.choice⟩)
theorem C4f {w0 W:World}{B b:Nat}{a1 a2 a3 a4:Option Addr}{n1 n2 n3 n4 c1 c2 c3 c4:Nat}{nm:List UInt8}{s:Mem}(g:GI)(ac:List Int)(h:KSt w0 W B b a1 a2 a3 a4 n1 n2 n3 n4 c1 c2 c3 c4 nm s)(hl:s.names.length≤1000)(x:FI)(hx:x.name.length≤9223372036854775807) :
  Calls Tryz.prog 161 #[fv x,.pointer (some ⟨b+6,0,none⟩)] W fun e W'=>e = .returned (.bool (A1n g ac 0 x s).1)∧((A1n g ac 0 x s).1=false→KSt w0 W' B b a1 a2 a3 a4 n1 n2 n3 n4 c1 c2 c3 c4 nm (A1n g ac 0 x s).2)∧Fr B [b+2,b+3,b+4,b+5] W W':=by
 obtain⟨W1,ag⟩:∃ W1,Hid (W1=W.alloc (.cells #[.string (S x.name),.int .i64 x.number,.int .i64 x.kind,.string (S x.type),.bool x.many,.int .i64 x.choice] 40)):=⟨_,rfl⟩
 have ak:Below W.heap.size W W1:=by rw[ag.out];exact(Below.refl _ _).alloc (Nat.le_refl _) _
 have au:W1.heap[W.heap.size]?=some (.cells #[.string (S x.name),.int .i64 x.number,.int .i64 x.kind,.string (S x.type),.bool x.many,.int .i64 x.choice] 40 (0,0)):=by rw[ag.out];exact heap_alloc_new _ _
 obtain⟨x0,x1,x2,x3,x4,x5⟩:=B0h au
 have h1:=h.below ak
 have hlt:=h.lt
 have hsz:=h1.size
 have aj:Fr B [b+2,b+3,b+4,b+5] W W1:=Fr.of_below ak
 have c0:W1.cell? ⟨b+6,0,none⟩=some (.func (.func 154) #[] #[.pointer (some ⟨b+2,0,none⟩)]):=A0a h1.names.fn 0 _ rfl
 have ah:=B3c x.name hx W1
 have hcc:=h1.names.call2 hsz hl (by omega) (by omega) x.name
 unfold fv
 cases hq:A7d x.name with
 | false=>
  have HN:Hid ((A1n g ac 0 x s).1=true):=by show _=_;rw[A1n,hq];rfl
  rw[hq] at ah
  clear hq hcc
  go_enter Tryz.func161,Tryz.ntmps161
  go_wp2_with fail
  rw[←ag.out]
  refine ah.mono ?_
  rintro e w1 ⟨rfl,rfl⟩
  go_wp2
  go_ret
  refine⟨by rw[HN.out];rfl,fun e=>?_,aj⟩
  rw[HN.out] at e;cases e
 | true=>
  have HN:Hid ((A1n g ac 0 x s).1=decide (x.name∈s.names)):=by show _=_;rw[A1n,hq];rfl
  rw[hq] at ah
  clear hq
  go_enter Tryz.func161,Tryz.ntmps161
  go_wp2_with fail
  rw[←ag.out]
  refine ah.mono ?_
  rintro e w1 ⟨rfl,rfl⟩
  go_wp2_with fail
  refine hcc.mono ?_
  rintro e w2 ⟨rfl,h2,hF⟩
  go_wp2
  go_ret
  exact⟨by rw[HN.out];rfl,fun _=>h1.setS h2 hF,aj.trans (hF.fr (.inl rfl) (by simp))⟩
theorem C4g {w0 W:World}{B b:Nat}{a1 a2 a3 a4:Option Addr}{n1 n2 n3 n4 c1 c2 c3 c4:Nat}{nm:List UInt8}{s:Mem}(g:GI)(ac:List Int)(h:KSt w0 W B b a1 a2 a3 a4 n1 n2 n3 n4 c1 c2 c3 c4 nm s)(x:FI) :
  Calls Tryz.prog 162 #[fv x] W fun e W'=>e = .returned (.bool (A1n g ac 1 x s).1)∧((A1n g ac 1 x s).1=false→KSt w0 W' B b a1 a2 a3 a4 n1 n2 n3 n4 c1 c2 c3 c4 nm (A1n g ac 1 x s).2)∧Fr B [b+2,b+3,b+4,b+5] W W':=by
 obtain⟨W1,ag⟩:∃ W1,Hid (W1=W.alloc (.cells #[.string (S x.name),.int .i64 x.number,.int .i64 x.kind,.string (S x.type),.bool x.many,.int .i64 x.choice] 40)):=⟨_,rfl⟩
 have ah:Below W.heap.size W W1:=by rw[ag.out];exact(Below.refl _ _).alloc (Nat.le_refl _) _
 have ak:W1.heap[W.heap.size]?=some (.cells #[.string (S x.name),.int .i64 x.number,.int .i64 x.kind,.string (S x.type),.bool x.many,.int .i64 x.choice] 40 (0,0)):=by rw[ag.out];exact heap_alloc_new _ _
 obtain⟨x0,x1,x2,x3,x4,x5⟩:=B0h ak
 have h1:=h.below ah
 have hlt:=h.lt
 have hsz:=h1.size
 have aj:Fr B [b+2,b+3,b+4,b+5] W W1:=Fr.of_below ah
 have hcb:=D5o x.number W1
 unfold fv
 have HN:Hid ((A1n g ac 1 x s).1 = !C6g x.number):=rfl
 generalize C6g x.number=q at hcb HN
 go_enter Tryz.func162,Tryz.ntmps162
 go_wp2_with fail
 rw[←ag.out]
 refine hcb.mono ?_
 rintro e w1 ⟨rfl,rfl⟩
 go_wp2
 go_ret
 exact⟨by rw[HN.out];rfl,fun _=>h1,aj⟩
theorem C4h {w0 W:World}{B b:Nat}{a1 a2 a3 a4:Option Addr}{n1 n2 n3 n4 c1 c2 c3 c4:Nat}{nm:List UInt8}{s:Mem}(g:GI)(ac:List Int)(h:KSt w0 W B b a1 a2 a3 a4 n1 n2 n3 n4 c1 c2 c3 c4 nm s)(hl:s.nums.length≤1000)(aj:RdL 1 NAt w0 (.slice a4 n4 c4) ac)(x:FI) :
  Calls Tryz.prog 164 #[fv x,.pointer (some ⟨b+1,0,none⟩),.pointer (some ⟨b+7,0,none⟩)] W fun e W'=>e = .returned (.bool (A1n g ac 2 x s).1)∧((A1n g ac 2 x s).1=false→KSt w0 W' B b a1 a2 a3 a4 n1 n2 n3 n4 c1 c2 c3 c4 nm (A1n g ac 2 x s).2)∧Fr B [b+2,b+3,b+4,b+5] W W':=by
 obtain⟨W1,ag⟩:∃ W1,Hid (W1=W.alloc (.cells #[.string (S x.name),.int .i64 x.number,.int .i64 x.kind,.string (S x.type),.bool x.many,.int .i64 x.choice] 40)):=⟨_,rfl⟩
 have au:Below W.heap.size W W1:=by rw[ag.out];exact(Below.refl _ _).alloc (Nat.le_refl _) _
 have aw:W1.heap[W.heap.size]?=some (.cells #[.string (S x.name),.int .i64 x.number,.int .i64 x.kind,.string (S x.type),.bool x.many,.int .i64 x.choice] 40 (0,0)):=by rw[ag.out];exact heap_alloc_new _ _
 obtain⟨x0,x1,x2,x3,x4,x5⟩:=B0h aw
 have h1:=h.below au
 have hlt:=h.lt
 have hsz:=h1.size
 have ak:Fr B [b+2,b+3,b+4,b+5] W W1:=Fr.of_below au
 have c0:W1.cell? ⟨b+7,0,none⟩=some (.func (.func 214) #[] #[.pointer (some ⟨b+3,0,none⟩)]):=A0a h1.nums.fn 0 _ rfl
 obtain⟨_,_,m2⟩:=A4p h1.msg
 rw[ag.out] at m2
 have ah:=A6h (aj.below NAt.stays (h.base▸h1.bel)) x.number
 have hcc:=h1.nums.call2 hsz hl (by omega) (by omega) x.number
 unfold fv
 cases hq:decide (x.number∈ac) with
 | true=>
  have HN:Hid ((A1n g ac 2 x s).1=true):=by show _=_;rw[A1n,hq];rfl
  rw[hq] at ah
  clear hq hcc
  go_enter Tryz.func164,Tryz.ntmps164
  go_wp2_with fail
  rw[←ag.out]
  refine ah.mono ?_
  rintro e w1 ⟨rfl,rfl⟩
  go_wp2
  go_ret
  refine⟨by rw[HN.out];rfl,fun e=>?_,ak⟩
  rw[HN.out] at e;cases e
 | false=>
  have HN:Hid ((A1n g ac 2 x s).1=decide (x.number∈s.nums)):=by show _=_;rw[A1n,hq];rfl
  rw[hq] at ah
  clear hq
  go_enter Tryz.func164,Tryz.ntmps164
  go_wp2_with fail
  rw[←ag.out]
  refine ah.mono ?_
  rintro e w1 ⟨rfl,rfl⟩
  go_wp2_with fail
  refine hcc.mono ?_
  rintro e w2 ⟨rfl,h2,hF⟩
  go_wp2
  go_ret
  exact⟨by rw[HN.out];rfl,fun _=>h1.setN h2 hF,ak.trans (hF.fr (.inr rfl) (by simp))⟩
theorem C4i {w0 W:World}{B b:Nat}{a1 a2 a3 a4:Option Addr}{n1 n2 n3 n4 c1 c2 c3 c4:Nat}{nm:List UInt8}{s:Mem}(g:GI)(ac:List Int)(h:KSt w0 W B b a1 a2 a3 a4 n1 n2 n3 n4 c1 c2 c3 c4 nm s)(x:FI) :
  Calls Tryz.prog 166 #[fv x] W fun e W'=>e = .returned (.bool (A1n g ac 3 x s).1)∧((A1n g ac 3 x s).1=false→KSt w0 W' B b a1 a2 a3 a4 n1 n2 n3 n4 c1 c2 c3 c4 nm (A1n g ac 3 x s).2)∧Fr B [b+2,b+3,b+4,b+5] W W':=by
 obtain⟨W1,ag⟩:∃ W1,Hid (W1=W.alloc (.cells #[.string (S x.name),.int .i64 x.number,.int .i64 x.kind,.string (S x.type),.bool x.many,.int .i64 x.choice] 40)):=⟨_,rfl⟩
 have ah:Below W.heap.size W W1:=by rw[ag.out];exact(Below.refl _ _).alloc (Nat.le_refl _) _
 have aw:W1.heap[W.heap.size]?=some (.cells #[.string (S x.name),.int .i64 x.number,.int .i64 x.kind,.string (S x.type),.bool x.many,.int .i64 x.choice] 40 (0,0)):=by rw[ag.out];exact heap_alloc_new _ _
 obtain⟨x0,x1,x2,x3,x4,x5⟩:=B0h aw
 have h1:=h.below ah
 have hlt:=h.lt
 have hsz:=h1.size
 have au:Fr B [b+2,b+3,b+4,b+5] W W1:=Fr.of_below ah
 unfold fv
 obtain⟨q1,aj⟩:∃ q,decide (x.kind<1)=q:=⟨_,rfl⟩
 obtain⟨q2,ak⟩:∃ q,decide (10<x.kind)=q:=⟨_,rfl⟩
 have HN:Hid ((A1n g ac 3 x s).1=(q1||q2)):=by show _=_;rw[A1n,aj,ak]
 cases q1 <;> cases q2
 all_goals simp only[decide_eq_true_eq,decide_eq_false_iff_not] at aj ak
 all_goals first|(exfalso;omega)|skip
 all_goals go_enter Tryz.func166,Tryz.ntmps166
 all_goals go_wp2
 all_goals rw[←ag.out]
 all_goals go_ret
 all_goals exact⟨by rw[HN.out];rfl,fun _=>h1,au⟩
theorem C4j {w0 W:World}{B b:Nat}{a1 a2 a3 a4:Option Addr}{n1 n2 n3 n4 c1 c2 c3 c4:Nat}{nm:List UInt8}{s:Mem}(g:GI)(ag:List Int)(h:KSt w0 W B b a1 a2 a3 a4 n1 n2 n3 n4 c1 c2 c3 c4 nm s)(hg:GRd w0 (.slice a1 n1 c1) (.slice a2 n2 c2) g)(x:FI) :
  Calls Tryz.prog 167 #[fv x,.pointer (some ⟨b,0,none⟩)] W fun e W'=>e = .returned (.bool (A1n g ag 4 x s).1)∧((A1n g ag 4 x s).1=false→KSt w0 W' B b a1 a2 a3 a4 n1 n2 n3 n4 c1 c2 c3 c4 nm (A1n g ag 4 x s).2)∧Fr B [b+2,b+3,b+4,b+5] W W':=by
 obtain⟨W1,ac⟩:∃ W1,Hid (W1=W.alloc (.cells #[.string (S x.name),.int .i64 x.number,.int .i64 x.kind,.string (S x.type),.bool x.many,.int .i64 x.choice] 40)):=⟨_,rfl⟩
 have aj:Below W.heap.size W W1:=by rw[ac.out];exact(Below.refl _ _).alloc (Nat.le_refl _) _
 have au:W1.heap[W.heap.size]?=some (.cells #[.string (S x.name),.int .i64 x.number,.int .i64 x.kind,.string (S x.type),.bool x.many,.int .i64 x.choice] 40 (0,0)):=by rw[ac.out];exact heap_alloc_new _ _
 obtain⟨x0,x1,x2,x3,x4,x5⟩:=B0h au
 have h1:=h.below aj
 have hlt:=h.lt
 have hsz:=h1.size
 have ak:Fr B [b+2,b+3,b+4,b+5] W W1:=Fr.of_below aj
 obtain⟨f0,f1⟩:=A0y h1.file
 rw[ac.out] at f0 f1
 have ah:=C0j (hg.below (h.base▸h1.bel)) x
 unfold fv at ah
 unfold fv
 have HN:Hid ((A1n g ag 4 x s).1 = !B5v g x):=rfl
 generalize B5v g x=q at ah HN
 go_enter Tryz.func167,Tryz.ntmps167
 go_wp2_with fail
 rw[←ac.out]
 refine ah.mono ?_
 rintro e w1 ⟨rfl,hb1⟩
 go_wp2
 go_ret
 exact⟨by rw[HN.out];rfl,fun _=>h1.below hb1,ak.trans (Fr.of_below hb1)⟩
theorem C4k {w0 W:World}{B b:Nat}{a1 a2 a3 a4:Option Addr}{n1 n2 n3 n4 c1 c2 c3 c4:Nat}{nm:List UInt8}{s:Mem}(g:GI)(ag:List Int)(h:KSt w0 W B b a1 a2 a3 a4 n1 n2 n3 n4 c1 c2 c3 c4 nm s)(x:FI) :
  Calls Tryz.prog 169 #[fv x] W fun e W'=>e = .returned (.bool (A1n g ag 5 x s).1)∧((A1n g ag 5 x s).1=false→KSt w0 W' B b a1 a2 a3 a4 n1 n2 n3 n4 c1 c2 c3 c4 nm (A1n g ag 5 x s).2)∧Fr B [b+2,b+3,b+4,b+5] W W':=by
 obtain⟨W1,ac⟩:∃ W1,Hid (W1=W.alloc (.cells #[.string (S x.name),.int .i64 x.number,.int .i64 x.kind,.string (S x.type),.bool x.many,.int .i64 x.choice] 40)):=⟨_,rfl⟩
 have aw:Below W.heap.size W W1:=by rw[ac.out];exact(Below.refl _ _).alloc (Nat.le_refl _) _
 have aj:W1.heap[W.heap.size]?=some (.cells #[.string (S x.name),.int .i64 x.number,.int .i64 x.kind,.string (S x.type),.bool x.many,.int .i64 x.choice] 40 (0,0)):=by rw[ac.out];exact heap_alloc_new _ _
 obtain⟨x0,x1,x2,x3,x4,x5⟩:=B0h aj
 have h1:=h.below aw
 have hlt:=h.lt
 have hsz:=h1.size
 have ak:Fr B [b+2,b+3,b+4,b+5] W W1:=Fr.of_below aw
 have ah:=B8l x W1
 unfold fv at ah
 unfold fv
 have HN:Hid ((A1n g ag 5 x s).1=(B8k x||(decide (0<x.choice)&&x.many))):=rfl
 generalize B8k x=q at ah HN
 cases q with
 | true=>
  go_enter Tryz.func169,Tryz.ntmps169
  go_wp2_with fail
  rw[←ac.out]
  refine ah.mono ?_
  rintro e w1 ⟨rfl,hb1⟩
  go_wp2
  go_ret
  exact⟨by rw[HN.out];rfl,fun _=>h1.below hb1,ak.trans (Fr.of_below hb1)⟩
 | false=>
  obtain⟨q1,ba⟩:∃ q,decide (0<x.choice)=q:=⟨_,rfl⟩
  rw[ba] at HN
  have au:∀ w1,Below W1.heap.size W1 w1→w1.heap[W.heap.size]?=some (.cells #[.string (S x.name),.int .i64 x.number,.int .i64 x.kind,.string (S x.type),.bool x.many,.int .i64 x.choice] 40 (0,0)):=fun w1 hb=>(hb.block _ (Array.getElem?_eq_some_iff.1 aj).1).trans aj
  cases q1
  all_goals simp only[decide_eq_true_eq,decide_eq_false_iff_not] at ba
  all_goals go_enter Tryz.func169,Tryz.ntmps169
  all_goals go_wp2_with fail
  all_goals rw[←ac.out]
  all_goals refine ah.mono ?_
  all_goals rintro e w1 ⟨rfl,hb1⟩
  all_goals obtain⟨y0,y1,y2,y3,y4,y5⟩:=B0h (au w1 hb1)
  all_goals clear au
  all_goals go_wp2
  all_goals go_ret
  all_goals exact⟨by rw[HN.out];rfl,fun _=>h1.below hb1,ak.trans (Fr.of_below hb1)⟩
theorem C4l {w0 W:World}{B b:Nat}{a1 a2 a3 a4:Option Addr}{n1 n2 n3 n4 c1 c2 c3 c4:Nat}{nm:List UInt8}{s:Mem}(g:GI)(ac:List Int)(h:KSt w0 W B b a1 a2 a3 a4 n1 n2 n3 n4 c1 c2 c3 c4 nm s)(hb0:0≤s.begun)(hb1:s.begun≤1000000)(x:FI) :
  Calls Tryz.prog 171 #[fv x,.pointer (some ⟨b+8,0,none⟩)] W fun e W'=>e = .returned (.bool (A1n g ac 6 x s).1)∧((A1n g ac 6 x s).1=false→KSt w0 W' B b a1 a2 a3 a4 n1 n2 n3 n4 c1 c2 c3 c4 nm (A1n g ac 6 x s).2)∧Fr B [b+2,b+3,b+4,b+5] W W':=by
 obtain⟨W1,ag⟩:∃ W1,Hid (W1=W.alloc (.cells #[.string (S x.name),.int .i64 x.number,.int .i64 x.kind,.string (S x.type),.bool x.many,.int .i64 x.choice] 40)):=⟨_,rfl⟩
 have ah:Below W.heap.size W W1:=by rw[ag.out];exact(Below.refl _ _).alloc (Nat.le_refl _) _
 have ak:W1.heap[W.heap.size]?=some (.cells #[.string (S x.name),.int .i64 x.number,.int .i64 x.kind,.string (S x.type),.bool x.many,.int .i64 x.choice] 40 (0,0)):=by rw[ag.out];exact heap_alloc_new _ _
 obtain⟨x0,x1,x2,x3,x4,x5⟩:=B0h ak
 have h1:=h.below ah
 have hlt:=h.lt
 have hsz:=h1.size
 have aj:Fr B [b+2,b+3,b+4,b+5] W W1:=Fr.of_below ah
 have c0:W1.cell? ⟨b+8,0,none⟩=some (D8i b):=A0a h1.mis 0 _ rfl
 have hcc:=D2m h1.last h1.begun (by omega) hb0 hb1 x.choice
 unfold D8i at c0
 rw[ag.out] at c0
 unfold fv
 have HN:Hid ((A1n g ac 6 x s).1=B9n s.last s.begun x.choice):=rfl
 go_enter Tryz.func171,Tryz.ntmps171
 go_wp2_with fail
 rw[←ag.out]
 refine hcc.mono ?_
 rintro e w2 ⟨rfl,k1,k2,k3,k4,k5,k6,k7⟩
 have hF2:Fr B [b+2,b+3,b+4,b+5] W1 w2:=⟨k5,k6,k7,by omega,fun k hk hc _=>k3 k (fun e=>hc (by simp[e])) (fun e=>hc (by simp[e]))⟩
 have HK:Hid ((A1n g ac 6 x s).1=false→KSt w0 w2 B b a1 a2 a3 a4 n1 n2 n3 n4 c1 c2 c3 c4 nm (A1n g ac 6 x s).2):=by
  intro e
  have e':B9n s.last s.begun x.choice=false:=e
  rw[e'] at k1 k2
  exact h1.setM k1 k2 k3 k4 k5 k6 k7
 clear k1 k2 k3 k4 k5 k6 k7
 go_wp2
 go_ret
 exact⟨by rw[HN.out];rfl,HK.out,aj.trans hF2⟩
end L
end Go.Proofs.YtgaoojpakjjdnaaGreatDoor
