import Derived.Test.YtgaoojpakjjdnaaGreatDoorU05
import Derived.Shelf.Abstract
set_option maxHeartbeats 32000000
set_option maxRecDepth 100000
namespace Go.Proofs.YtgaoojpakjjdnaaGreatDoor
namespace L
open Go.RowKit
theorem B2g (w:World):Calls Tryz.prog 42 #[] w fun e w'=>e = .returned (.slice (some ⟨w.heap.size+2,0,none⟩) 1 1)∧((w.alloc (.cells #[.slice none 0 0] 93)).alloc (.cells #[.func (.func 154) #[] #[.pointer (some ⟨w.heap.size,0,none⟩)]] 152)).alloc (.cells #[.int .i64 7,.func (.func 93) #[] #[.pointer (some ⟨w.heap.size+1,0,none⟩)]] 154)=w':=by
 have ac:=A3i
 go_enter Tryz.func42,Tryz.ntmps42
 go_wp2_with fail
 refine(A7t w).mono ?_
 rintro e w1 ⟨rfl,rfl⟩
 go_wp2
 go_ret
 exact⟨rfl,rfl⟩
theorem B6b (w:World) (o1 o2 o3:Obj):(((w.alloc o1).alloc o2).alloc o3).heap[w.heap.size+2]?=some o3∧(((w.alloc o1).alloc o2).alloc o3).heap[w.heap.size+1]?=some o2∧(((w.alloc o1).alloc o2).alloc o3).heap[w.heap.size]?=some o1:=by
 refine⟨?_,?_,?_⟩
 ·have:=heap_alloc_new ((w.alloc o1).alloc o2) o3
  rwa [show((w.alloc o1).alloc o2).heap.size=w.heap.size+2 by simp] at this
 ·rw[Below.heap_alloc _ _ _ (by simp)];exact A0i _ _ _
 ·rw[Below.heap_alloc _ _ _ (by simp;omega)];exact A0l _ _ _
structure SSt (W:World) (B c p:Nat) (l:List (List UInt8)):Prop where
 row:∃ v,W.heap[c]?=some (.cells #[v] 93 (0,0))∧Row ekS W B v l
 fn:W.heap[p]?=some (.cells #[.func (.func 154) #[] #[.pointer (some ⟨c,0,none⟩)]] 152 (0,0))
 lt:c < B
theorem SSt.below {W W':World}{B c p:Nat}{l:List (List UInt8)}(h:SSt W B c p l) (hb:Below W.heap.size W W'):SSt W' B c p l:=by
 obtain⟨⟨v,h1,h2⟩,h3,h4⟩:=h
 exact⟨⟨v,(hb.block c (Array.getElem?_eq_some_iff.1 h1).1).trans h1,h2.below hb⟩,(hb.block p (Array.getElem?_eq_some_iff.1 h3).1).trans h3,h4⟩
theorem SSt.call {W:World}{B c p:Nat}{l:List (List UInt8)}(h:SSt W B c p l) (hB:B≤W.heap.size) (hl:l.length≤1000) (cs:List Nat) (hc:c∈cs) (hp:p∉cs) (x:List UInt8) :
  Calls Tryz.prog 154 #[.string (S x),.pointer (some ⟨c,0,none⟩)] W fun e W'=>e = .returned (.bool (decide (x∈l)))∧SSt W' B c p (A6q x l)∧Fr B cs W W':=by
 obtain⟨⟨v,h1,h2⟩,h3,h4⟩:=h
 refine(A8x h1 h2 h4 hB hl x).mono ?_
 rintro e W' ⟨rfl,v',k1,k2,hu⟩
 have hF:Fr B cs W W':=by
  refine⟨hu.os,hu.tape,hu.output,hu.size,fun k hk ac hq=>hu.block k hk (fun e=>ac (e▸hc)) ?_⟩
  intro e
  have hown:=h2.own k e
  rcases h2.2 with⟨hv,_⟩|⟨g,cap,cur,hv,_,hg,_⟩
  ·rw[hv] at e;simp[Value.ownBlock] at e
  ·rw[hv] at e
   have e:g=k:=by simpa [Value.ownBlock] using e
   subst e
   rcases hq with hq|hq
   ·omega
   ·exact(hq cur (0,0)).1 hg
 exact⟨rfl,⟨⟨v',k1,k2⟩,hF.keep h3 hp (by decide),h4⟩,hF⟩
def B2e (s:List UInt8) (l:List (List UInt8)):Bool:=!A5g s||(keptB s||decide (s∈l))
theorem B2f {W:World}{B c p:Nat}{l:List (List UInt8)}(h:SSt W B c p l) (hB:B≤W.heap.size) (hl:l.length≤1000) (hp:p≠c) (s:List UInt8) (hs:s.length≤9223372036854775807) :
  Calls Tryz.prog 93 #[.string (S s),.pointer (some ⟨p,0,none⟩)] W fun e W'=>e = .returned (.bool (B2e s l))∧(B2e s l=false→SSt W' B c p (A6q s l))∧Fr B [c] W W':=by
 have c0:W.cell? ⟨p,0,none⟩=some (.func (.func 154) #[] #[.pointer (some ⟨c,0,none⟩)]):=A0a h.fn 0 _ rfl
 have ag:=A9p s hs W
 have ac:=B8s s W
 go_enter Tryz.func93,Tryz.ntmps93
 go_wp2_with fail
 refine ag.mono ?_
 rintro e w1 ⟨rfl,rfl⟩
 cases hq:A5g s with
 | false=>
  have HN:Hid (B2e s l=true):=by show _=_;rw[B2e,hq];rfl
  clear hq ag ac
  go_wp2
  go_ret
  refine⟨by rw[HN.out];rfl,fun e=>?_,Fr.refl _ _ _⟩
  rw[HN.out] at e;cases e
 | true=>
  go_wp2_with fail
  refine ac.mono ?_
  rintro e w2 ⟨rfl,hb2⟩
  cases hk:keptB s with
  | true=>
   have HN:Hid (B2e s l=true):=by show _=_;rw[B2e,hq,hk];rfl
   clear hq ag ac hk
   go_wp2
   go_ret
   refine⟨by rw[HN.out];rfl,fun e=>?_,Fr.of_below hb2⟩
   rw[HN.out] at e;cases e
  | false=>
   have HN:Hid (B2e s l=decide (s∈l)):=by show _=_;rw[B2e,hq,hk];rfl
   have h2:=h.below hb2
   have c2:w2.cell? ⟨p,0,none⟩=some (.func (.func 154) #[] #[.pointer (some ⟨c,0,none⟩)]):=A0a h2.fn 0 _ rfl
   have hcc:=h2.call (Nat.le_trans hB hb2.size) hl [c] (by simp) (by simpa using hp) s
   clear hq ag ac hk c0
   go_wp2_with fail
   refine hcc.mono ?_
   rintro e w3 ⟨rfl,h3,ah⟩
   go_wp2
   go_ret
   exact⟨by rw[HN.out];rfl,fun _=>h3,(Fr.of_below hb2).trans ah⟩
def B2l:Nat→List UInt8→List (List UInt8)→Bool×List (List UInt8):=fun _ s l=>(B2e s l,A6q s l)
theorem B3p {w:World}{vl:Value}{l:List (List UInt8)}(hl:RdL 1 SAt w vl l) (hn:l.length≤1000) (hs:∀ s∈l,s.length≤9223372036854775807) :
  Calls Tryz.prog 40 #[vl,.slice (some ⟨w.heap.size+2,0,none⟩) 1 1] (((w.alloc (.cells #[.slice none 0 0] 93)).alloc (.cells #[.func (.func 154) #[] #[.pointer (some ⟨w.heap.size,0,none⟩)]] 152)).alloc (.cells #[.int .i64 7,.func (.func 93) #[] #[.pointer (some ⟨w.heap.size+1,0,none⟩)]] 154)) fun e w'=>e = .returned (.agg #[.int .i64 (A0k B2l [7] 0 l []).1,.int .i64 (((A0k B2l [7] 0 l []).2:Nat):Int)])∧Below w.heap.size w w':=by
 obtain⟨W3,ac⟩:∃ W3,Hid (W3=((w.alloc (.cells #[.slice none 0 0] 93)).alloc (.cells #[.func (.func 154) #[] #[.pointer (some ⟨w.heap.size,0,none⟩)]] 152)).alloc (.cells #[.int .i64 7,.func (.func 93) #[] #[.pointer (some ⟨w.heap.size+1,0,none⟩)]] 154)):=⟨_,rfl⟩
 have hz:W3.heap.size=w.heap.size+3:=by rw[ac.out];simp
 have hb:Below w.heap.size w W3:=by rw[ac.out];exact(((Below.refl _ _).alloc (Nat.le_refl _) _).alloc (by simp) _).alloc (by simp;omega) _
 obtain⟨a3,a2,a1⟩:=B6b w (.cells #[.slice none 0 0] 93) (.cells #[.func (.func 154) #[] #[.pointer (some ⟨w.heap.size,0,none⟩)]] 152) (.cells #[.int .i64 7,.func (.func 93) #[] #[.pointer (some ⟨w.heap.size+1,0,none⟩)]] 154)
 rw[←ac.out] at a1 a2 a3 ⊢
 have hB:=B4y (B:=W3.heap.size) (B0:=w.heap.size) (cs:=[w.heap.size]) (w:=W3) (l:=l) (rs:=[⟨7,93,#[.pointer (some ⟨w.heap.size+1,0,none⟩)]⟩]) (g:=w.heap.size+2) B2l (fun k j s W=>SSt W W3.heap.size w.heap.size (w.heap.size+1) s∧s.length≤k+j) []
  (fun W hW=>hl.below SAt.stays (hb.trans hW)) a3 (by simp) (by omega) (Nat.le_refl _) (by simp) (by simp;omega) (by simp) ?_ ⟨⟨⟨_,a1,Row.nil _ _ _⟩,a2,by omega⟩,by simp⟩ (fun k j s W W' hW hI hb'=>⟨hI.1.below hb',hI.2⟩) (fun k s W _ hI=>⟨hI.1,hI.2⟩) ?_
 ·refine hB.mono ?_
  rintro e w' ⟨rfl,hF⟩
  exact⟨rfl,hb.trans (hF.below (by omega) (by omega) (by simp))⟩
 ·intro r hr args w'
  rw[List.mem_singleton] at hr
  subst hr
  exact enters_of Tryz.func93 (by kernel_rfl) rfl args w'
 ·intro k j r f s W hf hr ag _ hI
  have hj:j=0:=by
   cases j with
   | zero=>rfl
   | succ j=>simp at hr
  subst hj
  have hr:r=⟨7,93,#[.pointer (some ⟨w.heap.size+1,0,none⟩)]⟩:=by simpa using hr.symm
  subst hr
  have hk:=(List.getElem?_eq_some_iff.1 hf).1
  refine(B2f hI.1 ag (by have:=hI.2;omega) (by omega) f (hs f (A2v hf))).mono ?_
  rintro e W' ⟨rfl,h1,h2⟩
  refine⟨rfl,fun e=>⟨h1 e,?_⟩,h2⟩
  have:(A6q f s).length≤s.length+1:=by unfold A6q;split <;> simp
  have h3:=hI.2
  show(A6q f s).length≤k+(0+1)
  omega
open Go.RowKit
def A4i (w:World):List Obj→World
 | []=>w
 | o::os=>A4i (w.alloc o) os
theorem A6e:∀ (os:List Obj) (w:World),(A4i w os).heap.size=w.heap.size+os.length
 | [],w=>rfl
 | o::os,w=>by rw[A4i,A6e os];simp;omega
theorem A2m:∀ (os:List Obj) (w:World),Below w.heap.size w (A4i w os)
 | [],w=>Below.refl _ _
 | o::os,w=>by
  rw[A4i]
  exact((Below.refl _ _).alloc (Nat.le_refl _) o).trans ((A2m os (w.alloc o)).mono (by simp))
theorem A8y:∀ (os:List Obj) (w:World) (i:Nat) (o:Obj),os[i]?=some o→(A4i w os).heap[w.heap.size+i]?=some o
 | [],_,_,_,h=>by simp at h
 | p::os,w,i,o,h=>by
  rw[A4i]
  cases i with
  | zero=>
   simp at h
   subst h
   rw[(A2m os (w.alloc p)).block _ (by simp)]
   exact heap_alloc_new w p
  | succ i=>
   have h':os[i]?=some o:=by simpa using h
   have:=A8y os (w.alloc p) i o h'
   rw[show w.heap.size+(i+1)=(w.alloc p).heap.size+i by simp;omega]
   exact this
structure FrT (T:TypeId) (B c:Nat) (w w':World):Prop where
 os:w'.os=w.os
 tape:w'.tape=w.tape
 output:w'.output=w.output
 size:w.heap.size≤w'.heap.size
 block:∀ k,k < w.heap.size→k≠c→(k < B∨∀ xs fr,w.heap[k]?≠some (.cells xs T fr))→w'.heap[k]?=w.heap[k]?
theorem FrT.fr {T:TypeId}{B c:Nat}{cs:List Nat}{w w':World}(h:FrT T B c w w') (hT:T=9∨T=3) (hc:c∈cs):Fr B cs w w':=
 ⟨h.os,h.tape,h.output,h.size,fun k hk ac hq=>h.block k hk (fun e=>ac (e▸hc)) (by
  rcases hq with hq|hq
  ·exact .inl hq
  ·right
   intro xs fr
   rcases hT with rfl|rfl
   ·exact(hq xs fr).1
   ·exact(hq xs fr).2)⟩
theorem FrT.of_upd {α:Type}{E:EK α}{B c:Nat}{v:Value}{l:List α}{w w':World}(hr:Row E w B v l) (hu:Upd c v.ownBlock w w'):FrT E.elem B c w w':=by
 refine⟨hu.os,hu.tape,hu.output,hu.size,fun k hk ac hq=>hu.block k hk ac ?_⟩
 intro e
 have hown:=hr.own k e
 rcases hr.2 with⟨hv,_⟩|⟨g,cap,cur,hv,_,hg,_⟩
 ·rw[hv] at e;simp[Value.ownBlock] at e
 ·rw[hv] at e
  have e:g=k:=by simpa [Value.ownBlock] using e
  subst e
  rcases hq with hq|hq
  ·omega
  ·exact hq cur (0,0) hg
theorem Row.frt {α:Type}{E:EK α}{w w':World}{B c:Nat}{T:TypeId}{v:Value}{l:List α}(h:Row E w B v l) (hF:FrT T B c w w') (hc:c < B) (hT:E.elem≠T):Row E w' B v l:=by
 refine⟨h.1,?_⟩
 rcases h.2 with hn|⟨g,cap,cur,hv,hbg,hg,r⟩
 ·exact .inl hn
 ·refine .inr ⟨g,cap,cur,hv,hbg,?_,r⟩
  rw[hF.block g (Array.getElem?_eq_some_iff.1 hg).1 (by omega) ?_]
  ·exact hg
  ·right
   intro xs fr
   rw[hg]
   simp
   intro _ e
   exact absurd e hT
structure NSt (W:World) (B c p:Nat) (l:List Int):Prop where
 row:∃ v,W.heap[c]?=some (.cells #[v] 30 (0,0))∧Row ekN W B v l
 fn:W.heap[p]?=some (.cells #[.func (.func 214) #[] #[.pointer (some ⟨c,0,none⟩)]] 67 (0,0))
 lt:c < B
theorem NSt.below {W W':World}{B c p:Nat}{l:List Int}(h:NSt W B c p l) (hb:Below W.heap.size W W'):NSt W' B c p l:=by
 obtain⟨⟨v,h1,h2⟩,h3,h4⟩:=h
 exact⟨⟨v,(hb.block c (Array.getElem?_eq_some_iff.1 h1).1).trans h1,h2.below hb⟩,(hb.block p (Array.getElem?_eq_some_iff.1 h3).1).trans h3,h4⟩
theorem A1v {T:TypeId}{B c k:Nat}{w w':World}{o:Obj}(hF:FrT T B c w w') (hk:w.heap[k]?=some o) (hc:k≠c) (hB:k < B):w'.heap[k]?=some o:=
 (hF.block k (Array.getElem?_eq_some_iff.1 hk).1 hc (.inl hB)).trans hk
theorem NSt.frt {W W':World}{B c p d:Nat}{l:List Int}(h:NSt W B c p l) (hF:FrT 9 B d W W') (hd:d < B) (hc:c≠d) (hp:p≠d) (ac:p < B):NSt W' B c p l:=by
 obtain⟨⟨v,h1,h2⟩,h3,h4⟩:=h
 exact⟨⟨v,A1v hF h1 hc h4,h2.frt hF hd (by decide)⟩,A1v hF h3 hp ac,h4⟩
theorem SSt.frt {W W':World}{B c p d:Nat}{l:List (List UInt8)}(h:SSt W B c p l) (hF:FrT 3 B d W W') (hd:d < B) (hc:c≠d) (hp:p≠d) (ac:p < B):SSt W' B c p l:=by
 obtain⟨⟨v,h1,h2⟩,h3,h4⟩:=h
 exact⟨⟨v,A1v hF h1 hc h4,h2.frt hF hd (by decide)⟩,A1v hF h3 hp ac,h4⟩
theorem SSt.call2 {W:World}{B c p:Nat}{l:List (List UInt8)}(h:SSt W B c p l) (hB:B≤W.heap.size) (hl:l.length≤1000) (hp:p≠c) (ac:p < B) (x:List UInt8) :
  Calls Tryz.prog 154 #[.string (S x),.pointer (some ⟨c,0,none⟩)] W fun e W'=>e = .returned (.bool (decide (x∈l)))∧SSt W' B c p (A6q x l)∧FrT 9 B c W W':=by
 obtain⟨⟨v,h1,h2⟩,h3,h4⟩:=h
 refine(A8x h1 h2 h4 hB hl x).mono ?_
 rintro e W' ⟨rfl,v',k1,k2,hu⟩
 have hF:FrT 9 B c W W':=FrT.of_upd h2 hu
 exact⟨rfl,⟨⟨v',k1,k2⟩,A1v hF h3 hp ac,h4⟩,hF⟩
theorem NSt.call2 {W:World}{B c p:Nat}{l:List Int}(h:NSt W B c p l) (hB:B≤W.heap.size) (hl:l.length≤1000) (hp:p≠c) (ac:p < B) (x:Int) :
  Calls Tryz.prog 214 #[.int .i64 x,.pointer (some ⟨c,0,none⟩)] W fun e W'=>e = .returned (.bool (decide (x∈l)))∧NSt W' B c p (A6q x l)∧FrT 3 B c W W':=by
 obtain⟨⟨v,h1,h2⟩,h3,h4⟩:=h
 refine(B4r h1 h2 h4 hB hl x).mono ?_
 rintro e W' ⟨rfl,v',k1,k2,hu⟩
 have hF:FrT 3 B c W W':=FrT.of_upd h2 hu
 exact⟨rfl,⟨⟨v',k1,k2⟩,A1v hF h3 hp ac,h4⟩,hF⟩
def C9u (b:Nat):List Ru:=[⟨7,172,#[.pointer (some ⟨b+3,0,none⟩)]⟩,⟨3,173,#[]⟩,⟨8,174,#[.pointer (some ⟨b,0,none⟩),.pointer (some ⟨b+4,0,none⟩)]⟩]
def B3i (b:Nat) (n:Int):List Obj:=[.cells #[.int .i64 n] 3,.cells #[.slice none 0 0] 93,.cells #[.slice none 0 0] 30,.cells #[.func (.func 154) #[] #[.pointer (some ⟨b+1,0,none⟩)]] 152,.cells #[.func (.func 214) #[] #[.pointer (some ⟨b+2,0,none⟩)]] 67,.cells (A5j (C9u b)) 227]
theorem B2a (n:Int) (w:World):Calls Tryz.prog 101 #[.int .i64 n] w fun e w'=>e = .returned (.slice (some ⟨w.heap.size+5,0,none⟩) 3 3)∧A4i w (B3i w.heap.size n)=w':=by
 have ac:=A3i
 go_enter Tryz.func101,Tryz.ntmps101
 go_wp2_with fail
 refine(A7t _).mono ?_
 rintro e w1 ⟨rfl,rfl⟩
 go_wp2_with fail
 refine(B0z _).mono ?_
 rintro e w1 ⟨rfl,rfl⟩
 go_wp2
 go_ret
 exact⟨rfl,rfl⟩
structure ISt (W:World) (B b:Nat) (n:Int) (s:List (List UInt8)×List Int):Prop where
 names:SSt W B (b+1) (b+3) s.1
 vals:NSt W B (b+2) (b+4) s.2
 first:W.heap[b]?=some (.cells #[.int .i64 n] 3 (0,0))
 lt:b+5 < B
theorem ISt.below {W W':World}{B b:Nat}{n:Int}{s:List (List UInt8)×List Int}(h:ISt W B b n s) (hb:Below W.heap.size W W'):ISt W' B b n s:=
 ⟨h.names.below hb,h.vals.below hb,(hb.block b (Array.getElem?_eq_some_iff.1 h.first).1).trans h.first,h.lt⟩
def A4b (n:Int):Nat→II→List (List UInt8)×List Int→Bool×(List (List UInt8)×List Int)
 | 0,x,s=>(!A5g x.name||decide (x.name∈s.1),(A6q x.name s.1,s.2))
 | 1,x,s=>(decide (x.value < -2147483648)||decide (2147483647 < x.value),s)
 | _,x,s=>(decide (n≠0)||decide (x.value∈s.2),(s.1,A6q x.value s.2))
theorem C1j {W:World}{B b:Nat}{n:Int}{s:List (List UInt8)×List Int}(h:ISt W B b n s) (hB:B≤W.heap.size) (hl:s.1.length≤1000) (x:II) (hx:x.name.length≤9223372036854775807) :
  Calls Tryz.prog 172 #[iv x,.pointer (some ⟨b+3,0,none⟩)] W fun e W'=>e = .returned (.bool (A4b n 0 x s).1)∧((A4b n 0 x s).1=false→ISt W' B b n (A4b n 0 x s).2)∧Fr B [b+1,b+2] W W':=by
 have ac:=(Below.refl W.heap.size W).alloc (Nat.le_refl _) (.cells #[.string (S x.name),.int .i64 x.value] 162)
 have h1:=h.below ac
 have c0:(W.alloc (.cells #[.string (S x.name),.int .i64 x.value] 162)).cell? ⟨b+3,0,none⟩=some (.func (.func 154) #[] #[.pointer (some ⟨b+1,0,none⟩)]):=A0a h1.names.fn 0 _ rfl
 have ag:=A9p x.name hx (W.alloc (.cells #[.string (S x.name),.int .i64 x.value] 162))
 have hlt:=h.lt
 have hcc:=h1.names.call2 (Nat.le_trans hB ac.size) hl (by omega) (by omega) x.name
 unfold iv
 cases hq:A5g x.name with
 | false=>
  have HN:Hid ((A4b n 0 x s).1=true):=by show _=_;rw[A4b,hq];rfl
  rw[hq] at ag
  clear hq hcc
  go_enter Tryz.func172,Tryz.ntmps172
  go_wp2_with fail
  refine ag.mono ?_
  rintro e w1 ⟨rfl,rfl⟩
  go_wp2
  go_ret
  refine⟨by rw[HN.out];rfl,fun e=>?_,Fr.of_below ac⟩
  rw[HN.out] at e;cases e
 | true=>
  have HN:Hid ((A4b n 0 x s).1=decide (x.name∈s.1)):=by show _=_;rw[A4b,hq];rfl
  rw[hq] at ag
  clear hq
  go_enter Tryz.func172,Tryz.ntmps172
  go_wp2_with fail
  refine ag.mono ?_
  rintro e w1 ⟨rfl,rfl⟩
  go_wp2_with fail
  refine hcc.mono ?_
  rintro e w2 ⟨rfl,h2,hF⟩
  go_wp2
  go_ret
  refine⟨by rw[HN.out];rfl,fun _=>⟨h2,h1.vals.frt hF (by omega) (by omega) (by omega) (by omega),A1v hF h1.first (by omega) (by omega),hlt⟩,(Fr.of_below ac).trans (hF.fr (.inl rfl) (by simp))⟩
theorem C1k {W:World}{B b:Nat}{n:Int}{s:List (List UInt8)×List Int}(h:ISt W B b n s) (x:II) :
  Calls Tryz.prog 173 #[iv x] W fun e W'=>e = .returned (.bool (A4b n 1 x s).1)∧((A4b n 1 x s).1=false→ISt W' B b n (A4b n 1 x s).2)∧Fr B [b+1,b+2] W W':=by
 have ac:=(Below.refl W.heap.size W).alloc (Nat.le_refl _) (.cells #[.string (S x.name),.int .i64 x.value] 162)
 have h1:=h.below ac
 unfold iv
 obtain⟨q1,ag⟩:∃ q,decide (x.value < -2147483648)=q:=⟨_,rfl⟩
 obtain⟨q2,ah⟩:∃ q,decide (2147483647 < x.value)=q:=⟨_,rfl⟩
 have HN:Hid ((A4b n 1 x s).1=(q1||q2)):=by show _=_;rw[A4b,ag,ah]
 cases q1 <;> cases q2
 all_goals simp only[decide_eq_true_eq,decide_eq_false_iff_not] at ag ah
 all_goals first|(exfalso;omega)|skip
 all_goals go_enter Tryz.func173,Tryz.ntmps173
 all_goals go_wp2
 all_goals go_ret
 all_goals exact⟨by rw[HN.out];rfl,fun _=>h1,Fr.of_below ac⟩
theorem C1l {W:World}{B b:Nat}{n:Int}{s:List (List UInt8)×List Int}(h:ISt W B b n s) (hB:B≤W.heap.size) (hl:s.2.length≤1000) (x:II) :
  Calls Tryz.prog 174 #[iv x,.pointer (some ⟨b,0,none⟩),.pointer (some ⟨b+4,0,none⟩)] W fun e W'=>e = .returned (.bool (A4b n 2 x s).1)∧((A4b n 2 x s).1=false→ISt W' B b n (A4b n 2 x s).2)∧Fr B [b+1,b+2] W W':=by
 have ac:=(Below.refl W.heap.size W).alloc (Nat.le_refl _) (.cells #[.string (S x.name),.int .i64 x.value] 162)
 have h1:=h.below ac
 have c0:(W.alloc (.cells #[.string (S x.name),.int .i64 x.value] 162)).cell? ⟨b+4,0,none⟩=some (.func (.func 214) #[] #[.pointer (some ⟨b+2,0,none⟩)]):=A0a h1.vals.fn 0 _ rfl
 have c1:(W.alloc (.cells #[.string (S x.name),.int .i64 x.value] 162)).cell? ⟨b,0,none⟩=some (.int .i64 n):=A0a h1.first 0 _ rfl
 have hlt:=h.lt
 have hcc:=h1.vals.call2 (Nat.le_trans hB ac.size) hl (by omega) (by omega) x.value
 unfold iv
 obtain⟨q1,ag⟩:∃ q,(n != 0)=q:=⟨_,rfl⟩
 have HN:Hid ((A4b n 2 x s).1=(q1||decide (x.value∈s.2))):=by
  have e:decide (n≠0)=(n != 0):=by rw[Bool.eq_iff_iff];simp
  show(decide (n≠0)||decide (x.value∈s.2))=_
  rw[e,ag]
 cases q1 with
 | true=>
  clear hcc
  go_enter Tryz.func174,Tryz.ntmps174
  go_wp2
  go_ret
  refine⟨by rw[HN.out];rfl,fun e=>?_,Fr.of_below ac⟩
  rw[HN.out] at e;cases e
 | false=>
  go_enter Tryz.func174,Tryz.ntmps174
  go_wp2_with fail
  refine hcc.mono ?_
  rintro e w2 ⟨rfl,h2,hF⟩
  go_wp2
  go_ret
  refine⟨by rw[HN.out];rfl,fun _=>⟨h1.names.frt hF (by omega) (by omega) (by omega) (by omega),h2,A1v hF h1.first (by omega) (by omega),hlt⟩,(Fr.of_below ac).trans (hF.fr (.inr rfl) (by simp))⟩
open Go.RowKit
def C6y (n:Int):Bool:=decide (1≤n)&&(decide (n < 536870912)&&(decide (n < 19000)||decide (19999 < n)))
theorem C8a (n:Int) (w:World):Calls Tryz.prog 163 #[.int .i64 n] w fun e w'=>e = .returned (.bool (C6y n))∧w=w':=by
 obtain⟨q1,ac⟩:∃ q,decide (1≤n)=q:=⟨_,rfl⟩
 obtain⟨q2,ag⟩:∃ q,decide (n < 536870912)=q:=⟨_,rfl⟩
 obtain⟨q3,ah⟩:∃ q,decide (n < 19000)=q:=⟨_,rfl⟩
 obtain⟨q4,aj⟩:∃ q,decide (19999 < n)=q:=⟨_,rfl⟩
 have HN:Hid (C6y n=(q1&&(q2&&(q3||q4)))):=by show _=_;rw[C6y,ac,ag,ah,aj]
 cases q1 <;> cases q2 <;> cases q3 <;> cases q4
 all_goals simp only[decide_eq_true_eq,decide_eq_false_iff_not] at ac ag ah aj
 all_goals first|(exfalso;omega)|skip
 all_goals go_enter Tryz.func163,Tryz.ntmps163
 all_goals go_wp2
 all_goals go_ret
 all_goals exact⟨by rw[HN.out];rfl,rfl⟩
def B6h (g:GI) (x:FI):Bool:=if x.kind=10 then decide (0≤A0m (fun m=>decide (m.name=x.type)) g.msgs) else if x.kind=5 then decide (0≤A0m (fun m=>decide (m.name=x.type)) g.enums) else true
theorem B5h {w:World}{vm ve:Value}{g:GI}(h:GRd w vm ve g) (x:FI):Calls Tryz.prog 168 #[.agg #[vm,ve],fv x] w fun e w'=>e = .returned (.bool (B6h g x))∧Below w.heap.size w w':=by
 obtain⟨am,nm,cm,rfl,aj,hcm⟩:=h.1.shape
 obtain⟨ae,ne,ce,rfl,ah,hce⟩:=h.2.shape
 have hb2:Below w.heap.size w ((w.alloc (.cells #[.slice am nm cm,.slice ae ne ce] 25)).alloc (.cells #[.string (S x.name),.int .i64 x.number,.int .i64 x.kind,.string (S x.type),.bool x.many,.int .i64 x.choice] 40)):=((Below.refl _ _).alloc (Nat.le_refl _) _).alloc (by simp) _
 have h2:=h.below hb2
 have ac:=A2c h2.1 ⟨ae,ne,ce,rfl⟩ x.type
 have hen:=A6x h2.2 ⟨am,nm,cm,rfl⟩ x.type
 unfold fv
 by_cases h10:x.kind=10
 ·have HN:Hid (B6h g x=decide (0≤A0m (fun m=>decide (m.name=x.type)) g.msgs)):=by show _=_;rw[B6h,if_pos h10]
  have hk:(x.kind == 10)=true:=by simp[h10]
  generalize A0m (fun m=>decide (m.name=x.type)) g.msgs=r at ac HN
  clear h10 hen
  go_enter Tryz.func168,Tryz.ntmps168
  go_wp2_with fail
  refine ac.mono ?_
  rintro e w1 ⟨rfl,hb1⟩
  go_wp2
  go_ret
  exact⟨by rw[HN.out];rfl,hb2.trans (hb1.mono hb2.size)⟩
 ·have hk:(x.kind == 10)=false:=by simp[h10]
  by_cases h5:x.kind=5
  ·have HN:Hid (B6h g x=decide (0≤A0m (fun m=>decide (m.name=x.type)) g.enums)):=by show _=_;rw[B6h,if_neg h10,if_pos h5]
   have ag:(x.kind == 5)=true:=by simp[h5]
   generalize A0m (fun m=>decide (m.name=x.type)) g.enums=r at hen HN
   clear h10 h5 ac
   go_enter Tryz.func168,Tryz.ntmps168
   go_wp2_with fail
   refine hen.mono ?_
   rintro e w1 ⟨rfl,hb1⟩
   go_wp2
   go_ret
   exact⟨by rw[HN.out];rfl,hb2.trans (hb1.mono hb2.size)⟩
  ·have HN:Hid (B6h g x=true):=by show _=_;rw[B6h,if_neg h10,if_neg h5]
   have ag:(x.kind == 5)=false:=by simp[h5]
   clear h10 h5 ac hen
   go_enter Tryz.func168,Tryz.ntmps168
   go_wp2
   go_ret
   exact⟨by rw[HN.out];rfl,hb2⟩
def B3q (x:FI):Bool:=decide (x.kind≠10)&&(decide (x.kind≠5)&&!x.type.isEmpty)
theorem B3r (x:FI) (w:World):Calls Tryz.prog 170 #[fv x] w fun e w'=>e = .returned (.bool (B3q x))∧Below w.heap.size w w':=by
 have ac:=(Below.refl w.heap.size w).alloc (Nat.le_refl _) (.cells #[.string (S x.name),.int .i64 x.number,.int .i64 x.kind,.string (S x.type),.bool x.many,.int .i64 x.choice] 40)
 obtain⟨q1,ag⟩:∃ q,(x.kind != 10)=q:=⟨_,rfl⟩
 obtain⟨q2,ah⟩:∃ q,(x.kind != 5)=q:=⟨_,rfl⟩
 obtain⟨q3,aj⟩:∃ q,(S x.type).toList.isEmpty=q:=⟨_,rfl⟩
 have HN:Hid (B3q x=(q1&&(q2&&!q3))):=by
  have e1:decide (x.kind≠10)=(x.kind != 10):=by rw[Bool.eq_iff_iff];simp
  have e2:decide (x.kind≠5)=(x.kind != 5):=by rw[Bool.eq_iff_iff];simp
  show _=_;rw[B3q,e1,e2,ag,ah,←aj,A1x]
 unfold fv
 cases q1 <;> cases q2 <;> cases q3
 all_goals go_enter Tryz.func170,Tryz.ntmps170
 all_goals go_wp2
 all_goals go_ret
 all_goals exact⟨by rw[HN.out];rfl,ac⟩
end L
end Go.Proofs.YtgaoojpakjjdnaaGreatDoor
