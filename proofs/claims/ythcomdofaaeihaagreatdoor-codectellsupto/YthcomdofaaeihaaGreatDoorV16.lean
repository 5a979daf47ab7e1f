import Derived.Test.YthcomdofaaeihaaGreatDoorV07
import Derived.Test.YthcomdofaaeihaaGreatDoorV01
import Derived.Test.YthcomdofaaeihaaGreatDoorV03
import Derived.Deep.DrawnRows
import Derived.Sort.OwnSortedInts
set_option maxHeartbeats 32000000
set_option maxRecDepth 100000
set_option linter.unusedVariables false
namespace Go.Proofs.YthcomdofaaeihaaGreatDoor
namespace L
open Go.RowKit
variable{α β:Type}{how a x:Int}{len k f base X B A cap C b n c m d p g:Nat}{W' w' V V' W w:World}{vl v:Value}{ao:Option Addr}{T:TypeId}{acc:List Nat}{l:List UInt8}{E:EK α}
theorem Qg3{P:Prop}(h:P:=by
 go_wp2;go_ret;exact⟨rfl,rfl⟩):P:=h
theorem B5z (w:World):Calls Tryz.prog 40 #[] w fun e w'=>e = .returned (.slice (some ⟨w.heap.size+2,0,none⟩) 1 1)∧((w.alloc (.cells #[.slice none 0 0] 85)).alloc (.cells #[.func (.func 152) #[] #[.pointer (some ⟨w.heap.size,0,none⟩)]] 101)).alloc (.cells #[.int .i64 7,.func (.func 90) #[] #[.pointer (some ⟨w.heap.size+1,0,none⟩)]] 146)=w':=by
 have ac:=tM;go_enter Tryz.func40,Tryz.ntmps40;go_wp2_with fail
 refine(SD w).mono ?_;rintro e w1 ⟨rfl,rfl⟩;exact Qg3
theorem D6n (w:World)(o1 o2 o3:Obj):(((w.alloc o1).alloc o2).alloc o3).heap[w.heap.size+2]?=some o3∧(((w.alloc o1).alloc o2).alloc o3).heap[w.heap.size+1]?=some o2∧(((w.alloc o1).alloc o2).alloc o3).heap[w.heap.size]?=some o1:=by
 refine⟨?_,?_,?_⟩
 ·have:=yM ((w.alloc o1).alloc o2) o3
  rwa [show((w.alloc o1).alloc o2).heap.size=w.heap.size+2 by simp] at this
 ·rw[wT _ _ _ (by simp)];exact pX _ _ _
 rw[wT _ _ _ (by simp;omega)];exact oP _ _ _
structure SSt (W:World) (B c p:Nat) (l:List (List UInt8)):Prop where
 row:∃ v,W.heap[c]?=some (.cells #[v] 85 (0,0))∧Row ekS W B v l
 fn:W.heap[p]?=some (.cells #[.func (.func 152) #[] #[.pointer (some ⟨c,0,none⟩)]] 101 (0,0))
 lt:c<B
theorem Qh0{P:Prop}(h:P:=by
 obtain⟨⟨v,h1,h2⟩,h3,h4⟩:=h;exact⟨⟨v,(hb.block c (zR h1)).trans h1,h2.bL hb⟩,(hb.block p (zR h3)).trans h3,h4⟩):P:=h
theorem SSt.bL {l:List (List UInt8)}(h:SSt W B c p l)(hb:zB W W'):SSt W' B c p l:=by
 exact Qh0
theorem SSt.call {l:List (List UInt8)}(h:SSt W B c p l)(hB:B≤W.heap.size)(hl:l.length≤1000)(cs:List Nat)(hc:c∈cs)(hp:p∉cs)(x:List UInt8) :
  Calls Tryz.prog 152 #[.string (S x),.pointer (some ⟨c,0,none⟩)] W fun e W'=>e = .returned (.bool (decide (x∈l)))∧SSt W' B c p (vM x l)∧Fr B cs W W':=by
 obtain⟨⟨v,h1,h2⟩,h3,h4⟩:=h;refine(B1o h1 h2 h4 hB hl x).mono ?_;rintro e W' ⟨rfl,v',k1,k2,hu⟩;have hF:Fr B cs W W':=by
  refine⟨hu.os,hu.tape,hu.output,hu.size,fun k hk ac hq=>hu.block k hk (fun e=>ac (e▸hc)) ?_⟩;intro e;have hown:=h2.own k e;rcases h2.2 with⟨hv,_⟩|⟨g,cap,cur,hv,_,hg,_⟩
  ·rw[hv] at e;simp[Value.ownBlock] at e
  rw[hv] at e;have e:g=k:=by simpa [Value.ownBlock] using e
  subst e;rcases hq with hq|hq
  ·omega
  exact(hq cur (0,0)).1 hg
 exact⟨rfl,⟨⟨v',k1,k2⟩,hF.keep h3 hp (by decide),h4⟩,hF⟩
def nN (s:List UInt8)(l:List (List UInt8)):Bool:=!sM s||(keptB s||decide (s∈l))
theorem B5y {l:List (List UInt8)}(h:SSt W B c p l)(hB:B≤W.heap.size)(hl:l.length≤1000)(hp:p≠c)(s:List UInt8)(hs:s.length≤9223372036854775807) :
  Calls Tryz.prog 90 #[.string (S s),.pointer (some ⟨p,0,none⟩)] W fun e W'=>e = .returned (.bool (nN s l))∧(nN s l=false→SSt W' B c p (vM s l))∧Fr B [c] W W':=by
 have c0:W.cell? ⟨p,0,none⟩=some (.func (.func 152) #[] #[.pointer (some ⟨c,0,none⟩)]):=zL h.fn 0 _ rfl;have ag:=TG s hs W;have ac:=C5a s W;go_enter Tryz.func90,Tryz.ntmps90;go_wp2_with fail
 refine ag.mono ?_;rintro e w1 ⟨rfl,rfl⟩;cases hq:sM s with
 | false=>
  have HN:Hid (nN s l=true):=by show _=_;rw[nN,hq];rfl
  clear hq ag ac;go_wp2;go_ret;refine⟨by rw[HN.out];rfl,fun e=>?_,Fr.refl _ _ _⟩;rw[HN.out] at e;cases e
 | true=>
 go_wp2_with fail
 refine ac.mono ?_;rintro e w2 ⟨rfl,hb2⟩;cases hk:keptB s with
 | true=>
  have HN:Hid (nN s l=true):=by show _=_;rw[nN,hq,hk];rfl
  clear hq ag ac hk;go_wp2;go_ret;refine⟨by rw[HN.out];rfl,fun e=>?_,Fr.of_below hb2⟩;rw[HN.out] at e;cases e
 | false=>
 have HN:Hid (nN s l=decide (s∈l)):=by show _=_;rw[nN,hq,hk];rfl
 have h2:=h.bL hb2;have c2:w2.cell? ⟨p,0,none⟩=some (.func (.func 152) #[] #[.pointer (some ⟨c,0,none⟩)]):=zL h2.fn 0 _ rfl;have hcc:=h2.call (yN hB hb2.size) hl [c] (by simp) (by simpa using hp) s;clear hq ag ac hk c0;go_wp2_with fail
 refine hcc.mono ?_;rintro e w3 ⟨rfl,h3,ah⟩;go_wp2;go_ret;exact⟨by rw[HN.out];rfl,fun _=>h3,(Fr.of_below hb2).trans ah⟩
def pJ:Nat→List UInt8→List (List UInt8)→Bool×List (List UInt8):=fun _ s l=>(nN s l,vM s l)
theorem B8b {l:List (List UInt8)}(hl:RdL 1 SAt w vl l)(hn:l.length≤1000)(hs:∀ s∈l,s.length≤9223372036854775807) :
  Calls Tryz.prog 38 #[vl,.slice (some ⟨w.heap.size+2,0,none⟩) 1 1] (((w.alloc (.cells #[.slice none 0 0] 85)).alloc (.cells #[.func (.func 152) #[] #[.pointer (some ⟨w.heap.size,0,none⟩)]] 101)).alloc (.cells #[.int .i64 7,.func (.func 90) #[] #[.pointer (some ⟨w.heap.size+1,0,none⟩)]] 146)) fun e w'=>e = .returned (.agg #[.int .i64 (xC pJ [7] 0 l []).1,.int .i64 (((xC pJ [7] 0 l []).2:Nat):Int)])∧zB w w':=by
 obtain⟨W3,ac⟩:=zM (((w.alloc (.cells #[.slice none 0 0] 85)).alloc (.cells #[.func (.func 152) #[] #[.pointer (some ⟨w.heap.size,0,none⟩)]] 101)).alloc (.cells #[.int .i64 7,.func (.func 90) #[] #[.pointer (some ⟨w.heap.size+1,0,none⟩)]] 146));have hz:W3.heap.size=w.heap.size+3:=by rw[ac.out];simp
 have hb:zB w W3:=by rw[ac.out];exact(((zH _ _).alloc (zG _) _).alloc (by simp) _).alloc (by simp;omega) _
 obtain⟨a3,a2,a1⟩:=D6n w (.cells #[.slice none 0 0] 85) (.cells #[.func (.func 152) #[] #[.pointer (some ⟨w.heap.size,0,none⟩)]] 101) (.cells #[.int .i64 7,.func (.func 90) #[] #[.pointer (some ⟨w.heap.size+1,0,none⟩)]] 146);rw[←ac.out] at a1 a2 a3 ⊢;have hB:=B9t (B:=W3.heap.size) (B0:=w.heap.size) (cs:=[w.heap.size]) (w:=W3) (l:=l) (rs:=[⟨7,90,#[.pointer (some ⟨w.heap.size+1,0,none⟩)]⟩]) (g:=w.heap.size+2) pJ (fun k j s W=>SSt W W3.heap.size w.heap.size (w.heap.size+1) s∧s.length≤k+j) []
  (fun W hW=>hl.bL SAt.sT (hb.trans hW)) a3 (by simp) (by omega) (zG _) (by simp) (by simp;omega) (by simp) ?_ ⟨⟨⟨_,a1,Row.nil _ _ _⟩,a2,by omega⟩,by simp⟩ (fun k j s W W' hW hI hb'=>⟨hI.1.bL hb',hI.2⟩) (fun k s W _ hI=>⟨hI.1,hI.2⟩) ?_
 ·refine hB.mono ?_;rintro e w' ⟨rfl,hF⟩;exact⟨rfl,hb.trans (hF.bL (by omega) (by omega) (by simp))⟩
 ·intro r hr args w';rw[zS] at hr;subst hr;exact enters_of Tryz.func90 (by kernel_rfl) rfl args w'
 intro k j r f s W hf hr ag _ hI;have hj:j=0:=by
  cases j with
  | zero=>rfl
  | succ j=>simp at hr
 subst hj;have hr:r=⟨7,90,#[.pointer (some ⟨w.heap.size+1,0,none⟩)]⟩:=by simpa using hr.symm
 subst hr;have hk:=(yG.1 hf).1;refine(B5y hI.1 ag (by have:=hI.2;omega) (by omega) f (hs f (uO hf))).mono ?_;rintro e W' ⟨rfl,h1,h2⟩;refine⟨rfl,fun e=>⟨h1 e,?_⟩,h2⟩;have:(vM f s).length≤s.length+1:=by unfold vM;split <;> simp
 have h3:=hI.2;show(vM f s).length≤k+(0+1);omega
def pQ (w:World):List Obj→World
 | []=>w
 | o::os=>pQ (w.alloc o) os
theorem SI:∀ (os:List Obj) (w:World),(pQ w os).heap.size=w.heap.size+os.length
 | [],w=>rfl
 | o::os,w=>by rw[pQ,SI os];simp;omega
theorem fZ:∀ (os:List Obj) (w:World),zB w (pQ w os)
 | [],w=>zH _ _
 | o::os,w=>by
  rw[pQ]
  exact((zH _ _).alloc (zG _) o).trans ((fZ os (w.alloc o)).mono (by simp))
theorem TP:∀ (os:List Obj) (w:World) (i:Nat) (o:Obj),os[i]?=some o→(pQ w os).heap[w.heap.size+i]?=some o
 | [],_,_,_,h=>by simp at h
 | p::os,w,i,o,h=>by
  rw[pQ]
  cases i with
  | zero=>
   simp at h
   subst h
   rw[(fZ os (w.alloc p)).block _ (by simp)]
   exact yM w p
  | succ i=>
   have h':os[i]?=some o:=by simpa using h
   have:=TP os (w.alloc p) i o h'
   rw[show w.heap.size+(i+1)=(w.alloc p).heap.size+i by simp;omega]
   exact this
structure FrT (T:TypeId) (B c:Nat) (w w':World):Prop where
 os:w'.os=w.os
 tape:w'.tape=w.tape
 output:w'.output=w.output
 size:w.heap.size≤w'.heap.size
 block:∀ k,k<w.heap.size→k≠c→(k<B∨∀ xs fr,w.heap[k]?≠some (.cells xs T fr))→w'.heap[k]?=w.heap[k]?
theorem FrT.fr {cs:List Nat}(h:FrT T B c w w')(hT:T=9∨T=3)(hc:c∈cs):Fr B cs w w':=
 ⟨h.os,h.tape,h.output,h.size,fun k hk ac hq=>h.block k hk (fun e=>ac (e▸hc)) (by
  rcases hq with hq|hq
  ·exact .inl hq
  ·right
   intro xs fr
   rcases hT with rfl|rfl
   ·exact(hq xs fr).1
   ·exact(hq xs fr).2)⟩
theorem FrT.of_upd {l:List α}(hr:Row E w B v l)(hu:Upd c v.ownBlock w w'):FrT E.elem B c w w':=by
 refine⟨hu.os,hu.tape,hu.output,hu.size,fun k hk ac hq=>hu.block k hk ac ?_⟩;intro e;have hown:=hr.own k e;rcases hr.2 with⟨hv,_⟩|⟨g,cap,cur,hv,_,hg,_⟩
 ·rw[hv] at e;simp[Value.ownBlock] at e
 rw[hv] at e;have e:g=k:=by simpa [Value.ownBlock] using e
 subst e;rcases hq with hq|hq
 ·omega
 exact hq cur (0,0) hg
theorem Row.frt {l:List α}(h:Row E w B v l)(hF:FrT T B c w w')(hc:c<B)(hT:E.elem≠T):Row E w' B v l:=by
 refine⟨h.1,?_⟩;rcases h.2 with hn|⟨g,cap,cur,hv,hbg,hg,r⟩
 ·exact .inl hn
 refine .inr ⟨g,cap,cur,hv,hbg,?_,r⟩;rw[hF.block g (zR hg) (by omega) ?_]
 ·exact hg
 right;intro xs fr;rw[hg];simp;intro _ e;exact absurd e hT
structure NSt (W:World) (B c p:Nat) (l:List Int):Prop where
 row:∃ v,W.heap[c]?=some (.cells #[v] 33 (0,0))∧Row ekN W B v l
 fn:W.heap[p]?=some (.cells #[.func (.func 198) #[] #[.pointer (some ⟨c,0,none⟩)]] 149 (0,0))
 lt:c<B
theorem NSt.bL {l:List Int}(h:NSt W B c p l)(hb:zB W W'):NSt W' B c p l:=by
 exact Qh0
theorem rP {o:Obj}(hF:FrT T B c w w')(hk:w.heap[k]?=some o)(hc:k≠c)(hB:k<B):w'.heap[k]?=some o:=
 (hF.block k (zR hk) hc (.inl hB)).trans hk
theorem NSt.frt {l:List Int}(h:NSt W B c p l)(hF:FrT 9 B d W W')(hd:d<B)(hc:c≠d)(hp:p≠d)(ac:p<B):NSt W' B c p l:=by
 obtain⟨⟨v,h1,h2⟩,h3,h4⟩:=h;exact⟨⟨v,rP hF h1 hc h4,h2.frt hF hd (by decide)⟩,rP hF h3 hp ac,h4⟩
theorem SSt.frt {l:List (List UInt8)}(h:SSt W B c p l)(hF:FrT 3 B d W W')(hd:d<B)(hc:c≠d)(hp:p≠d)(ac:p<B):SSt W' B c p l:=by
 obtain⟨⟨v,h1,h2⟩,h3,h4⟩:=h;exact⟨⟨v,rP hF h1 hc h4,h2.frt hF hd (by decide)⟩,rP hF h3 hp ac,h4⟩
theorem SSt.call2 {l:List (List UInt8)}(h:SSt W B c p l)(hB:B≤W.heap.size)(hl:l.length≤1000)(hp:p≠c)(ac:p<B)(x:List UInt8) :
  Calls Tryz.prog 152 #[.string (S x),.pointer (some ⟨c,0,none⟩)] W fun e W'=>e = .returned (.bool (decide (x∈l)))∧SSt W' B c p (vM x l)∧FrT 9 B c W W':=by
 obtain⟨⟨v,h1,h2⟩,h3,h4⟩:=h;refine(B1o h1 h2 h4 hB hl x).mono ?_;rintro e W' ⟨rfl,v',k1,k2,hu⟩;have hF:FrT 9 B c W W':=FrT.of_upd h2 hu;exact⟨rfl,⟨⟨v',k1,k2⟩,rP hF h3 hp ac,h4⟩,hF⟩
theorem NSt.call2 {l:List Int}(h:NSt W B c p l)(hB:B≤W.heap.size)(hl:l.length≤1000)(hp:p≠c)(ac:p<B)(x:Int) :
  Calls Tryz.prog 198 #[.int .i64 x,.pointer (some ⟨c,0,none⟩)] W fun e W'=>e = .returned (.bool (decide (x∈l)))∧NSt W' B c p (vM x l)∧FrT 3 B c W W':=by
 obtain⟨⟨v,h1,h2⟩,h3,h4⟩:=h;refine(B9p h1 h2 h4 hB hl x).mono ?_;rintro e W' ⟨rfl,v',k1,k2,hu⟩;have hF:FrT 3 B c W W':=FrT.of_upd h2 hu;exact⟨rfl,⟨⟨v',k1,k2⟩,rP hF h3 hp ac,h4⟩,hF⟩
def dA (b:Nat):List Ru:=[⟨7,170,#[.pointer (some ⟨b+3,0,none⟩)]⟩,⟨3,171,#[]⟩,⟨8,172,#[.pointer (some ⟨b,0,none⟩),.pointer (some ⟨b+4,0,none⟩)]⟩]
def dI (b:Nat)(n:Int):List Obj:=[.cells #[.int .i64 n] 3,.cells #[.slice none 0 0] 85,.cells #[.slice none 0 0] 33,.cells #[.func (.func 152) #[] #[.pointer (some ⟨b+1,0,none⟩)]] 101,.cells #[.func (.func 198) #[] #[.pointer (some ⟨b+2,0,none⟩)]] 149,.cells (kW (dA b)) 210]
theorem B5s (n:Int)(w:World):Calls Tryz.prog 98 #[.int .i64 n] w fun e w'=>e = .returned (.slice (some ⟨w.heap.size+5,0,none⟩) 3 3)∧pQ w (dI w.heap.size n)=w':=by
 have ac:=tM;go_enter Tryz.func98,Tryz.ntmps98;go_wp2_with fail
 refine(SD _).mono ?_;rintro e w1 ⟨rfl,rfl⟩;go_wp2_with fail
 refine(B4a _).mono ?_;rintro e w1 ⟨rfl,rfl⟩;exact Qg3
structure ISt (W:World) (B b:Nat) (n:Int) (s:List (List UInt8)×List Int):Prop where
 names:SSt W B (b+1) (b+3) s.1
 vals:NSt W B (b+2) (b+4) s.2
 first:W.heap[b]?=some (.cells #[.int .i64 n] 3 (0,0))
 lt:b+5<B
theorem ISt.bL {n:Int}{s:List (List UInt8)×List Int}(h:ISt W B b n s)(hb:zB W W'):ISt W' B b n s:=
 ⟨h.names.bL hb,h.vals.bL hb,(hb.block b (Array.getElem?_eq_some_iff.1 h.first).1).trans h.first,h.lt⟩
def uN (n:Int):Nat→II→List (List UInt8)×List Int→Bool×(List (List UInt8)×List Int)
 | 0,x,s=>(!sM x.name||decide (x.name∈s.1),(vM x.name s.1,s.2))
 | 1,x,s=>(decide (x.value < -2147483648)||decide (2147483647<x.value),s)
 | _,x,s=>(decide (n≠0)||decide (x.value∈s.2),(s.1,vM x.value s.2))
theorem C8r {n:Int}{s:List (List UInt8)×List Int}(h:ISt W B b n s)(hB:B≤W.heap.size)(hl:s.1.length≤1000)(x:II)(hx:x.name.length≤9223372036854775807) :
  Calls Tryz.prog 170 #[iv x,.pointer (some ⟨b+3,0,none⟩)] W fun e W'=>e = .returned (.bool (uN n 0 x s).1)∧((uN n 0 x s).1=false→ISt W' B b n (uN n 0 x s).2)∧Fr B [b+1,b+2] W W':=by
 have ac:=(zH W.heap.size W).alloc (zG _) (.cells #[.string (S x.name),.int .i64 x.value] 105);have h1:=h.bL ac;have c0:(W.alloc (.cells #[.string (S x.name),.int .i64 x.value] 105)).cell? ⟨b+3,0,none⟩=some (.func (.func 152) #[] #[.pointer (some ⟨b+1,0,none⟩)]):=zL h1.names.fn 0 _ rfl;have ag:=TG x.name hx (W.alloc (.cells #[.string (S x.name),.int .i64 x.value] 105));have hlt:=h.lt;have hcc:=h1.names.call2 (yN hB ac.size) hl (by omega) (by omega) x.name;unfold iv;cases hq:sM x.name with
 | false=>
  have HN:Hid ((uN n 0 x s).1=true):=by show _=_;rw[uN,hq];rfl
  rw[hq] at ag;clear hq hcc;go_enter Tryz.func170,Tryz.ntmps170;go_wp2_with fail
  refine ag.mono ?_;rintro e w1 ⟨rfl,rfl⟩;go_wp2;go_ret;refine⟨by rw[HN.out];rfl,fun e=>?_,Fr.of_below ac⟩;rw[HN.out] at e;cases e
 | true=>
 have HN:Hid ((uN n 0 x s).1=decide (x.name∈s.1)):=by show _=_;rw[uN,hq];rfl
 rw[hq] at ag;clear hq;go_enter Tryz.func170,Tryz.ntmps170;go_wp2_with fail
 refine ag.mono ?_;rintro e w1 ⟨rfl,rfl⟩;go_wp2_with fail
 refine hcc.mono ?_;rintro e w2 ⟨rfl,h2,hF⟩;go_wp2;go_ret;refine⟨by rw[HN.out];rfl,fun _=>⟨h2,h1.vals.frt hF (by omega) (by omega) (by omega) (by omega),rP hF h1.first (by omega) (by omega),hlt⟩,(Fr.of_below ac).trans (hF.fr (.inl rfl) (by simp))⟩
theorem C8s {n:Int}{s:List (List UInt8)×List Int}(h:ISt W B b n s)(x:II) :
  Calls Tryz.prog 171 #[iv x] W fun e W'=>e = .returned (.bool (uN n 1 x s).1)∧((uN n 1 x s).1=false→ISt W' B b n (uN n 1 x s).2)∧Fr B [b+1,b+2] W W':=by
 have ac:=(zH W.heap.size W).alloc (zG _) (.cells #[.string (S x.name),.int .i64 x.value] 105);have h1:=h.bL ac;unfold iv;obtain⟨q1,ag⟩:∃ q,decide (x.value < -2147483648)=q:=⟨_,rfl⟩
 obtain⟨q2,ah⟩:∃ q,decide (2147483647<x.value)=q:=⟨_,rfl⟩
 have HN:Hid ((uN n 1 x s).1=(q1||q2)):=by show _=_;rw[uN,ag,ah]
 cases q1 <;> cases q2
 all_goals simp only[decide_eq_true_eq,uZ] at ag ah
 all_goals first|(exfalso;omega)|skip
 all_goals go_enter Tryz.func171,Tryz.ntmps171
 all_goals go_wp2
 all_goals go_ret
 all_goals exact⟨by rw[HN.out];rfl,fun _=>h1,Fr.of_below ac⟩
theorem C8t {n:Int}{s:List (List UInt8)×List Int}(h:ISt W B b n s)(hB:B≤W.heap.size)(hl:s.2.length≤1000)(x:II) :
  Calls Tryz.prog 172 #[iv x,.pointer (some ⟨b,0,none⟩),.pointer (some ⟨b+4,0,none⟩)] W fun e W'=>e = .returned (.bool (uN n 2 x s).1)∧((uN n 2 x s).1=false→ISt W' B b n (uN n 2 x s).2)∧Fr B [b+1,b+2] W W':=by
 have ac:=(zH W.heap.size W).alloc (zG _) (.cells #[.string (S x.name),.int .i64 x.value] 105);have h1:=h.bL ac;have c0:(W.alloc (.cells #[.string (S x.name),.int .i64 x.value] 105)).cell? ⟨b+4,0,none⟩=some (.func (.func 198) #[] #[.pointer (some ⟨b+2,0,none⟩)]):=zL h1.vals.fn 0 _ rfl;have c1:(W.alloc (.cells #[.string (S x.name),.int .i64 x.value] 105)).cell? ⟨b,0,none⟩=some (.int .i64 n):=zL h1.first 0 _ rfl;have hlt:=h.lt;have hcc:=h1.vals.call2 (yN hB ac.size) hl (by omega) (by omega) x.value;unfold iv;obtain⟨q1,ag⟩:∃ q,(n != 0)=q:=⟨_,rfl⟩
 have HN:Hid ((uN n 2 x s).1=(q1||decide (x.value∈s.2))):=by
  have e:decide (n≠0)=(n != 0):=by rw[uR];simp
  show(decide (n≠0)||decide (x.value∈s.2))=_;rw[e,ag]
 cases q1 with
 | true=>
  clear hcc;go_enter Tryz.func172,Tryz.ntmps172;go_wp2;go_ret;refine⟨by rw[HN.out];rfl,fun e=>?_,Fr.of_below ac⟩;rw[HN.out] at e;cases e
 | false=>
 go_enter Tryz.func172,Tryz.ntmps172;go_wp2_with fail
 refine hcc.mono ?_;rintro e w2 ⟨rfl,h2,hF⟩;go_wp2;go_ret;refine⟨by rw[HN.out];rfl,fun _=>⟨h1.names.frt hF (by omega) (by omega) (by omega) (by omega),h2,rP hF h1.first (by omega) (by omega),hlt⟩,(Fr.of_below ac).trans (hF.fr (.inr rfl) (by simp))⟩
def qZ (n:Int):Bool:=decide (1≤n)&&(decide (n<536870912)&&(decide (n<19000)||decide (19999<n)))
theorem D7t (n:Int)(w:World):Calls Tryz.prog 161 #[.int .i64 n] w fun e w'=>e = .returned (.bool (qZ n))∧w=w':=by
 obtain⟨q1,ac⟩:∃ q,decide (1≤n)=q:=⟨_,rfl⟩
 obtain⟨q2,ag⟩:∃ q,decide (n<536870912)=q:=⟨_,rfl⟩
 obtain⟨q3,ah⟩:∃ q,decide (n<19000)=q:=⟨_,rfl⟩
 obtain⟨q4,aj⟩:∃ q,decide (19999<n)=q:=⟨_,rfl⟩
 have HN:Hid (qZ n=(q1&&(q2&&(q3||q4)))):=by show _=_;rw[qZ,ac,ag,ah,aj]
 cases q1 <;> cases q2 <;> cases q3 <;> cases q4
 all_goals simp only[decide_eq_true_eq,uZ] at ac ag ah aj
 all_goals first|(exfalso;omega)|skip
 all_goals go_enter Tryz.func161,Tryz.ntmps161
 all_goals go_wp2
 all_goals go_ret
 all_goals exact⟨by rw[HN.out];rfl,rfl⟩
def qO (g:GI)(x:FI):Bool:=if x.kind=10 then decide (0≤yK (fun m=>decide (m.name=x.type)) g.mG) else if x.kind=5 then decide (0≤yK (fun m=>decide (m.name=x.type)) g.enums) else true
theorem C0g {vm ve:Value}{g:GI}(h:GRd w vm ve g)(x:FI):Calls Tryz.prog 166 #[.agg #[vm,ve],fv x] w fun e w'=>e = .returned (.bool (qO g x))∧zB w w':=by
 obtain⟨am,nm,cm,rfl,aj,hcm⟩:=h.1.sH;obtain⟨ae,ne,ce,rfl,ah,hce⟩:=h.2.sH;have hb2:zB w ((w.alloc (.cells #[.slice am nm cm,.slice ae ne ce] 25)).alloc (.cells #[.string (S x.name),.int .i64 x.nU,.int .i64 x.kind,.string (S x.type),.bool x.many,.int .i64 x.cE] 47)):=((zH _ _).alloc (zG _) _).alloc (by simp) _;have h2:=h.bL hb2;have ac:=fX h2.1 ⟨ae,ne,ce,rfl⟩ x.type;have hen:=D3q h2.2 ⟨am,nm,cm,rfl⟩ x.type;unfold fv;by_cases h10:x.kind=10
 ·have HN:Hid (qO g x=decide (0≤yK (fun m=>decide (m.name=x.type)) g.mG)):=by show _=_;rw[qO,zF h10]
  have hk:(x.kind==10)=true:=by simp[h10]
  generalize yK (fun m=>decide (m.name=x.type)) g.mG=r at ac HN;clear h10 hen;go_enter Tryz.func166,Tryz.ntmps166;go_wp2_with fail
  refine ac.mono ?_;rintro e w1 ⟨rfl,hb1⟩;go_wp2;go_ret;exact⟨by rw[HN.out];rfl,hb2.trans (hb1.mono hb2.size)⟩
 have hk:(x.kind==10)=false:=by simp[h10]
 by_cases h5:x.kind=5
 ·have HN:Hid (qO g x=decide (0≤yK (fun m=>decide (m.name=x.type)) g.enums)):=by show _=_;rw[qO,zC h10,zF h5]
  have ag:(x.kind==5)=true:=by simp[h5]
  generalize yK (fun m=>decide (m.name=x.type)) g.enums=r at hen HN;clear h10 h5 ac;go_enter Tryz.func166,Tryz.ntmps166;go_wp2_with fail
  refine hen.mono ?_;rintro e w1 ⟨rfl,hb1⟩;go_wp2;go_ret;exact⟨by rw[HN.out];rfl,hb2.trans (hb1.mono hb2.size)⟩
 have HN:Hid (qO g x=true):=by show _=_;rw[qO,zC h10,zC h5]
 have ag:(x.kind==5)=false:=by simp[h5]
 clear h10 h5 ac hen;go_enter Tryz.func166,Tryz.ntmps166;go_wp2;go_ret;exact⟨by rw[HN.out];rfl,hb2⟩
def pL (x:FI):Bool:=decide (x.kind≠10)&&(decide (x.kind≠5)&&!x.type.isEmpty)
theorem B8c (x:FI)(w:World):Calls Tryz.prog 168 #[fv x] w fun e w'=>e = .returned (.bool (pL x))∧zB w w':=by
 have ac:=(zH w.heap.size w).alloc (zG _) (.cells #[.string (S x.name),.int .i64 x.nU,.int .i64 x.kind,.string (S x.type),.bool x.many,.int .i64 x.cE] 47);obtain⟨q1,ag⟩:∃ q,(x.kind != 10)=q:=⟨_,rfl⟩
 obtain⟨q2,ah⟩:∃ q,(x.kind != 5)=q:=⟨_,rfl⟩
 obtain⟨q3,aj⟩:∃ q,(S x.type).toList.isEmpty=q:=⟨_,rfl⟩
 have HN:Hid (pL x=(q1&&(q2&&!q3))):=by
  have e1:decide (x.kind≠10)=(x.kind != 10):=by rw[uR];simp
  have e2:decide (x.kind≠5)=(x.kind != 5):=by rw[uR];simp
  show _=_;rw[pL,e1,e2,ag,ah,←aj,sL]
 unfold fv;cases q1 <;> cases q2 <;> cases q3
 all_goals go_enter Tryz.func168,Tryz.ntmps168
 all_goals go_wp2
 all_goals go_ret
 all_goals exact⟨by rw[HN.out];rfl,ac⟩
theorem YF [DecidableEq α](x : α)(l:List α):(vM x l).length≤l.length+1:=by unfold vM;split <;> simp
theorem B7r {l:List II}{n:Int}(hl:RdL 2 TAt w vl l)(hn:l.length≤900)(hs:∀ s∈l,s.name.length≤9223372036854775807) :
  Calls Tryz.prog 97 #[vl,.slice (some ⟨w.heap.size+5,0,none⟩) 3 3] (pQ w (dI w.heap.size n)) fun e w'=>e = .returned (.agg #[.int .i64 (xC (uN n) [7,3,8] 0 l ([],[])).1,.int .i64 (((xC (uN n) [7,3,8] 0 l ([],[])).2:Nat):Int)])∧zB w w':=by
 obtain⟨b,Hb⟩:=zM (w.heap.size);obtain⟨W6,HW⟩:=zM (pQ w (dI w.heap.size n));have hz:W6.heap.size=w.heap.size+6:=by rw[HW.out,SI];rfl
 have hb:zB w W6:=by rw[HW.out];exact fZ _ _
 have ha:∀ i o,(dI w.heap.size n)[i]?=some o→W6.heap[w.heap.size+i]?=some o:=fun i o h=>by rw[HW.out];exact TP _ _ i o h
 rw[←HW.out];have hB:=B9s (B:=W6.heap.size) (B0:=w.heap.size) (cs:=[w.heap.size+1,w.heap.size+2]) (w:=W6) (l:=l) (rs:=dA w.heap.size) (g:=w.heap.size+5) (uN n) (fun k j s W=>ISt W W6.heap.size w.heap.size n s∧s.1.length≤(if j=0 then k else k+1)∧s.2.length≤(if j≤2 then k else k+1)) ([],[])
  (fun W hW=>hl.bL TAt.sT (hb.trans hW)) (ha 5 _ rfl) (by simp) (by omega) (zG _) (by simp) (by simp;omega) (by simp[dA]) ?_ ?_ (fun k j s W W' _ hI hb'=>⟨hI.1.bL hb',hI.2⟩) (fun k s W _ hI=>⟨hI.1,by simpa [dA] using hI.2⟩) ?_
 ·refine hB.mono ?_;rintro e w' ⟨rfl,hF⟩;exact⟨rfl,hb.trans (hF.bL (by omega) (by omega) (by simp))⟩
 ·intro r hr args w';simp only[dA,yY,rI,or_false] at hr;rcases hr with rfl|rfl|rfl
  ·exact enters_of Tryz.func170 (by kernel_rfl) rfl args w'
  ·exact enters_of Tryz.func171 (by kernel_rfl) rfl args w'
  exact enters_of Tryz.func172 (by kernel_rfl) rfl args w'
 ·exact⟨⟨⟨⟨_,ha 1 _ rfl,Row.nil _ _ _⟩,ha 3 _ rfl,by omega⟩,⟨⟨_,ha 2 _ rfl,Row.nil _ _ _⟩,ha 4 _ rfl,by omega⟩,ha 0 _ rfl,by omega⟩,by simp,by simp⟩
 intro k j r f s W hf hr ac _ hI;obtain⟨h1,h2,h3⟩:=hI;have hk:=(yG.1 hf).1;have ag:j<3:=(yG.1 hr).1
 match j,ag,hr with
 | 0,_,hr=>
  cases hr
  refine(C8r h1 ac (by simp at h2;omega) f (hs f (uO hf))).mono ?_;rintro e W' ⟨rfl,k1,k2⟩;refine⟨rfl,fun e=>⟨k1 e,?_,?_⟩,k2⟩
  ·have:=YF f.name s.1;simp at h2;show(vM f.name s.1).length≤k+1;omega
  show s.2.length≤k;simpa using h3
 | 1,_,hr=>
  cases hr
  refine(C8s h1 f).mono ?_;rintro e W' ⟨rfl,k1,k2⟩;exact⟨rfl,fun e=>⟨k1 e,by show s.1.length≤k+1;simpa using h2,by show s.2.length≤k;simpa using h3⟩,k2⟩
 | 2,_,hr=>
 cases hr
 refine(C8t h1 ac (by simp at h3;omega) f).mono ?_;rintro e W' ⟨rfl,k1,k2⟩;refine⟨rfl,fun e=>⟨k1 e,by show s.1.length≤k+1;simpa using h2,?_⟩,k2⟩;have:=YF f.value s.2;simp at h3;show(vM f.value s.2).length≤k+1;omega
theorem D6r (a b:Int)(w:World):(Instr.field 54 (.agg #[.int .i64 a,.int .i64 b]) 0).run Tryz.prog w = .ok (.int .i64 a) w:=by rfl
def pC (e:EI):Int:=if e.items.length<1∨16<e.items.length then 5 else(xC (uN ((e.items.getD 0 ⟨[],0⟩).value)) [7,3,8] 0 e.items ([],[])).1
theorem B6u {vi:Value}(e:EI)(hl:RdL 2 TAt w vi e.items)(hs:∀ s∈e.items,s.name.length≤9223372036854775807) :
  Calls Tryz.prog 42 #[.agg #[.string (S e.name),vi]] w fun en w'=>en = .returned (.int .i64 (pC e))∧zB w w':=by
 obtain⟨ao,n,cap,rfl,Hn,av⟩:=hl.sH;have ac:=(zH w.heap.size w).alloc (zG _) (.cells #[.string (S e.name),.slice ao n cap] 92);by_cases h1:n<1
 ·have HE:Hid (pC e=5):=by show _=_;rw[pC,zF (.inl (by rw[←Hn.out];exact h1))]
  have hi:(n:Int)<1:=by omega
  go_enter Tryz.func42,Tryz.ntmps42;go_wp2;go_ret;exact⟨by rw[HE.out];rfl,ac⟩
 by_cases h2:16<n
 ·have HE:Hid (pC e=5):=by show _=_;rw[pC,zF (.inr (by rw[←Hn.out];exact h2))]
  have hi:¬ (n:Int)<1:=by omega
  have hj:(16:Int)<(n:Int):=by omega
  go_enter Tryz.func42,Tryz.ntmps42;go_wp2;go_ret;exact⟨by rw[HE.out];rfl,ac⟩
 obtain⟨i0,Hi⟩:=yE (l:=e.items) (k:=0) (by rw[←Hn.out];omega);have HE:Hid (pC e=(xC (uN i0.value) [7,3,8] 0 e.items ([],[])).1):=by
  show _=_;rw[pC,zC (by rw[←Hn.out];omega),pG,Hi.out];rfl
 have hi:¬ (n:Int)<1:=by omega
 have hj:¬ (16:Int)<(n:Int):=by omega
 have ba:(0:Int)<(n:Int):=by omega
 have ag:=hl.bL TAt.sT ac;obtain⟨b,off,rfl,hat⟩:=ag.get TAt.plain Hi.out;obtain⟨t0,t1⟩:=hat.at;simp only[jZ,oX] at t0 t1;obtain⟨W1,aj,-,hx1,-⟩:=zV w (.cells #[.string (S e.name),.slice (some ⟨b,off,none⟩) n cap] 92);rw[←aj.out] at ag ac t0 t1;have hd:zB W1 W1.drew:=(zH _ _).drew;have ah:=B5s i0.value W1.drew;have hbr:=B7r (n:=i0.value) (ag.bL TAt.sT hd) (by rw[←Hn.out];omega) hs;have ak:∀ W,zB W1 W→W.cell? ⟨w.heap.size,1,none⟩=some (.slice (some ⟨b,off,none⟩) n cap)∧W.cell? ⟨b,off+1,none⟩=some (.int .i64 i0.value):=fun W hW=>⟨zQ hW (zL hx1 1 _ rfl),zQ hW t1⟩
 obtain⟨z0,z1⟩:=ak W1.drew hd;have aw:=D6r;clear hat t0 t1 ag;go_enter Tryz.func42,Tryz.ntmps42;go_wp2_with fail
 rw[←aj.out];go_region_with (first
  | (go_at_call 98;refine ah.mono ?_;rintro en w1 ⟨rfl,au⟩;obtain⟨z2,z3⟩:=ak w1 (by rw[←au];exact hd.trans (fZ (dI W1.drew.heap.size i0.value) W1.drew)))
  | (go_at_call 97;rw[←au];refine hbr.mono ?_;rintro en w2 ⟨rfl,hb2⟩))
 all_goals
  go_wp2;go_ret;exact⟨by rw[HE.out];rfl,ac.trans ((hd.trans hb2).mono ac.size)⟩
theorem zK {A:World}(h:zB A V)(k:zB V V'):zB A V':=h.trans (k.mono h.size)
theorem oO (h:Below B W V)(hB:B≤W.heap.size)(o:Obj):Below B W (V.alloc o):=h.alloc (yN hB h.size) o
theorem D6s {r:Option Nat}(h:Below B W V)(hB:B≤W.heap.size)(hg:V.grownBy V' r)(hr:∀ k,r=some k→B≤k):Below B W V':=h.grown hg (yN hB h.size) hr
theorem mL (E:EK α)(w:World)(y : α):∀ ad,some (⟨w.heap.size,0,none⟩:Addr)=some ad→∀ k z,[y][k]?=some z→∀ j u,(E.enc z)[j]?=some u→(w.alloc (.cells (E.enc y).toArray E.elem)).cell? (ad.add (k*E.size+j))=some u:=by
 intro ad had k z hz j u hu;cases had
 cases k with
 | succ k=>simp at hz
 | zero=>
 have hz:y=z:=by simpa using hz
 subst hz;rw[xS,jZ,tU,tU];exact zL (yM w _) j u (by simpa using hu)
theorem D0j {sz:Nat}{P:World→Addr→α→Prop}{R:World→Addr→β→Prop}{l:List α}(f : α→β)(h:RdL sz P w v l)(hf:∀ x a,a∈l→P w x a→R w x (f a)):RdL sz R w v (l.map f):=by
 obtain⟨ao,n,cap,e,h1,h2,h3,h4,h5⟩:=h;refine⟨ao,n,cap,e,by simpa using h1,h2,h3,h4,fun x hx k b hb=>?_⟩;rw[sE] at hb;cases ha:l[k]? with
 | none=>rw[ha] at hb;simp at hb
 | some a=>
 rw[ha] at hb;simp at hb;subst hb;exact hf _ a (xV ha) (h5 x hx k a ha)
theorem Row.low {l:List α}(h:Row E w base v l)(hg:g<base)(i:Nat)(x:Value):Row E (w.setCell ⟨g,i,none⟩ x) base v l:=
 h.other (fun e=>by have:=(h.own g e).1;omega) i x
theorem zT {i:Nat}{x:Value}(h:Below B W V)(hg:B≤g):Below B W (V.setCell ⟨g,i,none⟩ x):=h.setCell (p:=⟨g,i,none⟩) hg x
theorem ZZ {B:Nat}{a w:World}(h:Below B a w):∀ q,Below B a (w.drewN q)
 | 0=>h
 | q+1=>(ZZ h q).drew
theorem C8f (E:EK α)(l:List α)(m:Nat):E.flat (l.take m)=(E.flat l).take (m*E.size):=by
 unfold EK.flat
 induction l generalizing m with
 | nil=>simp
 | cons a r ih=>
 cases m with
 | zero=>simp
 | succ m=>rw[List.take_succ_cons,rC,rC,ih,iC,Nat.add_comm,List.take_append,E.len,kD,uP (l:=E.enc a) (by rw[E.len];omega)]
theorem Row.short {l:List α}(h:Row E w base (.slice ao n cap) l)(hm:m≤n):Row E w base (.slice ao m cap) (l.take m):=by
 have hl:n=l.length:=by obtain⟨x,c,e⟩:=h.sH;cases e;rfl
 refine⟨E.flat_len _,?_⟩;rcases h.2 with⟨hv,hn⟩|⟨g,c,cur,hv,hbg,hg,hn,hmx,hsz,ht⟩
 ·cases hv
  have:m=0:=by omega
  subst this;exact .inl ⟨rfl,by simp⟩
 cases hv
 have ac:(l.take m).length=m:=by rw[vZ];omega
 refine .inr ⟨g,_,cur,by rw[ac],hbg,hg,by omega,hmx,hsz,?_⟩;rw[ac,C8f,←ht,List.take_take,eM (qV _ (by omega))]
theorem ZY {k:IntKind}{b:Int}(h:a=b):Ending.returned (.int k a) = .returned (.int k b):=by rw[h]
theorem fS (w:World)(c:UInt8)(x:Int)(hx:x=(c.toNat:Int)):∀ ad,some (⟨w.heap.size,0,none⟩:Addr)=some ad→∀ k y,[c][k]?=some y→∀ j u,(ekY.enc y)[j]?=some u→(w.alloc (.cells #[.int .u8 x] 5)).cell? (ad.add (k*ekY.size+j))=some u:=by
 subst hx;exact mL ekY w c
theorem C9b (hf:m<2 ^ (7*f))(hs:¬ m<128):2≤f:=by
 rcases mW f 2 with h|h
 ·have h1:2 ^ (7*f)≤2 ^ 7:=mU (by decide) (by omega);have h2:(2:Nat) ^ 7=128:=rfl;omega
 exact h
theorem B7s (hf:m<2 ^ (7*(f+1))):m / 128<2 ^ (7*f):=by
 rw[show 7*(f+1)=7*f+7 by omega,jO] at hf;have h2:(2:Nat) ^ 7=128:=rfl;rw[h2] at hf;omega
theorem fQ (h:Row ekY w base v l)(o:Obj):Row ekY (w.alloc o) base v l:=h.bL ((zH _ _).alloc (zG _) _)
theorem UK (base:Nat)(v:Value)(l:List UInt8)(n:Nat)(w:World)(hv:Row ekY w base v l)(hb:base≤w.heap.size)(hn:n≤18446744073709551615)(hl:l.length≤10000000000000) :
  Calls Tryz.prog 192 #[v,.int .u64 (n:Int)] w fun e w'=>∃ v',e = .returned v'∧Row ekY w' base v' (l++uF n)∧Below base w w':=by
 have H0:Hid (l++sR 10 n=l++uF n):=rfl;go_enter Tryz.func192,Tryz.ntmps192;go_wp2;go_loopw [0,1] (fun u i wr=>∃ (f m:Nat) (l':List UInt8),i = .int .u64 (m:Int)∧m≤18446744073709551615∧Hid (m<2 ^ (7*(f+1)))∧f≤9∧l'.length+f≤l.length+10∧Row ekY wr base u l'∧Below base w wr∧base≤wr.heap.size∧Hid (l'++sR (f+1) m=l++uF n))
  (fun _ i _=>(intOf i).toNat)
 case atStart=>exact⟨9,n,l,rfl,hn,by show n<2 ^ (7*10);omega,zG _,by omega,hv,zH _ _,hb,H0⟩
 obtain⟨f,m,l',rfl,hm,hf,ak,hlen,hown,aj,ah,HR⟩:=hrel;have ag:=fun k (hk:u0.ownBlock=some k)=>(hown.own k hk).1
 by_cases hs:m<128
 ·go_wp2_with (at_builtin;refine tP (by rfl) ekY _ _ (by rfl) base _ l' [UInt8.ofNat m] (by rfl) (fQ hown _) (some ⟨wr.heap.size,0,none⟩) 1 1 (by rfl) (by rfl) (by intro e;cases e) ?c1 (by decide) ?c2 ?c3 ?_)
  case c1=>
   refine fS wr _ _ ?_;simp;omega
  case c2=>simp[ekY];omega
  case c3=>simp;omega
  intro v' w1 h1 h2;go_wp2;go_ret;refine⟨v',rfl,?_,(aj.alloc ah _).grown h2 (by simp;omega) ag⟩;rw[←HR.out,dU hs];exact h1
 obtain⟨c,Hc⟩:=zM (UInt8.ofNat (m%128+128));go_wp2_with (at_builtin;refine tP (by rfl) ekY _ _ (by rfl) base _ l' [c] (by rfl) (fQ hown _) (some ⟨wr.heap.size,0,none⟩) 1 1 (by rfl) (by rfl) (by intro e;cases e) ?d1 (by decide) ?d2 ?d3 ?_)
 case d1=>
  refine fS wr _ _ ?_;rw[Hc.out,←D5b,IntKind.wrap_u8]
 case d2=>simp[ekY];omega
 case d3=>simp;omega
 intro v' w1 h1 h2;have ac:=(aj.alloc ah _).grown h2 (by simp;omega) ag;go_wp2;go_roundw
 case rel=>
  have hf2:=C9b hf.out hs;obtain⟨g,rfl⟩:∃ g,f=g+1:=⟨f-1,by omega⟩
  refine⟨g,m / 128,l'++[c],by go_num,by omega,B7s hf.out,by omega,by simp;omega,h1,ac,yN hb ac.size,?_⟩;show _=_;rw[←HR.out,ZP hs,vY,Hc.out];rfl
 case measure=>simp[intOf];omega
def nP (h:Int):Nat:=if h=1 then 8 else if h=5 then 4 else 0
theorem C5c (h:Int)(w:World) :
  Calls Tryz.prog 193 #[.int .i64 h] w fun e w'=>e = .returned (.int .i64 (nP h))∧w=w':=by
 by_cases k:h=1∨h=5
 ·rcases k with rfl|rfl
  all_goals
   go_enter Tryz.func193,Tryz.ntmps193;exact Qg3
 have e:nP h=0:=by unfold nP;rw[zC (by omega),zC (by omega)]
 rw[e];have b1:(h==1)=false:=beq_eq_false_iff_ne.2 (by omega);have b5:(h==5)=false:=beq_eq_false_iff_ne.2 (by omega);clear e;go_enter Tryz.func193,Tryz.ntmps193;exact Qg3
theorem C8y (n:Int)(w:World)(hl : -9223372036854775808≤n)(hu:n≤9223372036854775807) :
  Calls Tryz.prog 190 #[.int .i64 n] w fun e w'=>e = .returned (.int .u64 (pM n))∧w=w':=by
 go_enter Tryz.func190,Tryz.ntmps190;go_wp2
 ·go_ret;exact⟨ZY (B5p n hl ‹_›),rfl⟩
 go_ret;exact⟨ZY (by rw[B7m ‹_›];omega),rfl⟩
def klow:Nat→Nat→List UInt8
 | 0,_=>[]
 | k+1,n=>UInt8.ofNat n::klow k (n / 256)
theorem C2i (k n:Nat):(klow k n).length=k:=by
 induction k generalizing n with
 | zero=>rfl
 | succ k ih=>rw[klow,sQ,ih]
def ktagN (num how:Int):List UInt8:=uF (num.toNat*8+how.toNat)
def kputB (how:Int)(n:Nat):List UInt8:=if how=0 then uF n else klow (nP how) n
theorem cL (n:Nat):(uF n).length≤10:=D5a 10 n
theorem YR (how:Int)(n:Nat):(kputB how n).length≤10:=by
 unfold kputB;split
 ·exact cL n
 rw[C2i];unfold nP;split
 ·omega
 split <;> omega
theorem D4e (base:Nat)(v:Value)(l:List UInt8)(num how:Int)(w:World)(hv:Row ekY w base v l)(hb:base≤w.heap.size)(h1:0≤num)(h2:num≤536870912)(h3:0≤how)(h4:how≤7)(hl:l.length≤10000000000000) :
  Calls Tryz.prog 194 #[v,.int .i64 num,.int .i64 how] w fun e w'=>∃ v',e = .returned v'∧Row ekY w' base v' (l++ktagN num how)∧Below base w w':=by
 go_enter Tryz.func194,Tryz.ntmps194;go_wp2_with fail
 rw[show num*8+how=((num.toNat*8+how.toNat:Nat):Int) by omega];refine(UK base v l _ _ hv hb (by omega) hl).mono ?_;rintro e w1 ⟨v1,rfl,ho,hbl⟩;go_wp2;go_ret;exact⟨v1,rfl,ho,hbl⟩
theorem B0r (base:Nat)(v:Value)(l:List UInt8)(how:Int)(n:Nat)(w:World)(hv:Row ekY w base v l)(hb:base≤w.heap.size)(hn:n≤18446744073709551615)(hl:l.length≤10000000000000) :
  Calls Tryz.prog 147 #[v,.int .i64 how,.int .u64 (n:Int)] w fun e w'=>∃ v',e = .returned v'∧Row ekY w' base v' (l++kputB how n)∧Below base w w':=by
 by_cases h0:how=0
 ·unfold kputB;rw[zF h0];subst h0;go_enter Tryz.func147,Tryz.ntmps147;go_wp2_with (go_at_call 192;refine(UK base v l n _ hv hb hn (by omega)).mono ?_;rintro e w1 ⟨v1,rfl,ho,hbl⟩)
  go_ret;exact⟨v1,rfl,ho,hbl⟩
 unfold kputB;rw[zC h0];have b0:=beq_eq_false_iff_ne.2 h0;obtain⟨W,HW⟩:=zM (nP how);have ak:W≤8:=by rw[HW.out];unfold nP;split <;> (try split) <;> omega
 clear h0;rw[←HW.out];go_enter Tryz.func147,Tryz.ntmps147;go_wp2_with (go_at_call 193;refine(C5c how _).mono ?_;rintro e w1 ⟨rfl,rfl⟩;rw[←HW.out])
 go_loopw [0,2,14] (fun u n' i wr=>∃ (k m:Nat) (l':List UInt8),i = .int .i64 (k:Int)∧k≤W∧n' = .int .u64 (m:Int)∧m≤18446744073709551615∧l'.length=l.length+k∧Row ekY wr base u l'∧Below base w wr∧base≤wr.heap.size∧Hid (l'++klow (W-k) m=l++klow W n))
  (fun _ _ i _=>W-(intOf i).toNat)
 case atStart=>exact⟨0,n,l,rfl,by omega,rfl,hn,rfl,hv,zH _ _,hb,rfl⟩
 obtain⟨k,m,l',rfl,hk,rfl,hm,hlen,hown,ag,aj,HR⟩:=hrel;have ah:=fun k (hk:u0.ownBlock=some k)=>(hown.own k hk).1
 by_cases hlt:k<W
 ·obtain⟨c,Hc⟩:=zM (UInt8.ofNat m);go_wp2_with (at_builtin;refine tP (by rfl) ekY _ _ (by rfl) base _ l' [c] (by rfl) (fQ hown _) (some ⟨wr.heap.size,0,none⟩) 1 1 (by rfl) (by rfl) (by intro e;cases e) ?d1 (by decide) ?d2 ?d3 ?_)
  case d1=>
   refine fS wr _ _ ?_;rw[Hc.out,UInt8.toNat_ofNat'];simp
  case d2=>simp[ekY];omega
  case d3=>simp;omega
  intro v' w2 h1 h2;have ac:=(ag.alloc aj _).grown h2 (by simp;omega) ah;go_wp2;go_roundw
  case rel=>
   refine⟨k+1,m / 256,l'++[c],by go_num,by omega,by go_num,by omega,by simp;omega,h1,ac,yN hb ac.size,?_⟩;show _=_;rw[←HR.out,show W-k=W-(k+1)+1 by omega,klow,vY,Hc.out];rfl
  case measure=>simp[intOf];omega
 go_wp2;go_ret;refine⟨_,rfl,?_,ag⟩;rw[←HR.out,show W-k=0 by omega,klow,tT];exact hown
def lF (how:Int):Bool:=vV how&&decide (how≠2)
theorem aG{P:Prop}(h:P:=by
 rintro e w1 ⟨rfl,rfl⟩;go_wp2;go_ret;exact⟨by rw[HN.out];rfl,rfl⟩):P:=h
theorem C2h (h:Int)(w:World):Calls Tryz.prog 146 #[.int .i64 h] w fun e w'=>e = .returned (.bool (lF h))∧w=w':=by
 have hi:=eC h w;cases hq:vV h with
 | false=>
  have HN:Hid (lF h=false):=by show _=_;unfold lF;rw[hq];rfl
  rw[hq] at hi;clear hq;go_enter Tryz.func146,Tryz.ntmps146;go_wp2_with fail
  refine hi.mono ?_;exact aG
 | true=>
 obtain⟨q,ac⟩:∃ q,(h != 2)=q:=⟨_,rfl⟩
 have HN:Hid (lF h=q):=by show _=_;unfold lF;rw[hq,←ac,uR];simp
 rw[hq] at hi;clear hq;cases q
 all_goals
  go_enter Tryz.func146,Tryz.ntmps146;go_wp2_with fail
  refine hi.mono ?_;exact aG
def rF (how:Int)(l:List Nat):List UInt8:=if lF how=true then l.flatMap (kputB how) else []
def wH (kind:Int)(n:Nat):Nat:=if kind=2 then(pM (IntKind.i64.wrap (n:Int))).toNat else n
theorem TL {f : α→List β}{l:List α}{a : α}(h:l[k]?=some a):(l.take (k+1)).flatMap f=(l.take k).flatMap f++f a:=by
 rw[vX h,kA];simp
theorem VX {f : α→List β}{l:List α}(h:∀ a∈l,(f a).length≤c):(l.flatMap f).length≤l.length*c:=by
 induction l with
 | nil=>simp
 | cons a r ih=>
 rw[rC,yQ,sQ,iC];have h1:=h a (by simp);have h2:=ih fun b hb=>h b (wW _ hb)
 omega
theorem B7k (f : α→List β)(l:List α)(k:Nat):((l.take k).flatMap f).length≤(l.flatMap f).length:=by
 conv=>rhs;rw[←nX k l,kA,yQ]
 omega
theorem fM (h:RdL 1 YAt w (.slice ao n cap) l):l.length=n∧(ao=none→n=0∧cap=0)∧∀ ad,ao=some ad→∀ k y,l[k]?=some y→∀ j u,(ekY.enc y)[j]?=some u→w.cell? (ad.add (k*ekY.size+j))=some u:=by
 obtain⟨ac,n',cap',e,h1,_,_,h4,h5⟩:=h;cases e
 refine⟨h1,h4,fun ad had k y hy j u hu=>?_⟩;have hj:j=0:=by
  cases j with
  | zero=>rfl
  | succ j=>simp[ekY,aT] at hu
 subst hj;have hu:u = .int .u8 (y.toNat:Int):=by simpa [ekY,aT] using hu.symm
 subst hu;have:=h5 ad had k y hy;simpa [YAt,ekY] using this
theorem C5r {l:List Nat}(h:RdL 1 UAt w v l)(hm:∀ n∈l,n≤18446744073709551615)(hl:l.length≤100000000000)(how:Int) :
  Calls Tryz.prog 79 #[.int .i64 how,v] w fun e w'=>∃ ao n cap,e = .returned (.slice ao n cap)∧Row ekY w' w.heap.size (.slice ao n cap) (rF how l)∧zB w w':=by
 obtain⟨a1,n1,c1,rfl,H1,_⟩:=h.sH;have ak:n1≤100000000000:=by rw[H1.out];exact hl
 have ac:=C2h how w;cases hq:lF how with
 | false=>
  have HN:Hid (rF how l = []):=by show _=_;unfold rF;rw[hq];rfl
  rw[hq] at ac;clear hq;go_enter Tryz.func79,Tryz.ntmps79;go_wp2_with fail
  refine ac.mono ?_;rintro e w1 ⟨rfl,rfl⟩;go_wp2;go_ret;exact⟨none,0,0,rfl,by rw[HN.out];exact Row.nil _ _ _,zH _ _⟩
 | true=>
 have HN:Hid (rF how l=l.flatMap (kputB how)):=by show _=_;unfold rF;rw[hq];rfl
 rw[hq] at ac;clear hq;go_enter Tryz.func79,Tryz.ntmps79;go_wp2_with fail
 refine ac.mono ?_;rintro e w1 ⟨rfl,rfl⟩;go_wp2_with fail
 go_loopg [5,14] n1 (fun m u i wr=>∃ (k:Nat) (ao:Option Addr) (no co:Nat),k+m=n1∧i = .int .i64 k∧u = .slice ao no co∧Row ekY wr w.heap.size (.slice ao no co) ((l.take k).flatMap (kputB how))∧zB w wr)
 case atStart=>exact⟨0,none,0,0,by omega,rfl,rfl,by rw[mA];exact Row.nil _ _ _,zH _ _⟩
 obtain⟨k,ao,no,co,hk,rfl,rfl,hr,hb⟩:=hrel;by_cases hlt:k<n1
 ·obtain⟨x,Hx⟩:=yE (l:=l) (k:=k) (by rw[←H1.out];exact hlt);obtain⟨b,off,rfl,hat⟩:=(h.bL UAt.sT hb).get UAt.plain Hx.out;have s0:wr.cell? ⟨b,off+k,none⟩=some (.int .u64 (x:Int)):=by simpa [UAt] using hat
  have aj:(k:Int)<(n1:Int):=by omega
  have hlk:((l.take k).flatMap (kputB how)).length≤10000000000000:=by
   have:=VX (l:=l.take k) (f:=kputB how) (c:=10) fun a _=>YR how a
   rw[vZ] at this;omega
  have ah:=B0r w.heap.size _ _ how x wr hr hb.size (hm x (xV Hx.out)) hlk;clear hat;go_wp2_with fail
  refine ah.mono ?_;rintro e w2 ⟨v2,rfl,hr2,hb2⟩;obtain⟨a2,n2,c2,rfl,_⟩:=hr2.shape';have ag:Row ekY w2 w.heap.size (.slice a2 n2 c2) ((l.take (k+1)).flatMap (kputB how)):=by rw[TL Hx.out];exact hr2
  clear hr2;go_wp2_with fail
  go_roundg (n1-(k+1))
  case measure=>omega
  case rel=>exact⟨k+1,a2,n2,c2,by omega,by go_num,rfl,ag,hb.trans hb2⟩
 have hr1:Row ekY wr w.heap.size (.slice ao no co) (rF how l):=by
  rw[uP (by rw[←H1.out];omega)] at hr;rw[HN.out];exact hr
 clear hr;go_wp2;go_ret;exact⟨ao,no,co,rfl,hr1,hb⟩
theorem WZ (w:World)(n:Nat):∀ ad,some (⟨w.heap.size,0,none⟩:Addr)=some ad→∀ k y,[n][k]?=some y→∀ j u,(ekU.enc y)[j]?=some u→(w.alloc (.cells #[.int .u64 (n:Int)] 64)).cell? (ad.add (k*ekU.size+j))=some u:=mL ekU w n
theorem UN {l:List Nat}(h:RdL 1 UAt w v l)(hm:∀ n∈l,n≤18446744073709551615)(hl:l.length≤100000000000){fn:Nat}(au:∀ (args:Array Value) (w:World),(callFunc fn args).run Tryz.prog w = .ok (.enter fn args) w)
  {one:Nat→Nat}(ag:∀ (n:Nat) (W:World),n≤18446744073709551615→Calls Tryz.prog fn #[.int .u64 (n:Int)] W fun e w'=>e = .returned (.int .u64 ((one n:Nat):Int))∧W=w') :
  Calls Tryz.prog 144 #[v,.func (.func fn) #[] #[]] w fun e w'=>∃ ao n cap,e = .returned (.slice ao n cap)∧Row ekU w' w.heap.size (.slice ao n cap) (l.map one)∧zB w w':=by
 obtain⟨a1,n1,c1,rfl,H1,_⟩:=h.sH;have aw:n1≤100000000000:=by rw[H1.out];exact hl
 go_enter Tryz.func144,Tryz.ntmps144;go_wp2_with fail
 go_loopg [5,10] n1 (fun m u i wr=>∃ (k:Nat) (ao:Option Addr) (no co:Nat),k+m=n1∧i = .int .i64 k∧u = .slice ao no co∧Row ekU wr w.heap.size (.slice ao no co) ((l.map one).take k)∧zB w wr)
 case atStart=>exact⟨0,none,0,0,by omega,rfl,rfl,by rw[mA];exact Row.nil _ _ _,zH _ _⟩
 case round=>
  obtain⟨k,ao,no,co,hk,rfl,rfl,hr,hb⟩:=hrel;by_cases hlt:k<n1
  ·obtain⟨x,Hx⟩:=yE (l:=l) (k:=k) (by rw[←H1.out];exact hlt);obtain⟨b,off,rfl,hat⟩:=(h.bL UAt.sT hb).get UAt.plain Hx.out;have s0:wr.cell? ⟨b,off+k,none⟩=some (.int .u64 (x:Int)):=by simpa [UAt] using hat
   have av:(k:Int)<(n1:Int):=by omega
   have ac:=ag x wr (hm x (xV Hx.out));obtain⟨y,Hy⟩:=yP (one x);rw[Hy.out] at ac;have ak:=fun k (hk:(Value.slice ao no co).ownBlock=some k)=>(hr.own k hk).1
   have hlk:((l.map one).take k).length≤100000000000:=by rw[vZ];omega
   clear hat;go_wp2_with fail
   refine ac.mono ?_;rintro e w2 ⟨rfl,rfl⟩;go_wp2_with (at_builtin;refine tP (by rfl) ekU _ _ (by rfl) w.heap.size (.slice ao no co) ((l.map one).take k) [y] (by rfl) (hr.bL ((zH _ _).alloc (zG _) _)) (some ⟨wr.heap.size,0,none⟩) 1 1 (by rfl) (by rfl) (by intro e;cases e) (WZ wr y) (by decide) ?d2 ?d3 ?_)
   case d2=>simp[ekU];omega
   case d3=>simp;have:=hb.size;omega
   intro v' w3 hr3 hg3;obtain⟨a2,n2,c2,rfl,_⟩:=hr3.shape';have aj:=(hb.alloc hb.size _).grown hg3 (by simp;have:=hb.size;omega) ak;have ah:Row ekU w3 w.heap.size (.slice a2 n2 c2) ((l.map one).take (k+1)):=by
    rw[vX (a:=y) (by rw[sE,Hx.out,←Hy.out];rfl)];exact hr3
   clear hr3;go_wp2_with fail
   go_roundg (n1-(k+1))
   case measure=>omega
   case rel=>exact⟨k+1,a2,n2,c2,by omega,by go_num,rfl,ah,aj⟩
  ·have hr1:Row ekU wr w.heap.size (.slice ao no co) (l.map one):=by
    rw[uP (by rw[yX,←H1.out];omega)] at hr;exact hr
   clear hr;go_wp2;go_ret;exact⟨ao,no,co,rfl,hr1,hb⟩
def xN (kind:Int)(n:Nat):Nat:=
 if kind=2 then(IntKind.u64.wrap (oM (n:Int))).toNat
 else if kind=4 then min n 1
 else if kind=5 then(if n%4294967296<2147483648 then n%4294967296 else n%4294967296+18446744069414584320)
 else n
def fL (kind:Int)(fn:Nat):Prop:=
 (∀ (args:Array Value) (w:World),(callFunc fn args).run Tryz.prog w = .ok (.enter fn args) w)∧∀ (n:Nat) (W:World),n≤18446744073709551615→Calls Tryz.prog fn #[.int .u64 (n:Int)] W fun e w'=>e = .returned (.int .u64 ((xN kind n:Nat):Int))∧W=w'
theorem aF{P:Prop}(h:P:=by
 show _=_;have h0:0≤IntKind.u64.wrap (oM (n:Int)):=by rw[IntKind.wrap_u64];omega
 unfold xN;rw[zF rfl,Int.toNat_of_nonneg h0]):P:=h
theorem XU{P:Prop}(h:P:=by
 go_wp2_with fail
 refine ho.mono ?_;rintro e w1 ⟨rfl,rfl⟩;go_wp2_with fail
 go_ret;exact⟨by rw[HT.out];rfl,rfl⟩):P:=h
theorem D4m (n:Nat)(w:World)(hn:n≤18446744073709551615):Calls Tryz.prog 204 #[.int .u64 (n:Int)] w fun e w'=>e = .returned (.int .u64 ((xN 2 n:Nat):Int))∧w=w':=by
 have ho:=D4r (n:Int) w (by omega) (by omega);have HT:Hid (((xN 2 n:Nat):Int)=IntKind.u64.wrap (oM (n:Int))):=by
  exact aF
 go_enter Tryz.func204,Tryz.ntmps204;exact XU
theorem D4n (n:Nat)(w:World)(hn:n≤18446744073709551615):Calls Tryz.prog 206 #[.int .u64 (n:Int)] w fun e w'=>e = .returned (.int .u64 ((xN 4 n:Nat):Int))∧w=w':=by
 have HT:Hid (((xN 4 n:Nat):Int)=min (n:Int) 1):=by
  show _=_;unfold xN;rw[zC (by decide),zF rfl];omega
 go_enter Tryz.func206,Tryz.ntmps206;go_wp2_with fail
 all_goals
  go_ret
  first
   | exact⟨by rw[HT.out,show min (n:Int) 1=1 by omega];rfl,rfl⟩
   | exact⟨by rw[HT.out,show min (n:Int) 1=n by omega];rfl,rfl⟩
   | exact⟨by rw[HT.out];rfl,rfl⟩
theorem D4o (n:Nat)(w:World)(hn:n≤18446744073709551615):Calls Tryz.prog 207 #[.int .u64 (n:Int)] w fun e w'=>e = .returned (.int .u64 ((xN 5 n:Nat):Int))∧w=w':=by
 have HT:Hid (((xN 5 n:Nat):Int)=IntKind.u64.wrap (wrap32 (n:Int))):=by
  show _=_;unfold xN;rw[zC (by decide),zC (by decide),zF rfl,IntKind.wrap_u64,wrap32];split <;> omega
 go_enter Tryz.func207,Tryz.ntmps207;go_wp2_with fail
 go_ret;exact⟨by rw[HT.out];rfl,rfl⟩
theorem D4p (n:Nat)(w:World):Calls Tryz.prog 208 #[.int .u64 (n:Int)] w fun e w'=>e = .returned (.int .u64 (n:Int))∧w=w':=by
 go_enter Tryz.func208,Tryz.ntmps208;exact Qg3
theorem XV{P:Prop}(h:P:=by
 go_enter Tryz.func176,Tryz.ntmps176;go_wp2;go_ret;exact⟨_,rfl,HF.out,rfl⟩):P:=h
theorem B8d (kind:Int)(w:World):Calls Tryz.prog 176 #[.int .i64 kind] w fun e w'=>∃ fn:Nat,e = .returned (.func (.func fn) #[] #[])∧fL kind fn∧w=w':=by
 by_cases h2:kind=2
 ·subst h2;have HF:Hid (fL 2 204):=⟨enters_of Tryz.func204 (by kernel_rfl) rfl,D4m⟩
  exact XV
 have b2:=beq_eq_false_iff_ne.2 h2;by_cases h4:kind=4
 ·subst h4;have HF:Hid (fL 4 206):=⟨enters_of Tryz.func206 (by kernel_rfl) rfl,D4n⟩
  clear h2;exact XV
 have b4:=beq_eq_false_iff_ne.2 h4;by_cases h5:kind=5
 ·subst h5;have HF:Hid (fL 5 207):=⟨enters_of Tryz.func207 (by kernel_rfl) rfl,D4o⟩
  clear h2 h4;exact XV
 have b5:=beq_eq_false_iff_ne.2 h5;have HF:Hid (fL kind 208):=⟨enters_of Tryz.func208 (by kernel_rfl) rfl,fun n W hn=>by
  have:xN kind n=n:=by unfold xN;rw[zC h2,zC h4,zC h5]
  rw[this];exact D4p n W⟩
 clear h2 h4 h5;exact XV
theorem fN (h:RdL 1 YAt w (.slice ao n cap) l):RdA w ao n cap l:=by
 obtain⟨ac,n',cap',e,h1,h2,h3,h4,h5⟩:=h;cases e
 refine⟨h1,h2,h3,fun e=>(h4 e).2,fun x hx i hi=>?_⟩;have hi':i<l.length:=by omega
 have:=h5 x hx i l[i] (vG hi');rw[tS] at this;rw[pG,vG hi'];exact this
def tE (how:Int):Nat→List UInt8→List Nat→List Nat×Nat
 | 0,_,acc=>(acc,0)
 | f+1,l,acc=>if l.length=0 then(acc,0) else
  if (vD l how).2.2≠0 then([],(vD l how).2.2) else tE how f (l.drop (vD l how).2.1) (acc++[(vD l how).1])
def iJ (how:Int)(l:List UInt8):List Nat×Nat:=tE how l.length l []
theorem YN (h:RdA w ao n cap l)(hb:zB w w'):RdA w' ao n cap l:=⟨h.1,h.2.1,h.2.2.1,h.2.2.2.1,fun x hx i hi=>zQ hb (h.2.2.2.2 x hx i hi)⟩
theorem C1s (hh:how=0∨how=1∨how=5)(hz:(vD l how).2.2=0):1≤(vD l how).2.1:=by
 unfold vD at hz ⊢;split
 ·rename_i h0;rw[zF h0] at hz;obtain⟨N,K,E,hg⟩:∃ N K E,yZ 0 0 l=(N,K,E):=⟨_,_,_,rfl⟩
  rw[hg] at hz ⊢;exact(lN hg).2.2.2.2 hz
 rename_i h0;rw[zC h0] at hz;split
 ·rename_i h1;rw[zF h1] at hz;cases hz
 show 1≤tG how;rcases hh with h|h|h
 ·exact absurd h h0
 ·subst h;decide
 subst h;decide
theorem D2d (h:l.length=0):tE how f l acc=(acc,0):=by
 cases f with
 | zero=>rfl
 | succ f=>unfold tE;rw[zF h]
theorem D2e (h:l.length≠0)(hb:vD l how=(A,B,C))(hC:C≠0):tE how (f+1) l acc=([],C):=by
 unfold tE;rw[zC h,hb,zF hC]
theorem D7f (h:l.length≠0)(hb:vD l how=(A,B,0)):tE how (f+1) l acc=tE how f (l.drop B) (acc++[A]):=by
 rw[tE.eq_2,zC h,hb,zC (by simp)]
theorem B9e (h:RdL 1 YAt w (.slice ao n cap) l)(hl:l.length≤4000)(how:Int)(hh:how=0∨how=1∨how=5) :
  Calls Tryz.prog 177 #[.int .i64 how,.slice ao n cap] w fun e w'=>∃ (a:Option Addr) (m c:Nat),e = .returned (.tuple #[.slice a m c,.int .i64 (((iJ how l).2:Nat):Int)])∧Row ekU w' w.heap.size (.slice a m c) (iJ how l).1∧zB w w':=by
 have hr:=fN h;have HN:=zI h.len.1;have hn:n≤4000:=by rw[HN.out];exact hl
 have hkb:=C2h how w;have bg:lF how=true:=by rcases hh with h|h|h <;> subst h <;> decide
 rw[bg] at hkb;obtain⟨R,HR⟩:=yP (iJ how l);rw[HR.out];have HH:=zI hh;have bl:=zI hr;clear h hl hh bg hr;go_enter Tryz.func177,Tryz.ntmps177;go_wp2_with fail
 refine hkb.mono ?_;rintro e w1 ⟨rfl,rfl⟩;clear hkb;go_wp2_with fail
 go_loopg [1,6] n (fun gm s1 s6 wr=>∃ (k f:Nat) (a1:Option Addr) (a2:Option Addr) (m2 c2:Nat) (acc:List Nat),k+gm=n∧gm≤f∧s1 = .slice a1 (n-k) (cap-k)∧s6 = .slice a2 m2 c2∧Hid (RdA w a1 (n-k) (cap-k) (l.drop k))∧Row ekU wr w.heap.size (.slice a2 m2 c2) acc∧acc.length≤k∧Hid (tE how f (l.drop k) acc=R)∧zB w wr)
 case atStart=>exact⟨0,n,ao,none,0,0,[],by omega,zG _,rfl,rfl,bl,Row.nil _ _ _,by simp,by rw[HN.out];exact HR.out,zH _ _⟩
 obtain⟨k,f,a1,a2,m2,c2,acc,hk,hf,rfl,rfl,HA,hrow,di,HU,hb⟩:=hrel;have HL:Hid ((l.drop k).length=n-k):=by show _=_;rw[vE,←HN.out]
 by_cases hlt:k<n
 ·have au:decide ((0:Int)<((n-k:Nat):Int))=true:=by simp;omega
  obtain⟨A,B,C,Hb⟩:∃ A B C,Hid (vD (l.drop k) how=(A,B,C)):=⟨_,_,_,rfl⟩
  obtain⟨cw,aw,df,dg⟩:=cC Hb.out;rw[HL.out] at aw;have hgb:=fun V (hV:zB w V)=>B4h (YN HA.out hV) how Hb.out
  have bc:=hgb wr hb;obtain⟨f',rfl⟩:∃ f',f=f'+1:=⟨f-1,by omega⟩
  have hne:(l.drop k).length≠0:=by rw[HL.out];omega
  by_cases hC:C=0
  ·subst hC;have dh:1≤B:=by
    have:=C1s (l:=l.drop k) HH.out (by rw[Hb.out]);rw[Hb.out] at this;exact this
   have ac:Hid (tE how f' ((l.drop k).drop B) (acc++[A])=R):=by show _=_;rw[←HU.out,D7f hne Hb.out]
   obtain⟨a3,cj,ag⟩:=cR HA.out (show B≤n-k from aw) .i64;have ah:Hid (RdA w a3 (n-(k+B)) (cap-(k+B)) (l.drop (k+B))):=by
    have e1:n-k-B=n-(k+B):=by omega
    have e2:cap-k-B=cap-(k+B):=by omega
    rw[e1,e2,nW] at ag;exact ag
   have e1:n-k-B=n-(k+B):=by omega
   have e2:cap-k-B=cap-(k+B):=by omega
   rw[e1,e2] at cj;have bn:Hid (tE how f' (l.drop (k+B)) (acc++[A])=R):=by rw[←nW];exact ac
   obtain⟨X1,aj⟩:=zM ((wr.alloc (.cells #[.int .u64 (A:Int)] 64)).drew);have ba:zB wr X1:=by rw[aj.out];exact((zH _ _).alloc (zG _) _).drew
   have cu:X1.heap[wr.heap.size]?=some (.cells #[.int .u64 (A:Int)] 64 (0,0)):=by rw[aj.out];exact yM wr _
   have av:=mJ (E:=ekU) (y0:=A) cu rfl;have bk:=hrow.bL ba;have ak:=zK hb ba;have hlen:(acc.length+([A]:List Nat).length)*ekU.bytes≤140737488355328:=by show(_+1)*8≤_;omega
   have hown:=bk.own;clear ag hne Hb e1 e2;go_upto_region 5 with fail
   go_wp2_with fail
   refine bc.mono ?_;rintro e w2 ⟨rfl,rfl⟩;go_upto_region 8 with fail
   refine wp_region_held_drew (S:=fun _=>True) (by kernel_rfl) trivial (fun hHeld=>?_);refine zTk 0 rfl (fun _ h=>h) ?_
   try simp only[zE]
   refine zTk 1 rfl (fun _ h=>h) ?_
   try simp only[zE]
   refine zTk 4 rfl (fun _ h=>h) ?_
   try simp only[zE]
   refine zTk 5 rfl (fun _ h=>h) ?_
   try simp only[zE]
   refine zTk 6 rfl (fun _ h=>h) ?_
   try simp only[zE]
   refine rA (i:=2) rfl fun K hK=>?_
   go_simp;rw[←aj.out];refine hK.out _ _ ?_ (fun hHeld=>?_)
   ·(try dsimp only);try exact trivial
   clear hK K
   try simp only[zE]
   refine rA (i:=3) rfl fun K hK=>?_
   skip;refine vS (by rfl) ekU _ _ (by rfl) w.heap.size (.slice a2 m2 c2) acc [A] (by rfl) bk (some ⟨wr.heap.size,0,none⟩) 1 1 (by rfl) rfl (fun h=>by cases h) av (by decide) hlen ak.size ?_;intro v5 w5 bh cg;obtain⟨a5,n5,c5,rfl,H5⟩:=bh.shape';have bu:=ak.grown cg ak.size (fun k hk=>(hown k hk).1);refine hK.out _ _ ?_ (fun hHeld=>?_)
   ·(try dsimp only);try exact trivial
   clear hK K
   try simp only[zE]
   refine zTk 7 rfl (fun _ h=>h) ?_
   try simp only[zE]
   refine zTk 8 rfl (fun _ h=>h) ?_
   try simp only[zE]
   refine wpAnyH_done (by kernel_rfl) ?_ _;go_wp2_with fail
   go_roundg (n-(k+B))
   case measure=>omega
   case rel=>exact⟨k+B,f',a3,a5,n5,c5,acc++[A],by omega,by omega,rfl,rfl,ah,bh,by rw[yQ];simp;omega,bn,bu⟩
  have ec:((C:Int) != 0)=true:=by simp;omega
  have ac:Hid (R=([],C)):=by show _=_;rw[←HU.out,D2e hne Hb.out hC]
  clear hC hne Hb;go_wp2_with fail
  refine bc.mono ?_;rintro e w2 ⟨rfl,rfl⟩;go_wp2_with fail
  go_ret2;exact⟨none,0,0,by rw[ac.out];rfl,by rw[ac.out];exact Row.nil _ _ _,hb⟩
 have au:decide ((0:Int)<((n-k:Nat):Int))=false:=by simp;omega
 have ac:Hid (R=(acc,0)):=by show _=_;rw[←HU.out,D2d (by rw[HL.out];omega)]
 go_wp2_with fail
 go_ret2;exact⟨a2,m2,c2,by rw[ac.out];rfl,by rw[ac.out];exact hrow,hb⟩
theorem YA (k:Int)(w:World):Calls Tryz.prog 4 #[.int .i64 k] w fun e w'=>e = .returned (.int .i64 (yI k))∧w=w':=by
 by_cases h:k=6∨k=7∨k=8∨k=9∨k=10
 ·rcases h with rfl|rfl|rfl|rfl|rfl
  all_goals
   go_enter Tryz.func4,Tryz.ntmps4;exact Qg3
 have e:yI k=0:=by unfold yI;rw[zC (by omega),zC (by omega),zC (by omega)]
 rw[e];have b6:(k==6)=false:=beq_eq_false_iff_ne.2 (by omega);have b7:(k==7)=false:=beq_eq_false_iff_ne.2 (by omega);have b8:(k==8)=false:=beq_eq_false_iff_ne.2 (by omega);have b9:(k==9)=false:=beq_eq_false_iff_ne.2 (by omega);have ac:(k==10)=false:=beq_eq_false_iff_ne.2 (by omega);clear e h;go_enter Tryz.func4,Tryz.ntmps4;exact Qg3
theorem C2c {k:Int}(h:yI k≠2):yI k=0∨yI k=1∨yI k=5:=by
 unfold yI at h ⊢;split
 ·exact .inr (.inl rfl)
 split
 ·exact .inr (.inr rfl)
 split
 ·rename_i h1 h2 h3;rw[zC h1,zC h2,zF h3] at h;exact absurd rfl h
 exact .inl rfl
def fdV (x:FI):Value:=.agg #[.string (S x.name),.int .i64 x.nU,.int .i64 x.kind,.string (S x.type),.bool x.many,.int .i64 x.cE]
def fdC (x:FI):Array Value:=#[.string (S x.name),.int .i64 x.nU,.int .i64 x.kind,.string (S x.type),.bool x.many,.int .i64 x.cE]
def tnN (x:FI)(r:RI):List Nat×Nat:=
 if r.how=yI x.kind then([xN x.kind r.bits],0)
 else if r.how=2∧x.many=true then((iJ (yI x.kind) r.bytes).1.map (xN x.kind),(iJ (yI x.kind) r.bytes).2)
 else([],8)
theorem WU {how:Int}:∀ {f:Nat}{l:List UInt8}{acc:List Nat},(tE how f l acc).1.length≤acc.length+f
 | 0,_,_=>by simp[tE]
 | f+1,l,acc=>by
  unfold tE
  split
  ·simp
  ·split
   ·simp
   ·have:=WU (how:=how) (f:=f) (l:=l.drop (vD l how).2.1) (acc:=acc++[(vD l how).1])
    rw[yQ] at this
    simp at this
    omega
theorem WV {how:Int}:∀ {f:Nat}{l:List UInt8}{acc:List Nat},(∀ n∈acc,n≤18446744073709551615)→∀ n∈(tE how f l acc).1,n≤18446744073709551615
 | 0,_,_,h=>by simpa [tE] using h
 | f+1,l,acc,h=>by
  unfold tE
  split
  ·exact h
  ·split
   ·intro n hn;simp at hn
   ·refine WV fun n hn=>?_
    rcases zU.1 hn with hn|hn
    ·exact h n hn
    ·obtain⟨A,B,C,hb⟩:∃ A B C,vD l how=(A,B,C):=⟨_,_,_,rfl⟩
     rw[zS.1 hn,hb]
     exact(cC hb).1
theorem B3b (x:FI)(hx:yI x.kind≠2)(r:RI)(h:RdL 1 YAt w (.slice ao n cap) r.bytes)(hl:r.bytes.length≤4000)(hb:r.bits≤18446744073709551615) :
  Calls Tryz.prog 100 #[fdV x,.agg #[.int .i64 r.nU,.int .i64 r.how,.int .u64 (r.bits:Int),.slice ao n cap]] w fun e w'=>∃ (a:Option Addr) (m c:Nat),e = .returned (.tuple #[.slice a m c,.int .i64 (((tnN x r).2:Nat):Int)])∧Row ekU w' w.heap.size (.slice a m c) (tnN x r).1∧zB w w':=by
 obtain⟨H,HH⟩:=yP (yI x.kind);have aj:=C2c hx;rw[HH.out] at aj;obtain⟨W2,bc,hb2,hz2,x1,x2⟩:=uD w (.cells (fdC x) 47) (.cells #[.int .i64 r.nU,.int .i64 r.how,.int .u64 (r.bits:Int),.slice ao n cap] 78);have ag:∀ V,zB W2 V→(V.cell? ⟨w.heap.size,2,none⟩=some (.int .i64 x.kind)∧V.cell? ⟨w.heap.size,4,none⟩=some (.bool x.many))∧V.cell? ⟨w.heap.size+1,1,none⟩=some (.int .i64 r.how)∧V.cell? ⟨w.heap.size+1,2,none⟩=some (.int .u64 (r.bits:Int))∧V.cell? ⟨w.heap.size+1,3,none⟩=some (.slice ao n cap):=fun V hV=>by
  have y1:=(zN hV).trans x1;have y2:=(zN hV).trans x2;exact⟨⟨zL y1 2 _ rfl,zL y1 4 _ rfl⟩,zL y2 1 _ rfl,zL y2 2 _ rfl,zL y2 3 _ rfl⟩
 have bu:∀ V,Calls Tryz.prog 4 #[.int .i64 x.kind] V fun e w'=>e = .returned (.int .i64 H)∧V=w':=fun V=>by
  have:=YA x.kind V;rw[HH.out] at this;exact this
 obtain⟨R,HR⟩:=yP (tnN x r);rw[HR.out];have hD:zB W2 W2.drew:=(zH _ _).drew;have au:=B8d x.kind W2.drew;have ba:=zI h;have aw:=zI aj;obtain⟨⟨t0,t1⟩,t2,t3,t4⟩:=ag W2.drew hD;clear h hx aj x1 x2;unfold fdV;go_enter Tryz.func100,Tryz.ntmps100;go_upto_region 1 with fail
 rw[show(#[.string (S x.name),.int .i64 x.nU,.int .i64 x.kind,.string (S x.type),.bool x.many,.int .i64 x.cE]:Array Value)=fdC x from rfl,←bc.out];go_cut [6,7] from 10 to 15 (fun s6 s7 wc=>∃ fn:Nat,s6 = .int .i64 H∧s7 = .func (.func fn) #[] #[]∧fL x.kind fn∧zB W2 wc)
 case first=>
  refine wp_region_held_drew (S:=fun V=>zB W2 V) (by kernel_rfl) hD (fun hHeld=>?_);refine zTk 0 rfl ag ?_
  try simp only[zE]
  refine zTk 1 rfl ag ?_
  try simp only[zE]
  refine zTk 3 rfl ag ?_
  try simp only[zE]
  refine zTk 4 rfl ag ?_
  try simp only[zE]
  refine rA (i:=2) rfl fun K hK=>?_
  go_simp;refine(bu _).mono ?_;rintro r w3 ⟨rfl,rfl⟩;refine hK.out _ _ ?_ (fun hHeld=>?_)
  ·(try dsimp only);with_reducible exact hD
  clear hK K
  try simp only[zE]
  refine rA (i:=5) rfl fun K hK=>?_
  go_simp;refine au.mono ?_;rintro r w4 ⟨fn,rfl,hfn,rfl⟩;refine hK.out _ _ ?_ (fun hHeld=>?_)
  ·(try dsimp only);with_reducible exact hD
  clear hK K
  try simp only[zE]
  refine zTk 6 rfl ag ?_
  try simp only[zE]
  refine zTk 7 rfl ag ?_
  try simp only[zE]
  refine wpAnyH_done (by kernel_rfl) ?_ _;go_wp2_with fail
  go_meet;exact⟨fn,rfl,rfl,hfn,hD⟩
 case rest=>
 obtain⟨fn,rfl,rfl,hfn,ac⟩:=hcut;clear t0 t1 t2 t3 t4 au;obtain⟨⟨t0,t1⟩,t2,t3,t4⟩:=ag wc ac;clear ag;have bn:=hfn.1;have ah:=hfn.2 r.bits wc hb;by_cases h1:r.how=H
 ·have e1:=beq_iff_eq.2 h1;have HT:Hid (R=([xN x.kind r.bits],0)):=by show _=_;rw[←HR.out];unfold tnN;rw[HH.out,zF h1]
  obtain⟨T,ak⟩:=yP (xN x.kind r.bits);rw[ak.out] at ah;rw[ak.out] at HT;clear h1;go_wp2_with fail
  refine ah.mono ?_;rintro e w3 ⟨rfl,rfl⟩;go_wp2_with fail
  go_ret2;refine⟨some ⟨wc.heap.size,0,none⟩,1,1,by rw[HT.out];rfl,?_,(zK hb2 ac).alloc (zK hb2 ac).size _⟩;rw[HT.out];exact Row.one ekU wc T (zK hb2 ac).size
 have e1:=beq_eq_false_iff_ne.2 h1;by_cases h2:r.how=2
 ·have e2:=beq_iff_eq.2 h2;cases hm:x.many with
  | true=>
   obtain⟨U,HU⟩:=yP (iJ H r.bytes);have HT:Hid (R=(U.1.map (xN x.kind),U.2)):=by show _=_;rw[←HR.out];unfold tnN;rw[HH.out,zC h1,zF ⟨h2,hm⟩,HU.out]
   have av:=B9e (ba.out.bL YAt.sT (zK hb2 ac)) hl H aw.out;rw[HU.out] at av;have bh:U.1.length≤100000000000:=by
    have:=WU (how:=H) (f:=r.bytes.length) (l:=r.bytes) (acc:=[]);have e:tE H r.bytes.length r.bytes []=U:=HU.out;rw[e] at this;simp at this;omega
   have bk:∀ n∈U.1,n≤18446744073709551615:=by
    have:=WV (how:=H) (f:=r.bytes.length) (l:=r.bytes) (acc:=[]) (by simp);have e:tE H r.bytes.length r.bytes []=U:=HU.out;rw[e] at this;exact this
   rw[hm] at t1;clear h1 h2 hm;go_wp2_with fail
   refine av.mono ?_;rintro e w3 ⟨a3,n3,c3,rfl,hr3,hb3⟩;have bl:=UN hr3.rdU bk bh hfn.1 hfn.2;clear t0 t1 t2 t3 t4;go_wp2_with fail
   refine bl.mono ?_;rintro e w4 ⟨a4,n4,c4,rfl,hr4,hb4⟩;have bg:=zK (zK (zK hb2 ac) hb3) hb4;have hz:=(zK (zK hb2 ac) hb3).size;go_wp2_with fail
   go_ret2;exact⟨a4,n4,c4,by rw[HT.out];rfl,by rw[HT.out];exact hr4.mono hz,bg⟩
  | false=>
  have HT:Hid (R=([],8)):=by show _=_;rw[←HR.out];unfold tnN;rw[HH.out,zC h1,zC (by rw[hm];simp)]
  rw[hm] at t1;clear h1 h2 hm;go_wp2_with fail
  go_ret2;exact⟨none,0,0,by rw[HT.out];rfl,by rw[HT.out];exact Row.nil _ _ _,zK hb2 ac⟩
 have e2:=beq_eq_false_iff_ne.2 h2;have HT:Hid (R=([],8)):=by show _=_;rw[←HR.out];unfold tnN;rw[HH.out,zC h1,zC (fun h=>h2 h.1)]
 clear h1 h2;go_wp2_with fail
 go_ret2;exact⟨none,0,0,by rw[HT.out];rfl,by rw[HT.out];exact Row.nil _ _ _,zK hb2 ac⟩
theorem D2y (n:Nat)(w:World):Calls Tryz.prog 189 #[.int .u64 (n:Int)] w fun e w'=>e = .returned (.int .u64 ((wH 2 n:Nat):Int))∧w=w':=by
 have hw : -9223372036854775808≤IntKind.i64.wrap (n:Int)∧IntKind.i64.wrap (n:Int)≤9223372036854775807:=by rw[IntKind.wrap_i64];omega
 have hf:=C8y (IntKind.i64.wrap (n:Int)) w hw.1 hw.2;have h0:=(VW _ hw.1 hw.2).1;have HN:Hid (((wH 2 n:Nat):Int)=pM (IntKind.i64.wrap (n:Int))):=by
  show _=_;unfold wH;rw[zF rfl];omega
 clear h0;have ac:wrap64 (n:Int)=IntKind.i64.wrap (n:Int):=by rw[IntKind.wrap_i64,wrap64]
 rw[←ac] at hf HN;clear hw ac;go_enter Tryz.func189,Tryz.ntmps189;go_wp2_with fail
 refine hf.mono ?_;exact aG
theorem D2z (n:Nat)(w:World):Calls Tryz.prog 191 #[.int .u64 (n:Int)] w fun e w'=>e = .returned (.int .u64 (n:Int))∧w=w':=by
 go_enter Tryz.func191,Tryz.ntmps191;exact Qg3
theorem qW{P:Prop}(h:P:=by
 go_enter Tryz.func76,Tryz.ntmps76;go_wp2_with fail
 refine ac.mono ?_;rintro e w1 ⟨rfl,rfl⟩;go_wp2_with fail
 refine he.mono ?_;rintro e w2 ⟨ao,n,cap,rfl,hr,hb2⟩;go_wp2;go_ret;exact⟨ao,n,cap,rfl,hr,hb2⟩):P:=h
theorem D3a {l:List Nat}(h:RdL 1 UAt w v l)(hm:∀ n∈l,n≤18446744073709551615)(hl:l.length≤100000000000)(kind:Int) :
  Calls Tryz.prog 76 #[.int .i64 kind,v] w fun e w'=>∃ ao n cap,e = .returned (.slice ao n cap)∧Row ekU w' w.heap.size (.slice ao n cap) (l.map (wH kind))∧zB w w':=by
 obtain⟨a1,n1,c1,rfl,H1,_⟩:=h.sH;by_cases hk:kind=2
 ·subst hk;have he:=UN h hm hl (enters_of Tryz.func189 (by kernel_rfl) rfl) (one:=wH 2) (fun n W _=>D2y n W);have hb:∀ W,Calls Tryz.prog 145 #[.int .i64 2] W fun e w'=>e = .returned (.func (.func 189) #[] #[])∧W=w':=fun W=>by
   go_enter Tryz.func145,Tryz.ntmps145;exact Qg3
  have ac:=hb w;exact qW
 have hk2:(kind==2)=false:=by simp[hk]
 have he:=UN h hm hl (enters_of Tryz.func191 (by kernel_rfl) rfl) (one:=wH kind) (fun n W _=>by
  have e:wH kind n=n:=by unfold wH;rw[zC hk]
  rw[e];exact D2z n W)
 have hb:∀ W,Calls Tryz.prog 145 #[.int .i64 kind] W fun e w'=>e = .returned (.func (.func 191) #[] #[])∧W=w':=fun W=>by
  clear he;go_enter Tryz.func145,Tryz.ntmps145;exact Qg3
 have ac:=hb w;clear hk2 hk;exact qW
theorem YQ (a b:Int):(ktagN a b).length≤10:=cL _
theorem dP (kind:Int)(n:Nat)(hn:n≤18446744073709551615):wH kind n≤18446744073709551615:=by
 unfold wH;split
 ·have hw : -9223372036854775808≤IntKind.i64.wrap (n:Int)∧IntKind.i64.wrap (n:Int)≤9223372036854775807:=by rw[IntKind.wrap_i64];omega
  have:=VW _ hw.1 hw.2;omega
 exact hn
def recN (num how:Int)(bits:Nat)(l:List UInt8):List UInt8:=ktagN num how++(if how=2 then uF l.length++l else kputB how bits)
theorem dT (num how:Int)(bits:Nat)(l:List UInt8):(recN num how bits l).length≤20+l.length:=by
 unfold recN;rw[yQ];have h1:=YQ num how;split
 ·rw[yQ];have:=cL l.length;omega
 have:=YR how bits;omega
theorem B2u (h:RdL 1 YAt w v l)(num how:Int)(bits:Nat)(hb:bits≤18446744073709551615)(hl:l.length≤1000000000000)(h1:0≤num)(h2:num≤536870912)(h3:0≤how)(h4:how≤7) :
  Calls Tryz.prog 149 #[.agg #[.int .i64 num,.int .i64 how,.int .u64 (bits:Int),v]] w fun e w'=>∃ ao n cap,e = .returned (.slice ao n cap)∧Row ekY w' w.heap.size (.slice ao n cap) (recN num how bits l)∧zB w w':=by
 obtain⟨a1,n1,c1,rfl,H1,aw⟩:=h.sH;obtain⟨W0,ak,hb0,x0,hz0⟩:=zV w (.cells #[.int .i64 num,.int .i64 how,.int .u64 (bits:Int),.slice a1 n1 c1] 78);have aj:=D4e W0.heap.size (.slice none 0 0) [] num how W0 (Row.nil _ _ _) (zG _) h1 h2 h3 h4 (by simp);have hT:=YQ num how;go_enter Tryz.func149,Tryz.ntmps149;go_wp2_with fail
 rw[←ak.out];refine aj.mono ?_;rintro e w1 ⟨v1,rfl,hr1,hb1⟩;rw[tH] at hr1;obtain⟨a2,n2,c2,rfl,_⟩:=hr1.shape';obtain⟨t0,t1,t2,t3⟩:=vI ((zN hb1).trans x0);have av:=zK hb0 hb1;clear aj;by_cases hh:how=2
 ·have hq:(how==2)=true:=by simp[hh]
  have HN:Hid (recN num how bits l=ktagN num how++uF l.length++l):=by show _=_;unfold recN;rw[zF hh,vY]
  have hput:=UK W0.heap.size _ _ l.length w1 hr1 hb1.size (by rw[←H1.out];omega) (by omega);rw[←H1.out] at hput;have hP:=cL n1;clear hh;go_wp2_with fail
  refine hput.mono ?_;rintro e w2 ⟨v2,rfl,hr2,hb2⟩;obtain⟨a3,n3,c3,rfl,_⟩:=hr2.shape';have ac:=hb1.trans hb2;obtain⟨p0,p1,p2,p3⟩:=vI ((zN ac).trans x0);have ah:=zK hb0 ac;obtain⟨q1,q2,q3⟩:=fM (h.bL YAt.sT ah);clear hput t0 t1 t2 t3 hr1;go_wp2_with (at_builtin;refine tP (by rfl) ekY _ _ (by rfl) W0.heap.size (.slice a3 n3 c3) _ l (by rfl) hr2 a1 n1 c1 (by rfl) q1 q2 q3 (by decide) ?d2 ac.size ?_)
  case d2=>
   rw[show ekY.bytes=1 from rfl,tS];simp only[yQ];omega
  intro v' w3 hr3 hg3;obtain⟨a4,n4,c4,rfl,_⟩:=hr3.shape';have au:=ac.grown hg3 ac.size (fun k hk=>(hr2.own k hk).1);have ag:Row ekY w3 w.heap.size (.slice a4 n4 c4) (recN num how bits l):=by
   rw[HN.out,←H1.out,vY];exact hr3.mono (by omega)
  clear hr3;go_wp2;go_ret;exact⟨a4,n4,c4,rfl,ag,zK hb0 au⟩
 have hq:(how==2)=false:=by simp[hh]
 have HN:Hid (recN num how bits l=ktagN num how++kputB how bits):=by show _=_;unfold recN;rw[zC hh]
 have hput:=B0r W0.heap.size _ _ how bits w1 hr1 hb1.size hb (by omega);clear hh;go_wp2_with fail
 refine hput.mono ?_;rintro e w2 ⟨v2,rfl,hr2,hb2⟩;obtain⟨a3,n3,c3,rfl,_⟩:=hr2.shape';have ac:=hb1.trans hb2;have ag:Row ekY w2 w.heap.size (.slice a3 n3 c3) (recN num how bits l):=by
  rw[HN.out];exact hr2.mono (by omega)
 clear hr2 hput;go_wp2;go_ret;exact⟨a3,n3,c3,rfl,ag,zK hb0 ac⟩
theorem D4c (h:RdL 1 YAt w v l)(num how:Int)(bits:Nat)(hb:bits≤18446744073709551615)(hl:l.length≤1000000000000)(h1:0≤num)(h2:num≤536870912)(h3:0≤how)(h4:how≤7)
  {no co:Nat}{acc:List UInt8}(ag:Row ekY w base (.slice ao no co) acc) (ah:base≤w.heap.size) (av:acc.length≤10000000000000) :
  Calls Tryz.prog 83 #[.slice ao no co,.agg #[.int .i64 num,.int .i64 how,.int .u64 (bits:Int),v]] w fun e w'=>∃ a n c,e = .returned (.slice a n c)∧Row ekY w' base (.slice a n c) (acc++recN num how bits l)∧Below base w w':=by
 obtain⟨a1,n1,c1,rfl,H1,aw⟩:=h.sH;obtain⟨W0,ak,hb0,-,hz0⟩:=zV w (.cells #[.int .i64 num,.int .i64 how,.int .u64 (bits:Int),.slice a1 n1 c1] 78);have aj:=B2u (h.bL YAt.sT hb0) num how bits hb hl h1 h2 h3 h4;have hL:=dT num how bits l;go_enter Tryz.func83,Tryz.ntmps83;go_wp2_with fail
 rw[←ak.out];refine aj.mono ?_;rintro e w1 ⟨a2,n2,c2,rfl,hr1,hb1⟩;have ac:=zK hb0 hb1;obtain⟨q1,q2,q3⟩:=fM hr1.rdY;have ha1:=ag.bL ac;clear aj;go_wp2_with (at_builtin;refine tP (by rfl) ekY _ _ (by rfl) base (.slice ao no co) _ (recN num how bits l) (by rfl) ha1 a2 n2 c2 (by rfl) q1 q2 q3 (by decide) ?d2 (yN ah ac.size) ?_)
 case d2=>
  rw[show ekY.bytes=1 from rfl,tS];omega
 intro v' w3 hr3 hg3;obtain⟨a4,n4,c4,rfl,_⟩:=hr3.shape';have au:=(ac.mono ah).grown hg3 (yN ah ac.size) (fun k hk=>(ha1.own k hk).1);go_wp2;go_ret;exact⟨a4,n4,c4,rfl,hr3,au⟩
theorem D2t {num:Int}{bits:Nat}(h:yW num how bits len=0):(how=0∨how=1∨how=2∨how=5)∧1≤num∧num<536870912:=by
 unfold yW at h;split at h
 ·cases h
 rename_i hh;have ac:how=0∨how=1∨how=2∨how=5:=by
  unfold vV at hh;have:=nS (Bool.of_not_eq_false hh);exact this
 split at h
 ·cases h
 split at h
 ·cases h
 exact⟨ac,by omega,by omega⟩
def RecL (W w:World)(base:Nat)(v:Value)(l:List RI):Prop:=∃ l':List (RI×PV),Row ekR w base v l'∧l'.map Prod.fst=l∧∀ r∈l',RdL 1 YAt W r.2.v r.1.bytes∨Row ekY w base r.2.v r.1.bytes
theorem RecL.nil (W w:World)(base:Nat):RecL W w base (.slice none 0 0) []:=⟨[],Row.nil _ _ _,rfl,fun _ h=>by cases h⟩
theorem RecL.bL {l:List RI}(h:RecL W w base v l)(hb:zB w w'):RecL W w' base v l:=by
 obtain⟨l',h1,h2,h3⟩:=h;exact⟨l',h1.bL hb,h2,fun r hr=>(h3 r hr).imp id fun k=>k.bL hb⟩
theorem RecL.mono {base':Nat}{l:List RI}(h:RecL W w base v l)(hb:base'≤base):RecL W w base' v l:=by
 obtain⟨l',h1,h2,h3⟩:=h;exact⟨l',h1.mono hb,h2,fun r hr=>(h3 r hr).imp id fun k=>k.mono hb⟩
theorem RecL.rd {l:List RI}(h:RecL W w base v l)(hW:zB W w):RdL 4 RAt w v l:=by
 obtain⟨l',h1,rfl,h3⟩:=h;refine D0j (P:=fun w x (p:RI×PV)=>w.cell? x=some (.int .i64 p.1.nU)∧w.cell? (x.add 1)=some (.int .i64 p.1.how)∧w.cell? (x.add 2)=some (.int .u64 (p.1.bits:Int))∧w.cell? (x.add 3)=some p.2.v) Prod.fst (h1.rd _ fun g i a hc=>?_) ?_
 ·refine⟨by simpa using hc 0 _ rfl,?_,?_,?_⟩ <;> rw[xS]
  ·exact hc 1 _ rfl
  ·exact hc 2 _ rfl
  exact hc 3 _ rfl
 rintro x p hp ⟨e0,e1,e2,e3⟩;exact⟨p.2.v,e0,e1,e2,e3,(h3 p hp).elim (fun k=>k.bL YAt.sT hW) fun k=>k.rdY⟩
theorem RecL.sH {l:List RI}(h:RecL W w base v l):∃ ao n cap,v = .slice ao n cap∧Hid (n=l.length):=by
 obtain⟨l',h1,rfl,_⟩:=h;obtain⟨ao,n,cap,e,hn⟩:=h1.shape';exact⟨ao,n,cap,e,by show _=_;rw[hn.out];simp⟩
theorem D1g {l:List α}(h:Row E w base (.slice ao n cap) l):l.length=n∧(ao=none→n=0∧cap=0)∧∀ ad,ao=some ad→∀ k y,l[k]?=some y→∀ j u,(E.enc y)[j]?=some u→w.cell? (ad.add (k*E.size+j))=some u:=by
 refine⟨h.len.symm,fun e=>?_,fun ad had k y hy j u hu=>?_⟩
 ·subst e;rcases h.2 with⟨hv,hn⟩|⟨g,cap',cur,hv,_⟩
  ·simp at hv;exact⟨by rw[h.len];exact hn,hv.2⟩
  simp at hv
 obtain⟨g,hg,hc⟩:=h.get hy;rw[had] at hg;cases hg
 rw[xS,tU];exact hc j u hu
theorem RecL.app {v':Value}{l m:List RI}{l' m':List (RI×PV)}{o:Option Obj}(ac:Row ekR w base v l')(hl2:l'.map Prod.fst=l)(ag:∀ r∈l',RdL 1 YAt W r.2.v r.1.bytes∨Row ekY w base r.2.v r.1.bytes)(ah:m'.map Prod.fst=m)(aj:∀ r∈m',RdL 1 YAt W r.2.v r.1.bytes∨Row ekY w base r.2.v r.1.bytes)(hr:Row ekR w' base v' (l'++m'))(hg:w.grownBy w' v.ownBlock)(_:o=none):RecL W w' base v' (l++m):=by
 refine⟨l'++m',hr,by rw[wM,hl2,ah],fun r ak=>?_⟩;rcases zU.1 ak with h|h
 ·exact(ag r h).imp id fun k=>k.grown hg (k.ne ac (by decide))
 exact(aj r h).imp id fun k=>k.grown hg (k.ne ac (by decide))
theorem TF {α β:Type}:∀ (l:List α) (Q:Nat→α→β→Prop),(∀ k a,l[k]?=some a→∃ b,Q k a b)→∃ l':List (α×β),l'.map Prod.fst=l∧∀ k p,l'[k]?=some p→Q k p.1 p.2
 | [],_,_=>⟨[],rfl,fun k p h=>by simp at h⟩
 | a::l,Q,h=>by
  obtain⟨b,hb⟩:=h 0 a rfl
  obtain⟨l',h1,h2⟩:=TF l (fun k=>Q (k+1)) fun k x hx=>h (k+1) x (by simpa using hx)
  refine⟨(a,b)::l',by simp[h1],fun k p hp=>?_⟩
  cases k with
  | zero=>
   have hp:(a,b)=p:=by simpa using hp
   subst hp
   exact hb
  | succ k=>exact h2 k p (by simpa using hp)
theorem D0t {l:List RI}(h:RdL 4 RAt w (.slice ao n cap) l):∃ l':List (RI×PV),l'.map Prod.fst=l∧(∀ r∈l',RdL 1 YAt w r.2.v r.1.bytes)∧l'.length=n∧(ao=none→n=0∧cap=0)∧∀ ad,ao=some ad→∀ k y,l'[k]?=some y→∀ j u,(ekR.enc y)[j]?=some u→w.cell? (ad.add (k*ekR.size+j))=some u:=by
 obtain⟨ac,_,_⟩:=h.len;have hnil:ao=none→n=0∧cap=0:=by obtain⟨ag,n',cap',e,_,_,_,h4,_⟩:=h;cases e;exact h4
 obtain⟨l',h1,h2⟩:=TF l (fun k r (p:PV)=>∀ b off,ao=some ⟨b,off,none⟩→w.cell? ⟨b,off+k*4,none⟩=some (.int .i64 r.nU)∧w.cell? ⟨b,off+k*4+1,none⟩=some (.int .i64 r.how)∧w.cell? ⟨b,off+k*4+2,none⟩=some (.int .u64 (r.bits:Int))∧w.cell? ⟨b,off+k*4+3,none⟩=some p.v∧RdL 1 YAt w p.v r.bytes) fun k a ha=>by
  obtain⟨b,off,e,hat⟩:=h.get RAt.plain ha;obtain⟨v,s0,s1,s2,s3,hr⟩:=hat.at;obtain⟨a3,n3,c3,rfl,_,_⟩:=hr.sH;refine⟨(a3,n3,c3),fun b' off' e'=>?_⟩;rw[e] at e';cases e'
  exact⟨s0,s1,s2,s3,hr⟩
 refine⟨l',h1,fun r hr=>?_,by rw[ac,←h1];simp,hnil,fun ad had k y hy j u hu=>?_⟩
 ·obtain⟨k,hk⟩:=List.mem_iff_getElem?.1 hr;have ha:l[k]?=some r.1:=by rw[←h1,sE,hk];rfl
  obtain⟨b,off,e,_⟩:=h.get RAt.plain ha;exact(h2 k r hk b off e).2.2.2.2
 have ha:l[k]?=some y.1:=by rw[←h1,sE,hy];rfl
 obtain⟨b,off,e,_⟩:=h.get RAt.plain ha;obtain⟨s0,s1,s2,s3,_⟩:=h2 k y hy b off e;rw[had] at e;cases e
 rw[xS];show w.cell? ⟨b,off+(k*4+j),none⟩=some u;rw[←Nat.add_assoc]
 match j,hu with
 | 0,hu=>
  have hu:Value.int .i64 y.1.nU=u:=by simpa [ekR,pI] using hu
  rw[←hu];exact s0
 | 1,hu=>
  have hu:Value.int .i64 y.1.how=u:=by simpa [ekR,pI] using hu
  rw[←hu];exact s1
 | 2,hu=>
  have hu:Value.int .u64 (y.1.bits:Int)=u:=by simpa [ekR,pI] using hu
  rw[←hu];exact s2
 | 3,hu=>
  have hu:y.2.v=u:=by simpa [ekR,pI] using hu
  rw[←hu];exact s3
 | j+4,hu=>simp[ekR,pI] at hu
def rL:List UInt8→List RI→List UInt8×Int
 | acc,[]=>(acc,0)
 | acc,r::rs=>if yW r.nU r.how r.bits r.bytes.length≠0 then([],yW r.nU r.how r.bits r.bytes.length) else if 4000<(acc++recN r.nU r.how r.bits r.bytes).length then([],4) else rL (acc++recN r.nU r.how r.bits r.bytes) rs
theorem D3d {l:List RI}{r:RI}(h:l[k]?=some r)(acc:List UInt8):rL acc (l.drop k)=if yW r.nU r.how r.bits r.bytes.length≠0 then([],yW r.nU r.how r.bits r.bytes.length) else if 4000<(acc++recN r.nU r.how r.bits r.bytes).length then([],4) else rL (acc++recN r.nU r.how r.bits r.bytes) (l.drop (k+1)):=by
 obtain⟨hk,rfl⟩:=yG.1 h;rw[uQ hk];rfl
theorem C6w {l:List RI}(h:RdL 4 RAt w v l)(hs:∀ r∈l,r.bits≤18446744073709551615∧r.bytes.length≤100000000) :
  Calls Tryz.prog 31 #[v] w fun e w'=>∃ ao n cap bg,e = .returned (.tuple #[.slice ao n cap,.agg #[.int .i64 (rL [] l).2,.int .i64 bg]])∧Row ekY w' w.heap.size (.slice ao n cap) (rL [] l).1∧zB w w':=by
 obtain⟨a1,n1,c1,rfl,H1,dh⟩:=h.sH;obtain⟨q,Hq⟩:=yP (rL [] l);rw[Hq.out];obtain⟨W0,bc,hb0,x0,hz0⟩:=zV w (.cells #[.int .i64 0,.int .i64 0] 54);go_enter Tryz.func31,Tryz.ntmps31;go_wp2_with fail
 rw[←bc.out];go_loopg [4,10] n1 (fun m u i wr=>∃ (k:Nat) (ao:Option Addr) (no co:Nat) (acc:List UInt8),k+m=n1∧i = .int .i64 k∧u = .slice ao no co∧Row ekY wr W0.heap.size (.slice ao no co) acc∧acc.length≤4000∧Hid (rL acc (l.drop k)=q)∧zB W0 wr)
 case atStart=>exact⟨0,none,0,0,[],by omega,rfl,rfl,Row.nil _ _ _,by simp,Hq,zH _ _⟩
 obtain⟨k,ao,no,co,acc,hk,rfl,rfl,hr,bk,HK,hb⟩:=hrel;have aw:=zK hb0 hb;have di:=hb.size;by_cases hlt:k<n1
 ·obtain⟨x,Hx⟩:=yE (l:=l) (k:=k) (by rw[←H1.out];exact hlt);obtain⟨b,off,rfl,hat⟩:=(h.bL RAt.sT aw).get RAt.plain Hx.out;obtain⟨vx,s0,s1,s2,s3,ba⟩:=hat.at;obtain⟨ax,nx,cx,rfl,av,cw⟩:=ba.sH;have dg:(k:Int)<(n1:Int):=by omega
  obtain⟨bl,hlx⟩:=hs x (xV Hx.out);obtain⟨W1,au,hb1,x1,hz1⟩:=zV wr (.cells #[.int .i64 x.nU,.int .i64 x.how,.int .u64 (x.bits:Int),.slice ax nx cx] 78);have hwr:=A9u x.nU x.how x.bits ax nx cx W1 cw;rw[av.out] at hwr;have HS:=D3d Hx.out acc;obtain⟨E,HE⟩:=yP (yW x.nU x.how x.bits x.bytes.length);rw[HE.out] at hwr HS;rw[←av.out] at hwr;clear hat;by_cases hE:E=0
  ·have bh:(E != 0)=false:=by simp[hE]
   obtain⟨bn,cg,cj⟩:=D2t (HE.out.trans hE);rw[zC (by simp[hE])] at HS;have HS:=zI HS;have df:=dT x.nU x.how x.bits x.bytes;clear hE;go_wp2_with fail
   rw[←au.out];refine hwr.mono ?_;rintro e w2 ⟨rfl,hb2⟩;obtain⟨t0,t1,t2,t3⟩:=vI ((zN hb2).trans x1);have ag:=zK hb1 hb2;have had:=D4c (ba.bL YAt.sT ag) x.nU x.how x.bits bl (by omega) (by omega) (by omega) (by omega) (by omega) (hr.bL ag) (yN hb.size ag.size) (by omega);clear hwr hr;go_wp2_with fail
   refine had.mono ?_;rintro e w3 ⟨a3,n3,c3,rfl,hr3,hb3⟩;have aj:=(zK hb ag).trans hb3;have ak:=hr3.len;have ah:=zI ak;have cu:n3≤1000000000:=by rw[ak,yQ];omega
   clear ak;by_cases h4:4000<n3
   ·have hi:(4000:Int)<(n3:Int):=by omega
    have ac:Hid (q=([],4)):=by
     show _=_;rw[←HK.out,HS.out,←ah.out,zF h4]
    have x3:=(zN aj).trans x0;obtain⟨t0,t1⟩:=zO x3;have f0:=zJ x3;clear HS;go_wp2_with fail
    refine bodyPost_ret (v:=.tuple #[.slice none 0 0,.agg #[.int .i64 4,.int .i64 (k:Int)]]) (by simp[results,Tryz.results31,go_sem, *]) rfl ?_;exact⟨none,0,0,(k:Int),by rw[ac.out],by rw[ac.out];exact Row.nil _ _ _,zT (zT (zK hb0 aj) (zG _)) (zG _)⟩
   have hi:¬ (4000:Int)<(n3:Int):=by omega
   have ac:Hid (rL (acc++recN x.nU x.how x.bits x.bytes) (l.drop (k+1))=q):=by
    show _=_;rw[←HK.out,HS.out,←ah.out,zC h4]
   have bu:(acc++recN x.nU x.how x.bits x.bytes).length≤4000:=by rw[←ah.out];omega
   clear HS;go_wp2_with fail
   go_roundg (n1-(k+1))
   case measure=>omega
   case rel=>exact⟨k+1,a3,n3,c3,_,by omega,by go_num,rfl,hr3,bu,ac,aj⟩
  have bh:(E != 0)=true:=by simpa using hE
  have ac:Hid (q=([],E)):=by
   show _=_;rw[←HK.out,HS,zF hE]
  clear hE HS;go_wp2_with fail
  rw[←au.out];refine hwr.mono ?_;rintro e w2 ⟨rfl,hb2⟩;have ag:=zK hb (zK hb1 hb2);have x3:=(zN ag).trans x0;obtain⟨t0,t1⟩:=zO x3;have f0:=zJ x3;go_wp2_with fail
  refine bodyPost_ret (v:=.tuple #[.slice none 0 0,.agg #[.int .i64 E,.int .i64 (k:Int)]]) (by simp[results,Tryz.results31,go_sem, *]) rfl ?_;exact⟨none,0,0,(k:Int),by rw[ac.out],by rw[ac.out];exact Row.nil _ _ _,zT (zT (zK hb0 ag) (zG _)) (zG _)⟩
 have ac:Hid (q=(acc,0)):=by
  show _=_;rw[←HK.out,nC (by rw[←H1.out];omega)];rfl
 have x3:=(zN hb).trans x0;obtain⟨t0,t1⟩:=zO x3;have f0:=zJ x3;go_wp2_with fail
 refine bodyPost_ret (v:=.tuple #[.slice ao no co,.agg #[.int .i64 0,.int .i64 0]]) (by simp[results,Tryz.results31,go_sem, *]) rfl ?_;exact⟨ao,no,co,0,by rw[ac.out],by rw[ac.out];exact((hr.low (by omega) 0 _).low (by omega) 1 _).mono (by omega),zT (zT aw (zG _)) (zG _)⟩
def VSm {β:Type}(Q : β→Prop)(v:VI β):Prop:=v.bits.length≤1048576∧(∀ n∈v.bits,n≤18446744073709551615)∧v.bytes.length≤1048576∧(∀ z∈v.bytes,z.length≤1048576)∧v.subs.length≤1048576∧∀ s∈v.subs,Q s
def KQ:(d:Nat)→World→Value→Value→BI d→Prop
 | 0=>fun _ _ _ _=>False
 | d+1=>fun w v0 v1 b=>BRd d w v0 v1 b
theorem KQ.bL:∀ {d:Nat}{w w':World}{v0 v1:Value}{x:BI d},KQ d w v0 v1 x→zB w w'→KQ d w' v0 v1 x
 | 0,_,_,_,_,_,h,_=>h
 | _+1,_,_,_,_,_,h,hb=>BRd.bL h hb
theorem BAt.kq:∀ {d:Nat}{w:World}{b o:Nat}{x:BI d},BAt d w ⟨b,o,none⟩ x→∃ v0 v1,w.cell? ⟨b,o,none⟩=some v0∧w.cell? ⟨b,o+1,none⟩=some v1∧KQ d w v0 v1 x
 | 0,_,_,_,_,h=>h.elim
 | _+1,_,_,_,_,h=>h.at
theorem KQ.sH:∀ {d:Nat}{w:World}{v0 v1:Value}{x:BI d},KQ d w v0 v1 x→∃ a0 n0 c0 a1 n1 c1,v0 = .slice a0 n0 c0∧v1 = .slice a1 n1 c1
 | 0,_,_,_,_,h=>h.elim
 | _+1,_,_,_,_,h=>by
  obtain⟨a0,n0,c0,e0,_,_⟩:=h.1.sH
  obtain⟨a1,n1,c1,e1,_,_⟩:=h.2.sH
  exact⟨a0,n0,c0,a1,n1,c1,e0,e1⟩
theorem TX (how:Int)(l:List Nat):(rF how l).length≤l.length*10:=by
 unfold rF;split
 ·exact VX fun n _=>YR how n
 simp
theorem B7c (w:World)(o o':Obj):zB w ((w.alloc o).alloc o'):=((zH _ _).alloc (zG _) _).alloc (by simp) _
theorem ZV (n:Nat)(w:World)(hn:n≤18446744073709551615) :
  Calls Tryz.prog 86 #[.int .u64 (n:Int)] w fun e w'=>∃ ao m cap,e = .returned (.slice ao m cap)∧Row ekY w' w.heap.size (.slice ao m cap) (uF n)∧zB w w':=by
 have H0:Hid (([]:List UInt8)++sR 10 n=uF n):=rfl;go_enter Tryz.func86,Tryz.ntmps86;go_wp2;go_loopw [0,3] (fun i u wr=>∃ (f m:Nat) (l':List UInt8),i = .int .u64 (m:Int)∧m≤18446744073709551615∧Hid (m<2 ^ (7*(f+1)))∧f≤9∧l'.length+f≤10∧Row ekY wr w.heap.size u l'∧zB w wr∧Hid (l'++sR (f+1) m=uF n))
  (fun i _ _=>(intOf i).toNat)
 case atStart=>exact⟨9,n,[],rfl,hn,by show n<2 ^ (7*10);omega,zG _,by simp,Row.nil _ _ _,zH _ _,H0⟩
 obtain⟨f,m,l',rfl,hm,hf,ak,hlen,hown,ac,HR⟩:=hrel;have ah:=ac.size;have ag:=fun k (hk:u3.ownBlock=some k)=>(hown.own k hk).1
 by_cases hs:m<128
 ·go_wp2_with (at_builtin;refine tP (by rfl) ekY _ _ (by rfl) w.heap.size _ l' [UInt8.ofNat m] (by rfl) (fQ hown _) (some ⟨wr.heap.size,0,none⟩) 1 1 (by rfl) (by rfl) (by intro e;cases e) ?c1 (by decide) ?c2 ?c3 ?_)
  case c1=>
   refine fS wr _ _ ?_;simp;omega
  case c2=>simp[ekY];omega
  case c3=>simp;omega
  intro v' w1 h1 h2;obtain⟨a5,n5,c5,rfl,_⟩:=h1.shape';go_wp2;go_ret;refine⟨a5,n5,c5,rfl,?_,(ac.alloc ah _).grown h2 (by simp;omega) ag⟩;rw[←HR.out,dU hs];exact h1
 obtain⟨c,Hc⟩:=zM (UInt8.ofNat (m%128+128));go_wp2_with (at_builtin;refine tP (by rfl) ekY _ _ (by rfl) w.heap.size _ l' [c] (by rfl) (fQ hown _) (some ⟨wr.heap.size,0,none⟩) 1 1 (by rfl) (by rfl) (by intro e;cases e) ?d1 (by decide) ?d2 ?d3 ?_)
 case d1=>
  refine fS wr _ _ ?_;rw[Hc.out];simp;omega
 case d2=>simp[ekY];omega
 case d3=>simp;omega
 intro v' w1 h1 h2;have aj:=(ac.alloc ah _).grown h2 (by simp;omega) ag;go_wp2;go_roundw
 case rel=>
  have hf2:=C9b hf.out hs;obtain⟨g,rfl⟩:∃ g,f=g+1:=⟨f-1,by omega⟩
  refine⟨g,m / 128,l'++[c],by go_num,by omega,B7s hf.out,by omega,by simp;omega,h1,aj,?_⟩;show _=_;rw[←HR.out,ZP hs,vY,Hc.out];rfl
 case measure=>simp[intOf];omega
theorem C9a (k n:Nat):klow (k+1) n=klow k n++[UInt8.ofNat (n / 256 ^ k)]:=by
 induction k generalizing n with
 | zero=>simp[klow]
 | succ k ih=>
 rw[klow,ih,klow,lT,Nat.div_div_eq_div_mul,Nat.pow_succ,mT (256 ^ k)]
theorem C3g (n W:Nat)(w:World)(hn:n≤18446744073709551615)(hW:W≤8) :
  Calls Tryz.prog 87 #[.int .u64 (n:Int),.int .i64 (W:Int)] w fun e w'=>∃ ao m cap,e = .returned (.slice ao m cap)∧Row ekY w' w.heap.size (.slice ao m cap) (klow W n)∧zB w w':=by
 go_enter Tryz.func87,Tryz.ntmps87;go_wp2;go_loopw [5,6] (fun u i wr=>∃ (k:Nat),i = .int .i64 (k:Int)∧k≤W∧Row ekY wr w.heap.size u (klow k n)∧zB w wr)
  (fun _ i _=>W-(intOf i).toNat)
 case atStart=>exact⟨0,rfl,by omega,Row.nil _ _ _,zH _ _⟩
 obtain⟨k,rfl,hk,hown,ac⟩:=hrel;have aj:=ac.size;have hlen:=C2i k n;have ah:=fun k (hk:u5.ownBlock=some k)=>(hown.own k hk).1
 by_cases hlt:k<W
 ·obtain⟨c,Hc⟩:=zM (UInt8.ofNat (n / 256 ^ k));go_wp2_with (at_builtin;refine tP (by rfl) ekY _ _ (by rfl) w.heap.size _ (klow k n) [c] (by rfl) (fQ hown _) (some ⟨wr.heap.size,0,none⟩) 1 1 (by rfl) (by rfl) (by intro e;cases e) ?d1 (by decide) ?d2 ?d3 ?_)
  case d1=>
   refine fS wr _ _ ?_;rw[Hc.out,UInt8.toNat_ofNat',show(256:Nat)=2 ^ 8 from rfl,←Nat.pow_mul];simp
  case d2=>simp[ekY];omega
  case d3=>simp;omega
  intro v' w2 h1 h2;have ag:=(ac.alloc aj _).grown h2 (by simp;omega) ah;go_wp2;go_roundw
  case rel=>
   refine⟨k+1,by go_num,by omega,?_,ag⟩;rw[C9a,←Hc.out];exact h1
  case measure=>simp[intOf];omega
 obtain⟨a5,n5,c5,rfl,_⟩:=hown.shape';have ak:k=W:=by omega
 subst ak;go_wp2;go_ret;exact⟨a5,n5,c5,rfl,hown,ac⟩
theorem D0z (n:Int)(w:World)(hl : -9223372036854775808≤n)(hu:n≤9223372036854775807) :
  Calls Tryz.prog 151 #[.int .i64 n] w fun e w'=>e = .returned (.int .u64 (pM n))∧w=w':=by
 by_cases h:n<0
 ·have e:=B7l h;rw[e];go_enter Tryz.func151,Tryz.ntmps151;go_wp2;go_ret;exact⟨ZY (by omega),rfl⟩
 rw[B7m (by omega)];go_enter Tryz.func151,Tryz.ntmps151;go_wp2;go_ret;exact⟨ZY (by omega),rfl⟩
theorem D1i (kind:Int)(n:Nat)(w:World)(hn:n≤18446744073709551615) :
  Calls Tryz.prog 88 #[.int .i64 kind,.int .u64 (n:Int)] w fun e w'=>e = .returned (.int .u64 ((wH kind n:Nat):Int))∧w=w':=by
 by_cases h2:kind=2
 ·subst h2;have hw : -9223372036854775808≤IntKind.i64.wrap (n:Int)∧IntKind.i64.wrap (n:Int)≤9223372036854775807:=by rw[IntKind.wrap_i64];omega
  have hf:=D0z (IntKind.i64.wrap (n:Int)) w hw.1 hw.2;have h0:=(VW _ hw.1 hw.2).1;have HN:Hid (((wH 2 n:Nat):Int)=pM (IntKind.i64.wrap (n:Int))):=by
   show _=_;unfold wH;rw[zF rfl];omega
  clear h0;have ac:wrap64 (n:Int)=IntKind.i64.wrap (n:Int):=by rw[IntKind.wrap_i64,wrap64]
  rw[←ac] at hf HN;clear hw ac;go_enter Tryz.func88,Tryz.ntmps88;go_wp2_with fail
  refine hf.mono ?_;exact aG
 have b2:=beq_eq_false_iff_ne.2 h2;have e:wH kind n=n:=by unfold wH;rw[zC h2]
 rw[e];clear h2;go_enter Tryz.func88,Tryz.ntmps88;exact Qg3
theorem eU{P:Prop}(h:P:=by
 clear HX e2 e0;go_enter Tryz.func33,Tryz.ntmps33;go_wp2_with fail
 rw[←ba.out];refine ah.mono ?_;rintro e w1 ⟨a2,n2,c2,rfl,hr1,aj⟩;obtain⟨t0,t1,t2,t3⟩:=vI ((zN aj).trans x0);have ak:=hq w1;clear ah hq;go_wp2_with fail
 refine ak.mono ?_;rintro e w3 ⟨a3,n3,c3,rfl,hr3,hb3⟩;have ag:=zK aj hb3;have ac:=hr1.bL hb3;obtain⟨q1,q2,q3⟩:=fM hr3.rdY;clear ak;go_wp2_with (at_builtin;refine tP (by rfl) ekY _ _ (by rfl) W0.heap.size (.slice a2 n2 c2) _ X (by rfl) ac a3 n3 c3 (by rfl) q1 q2 q3 (by decide) ?d2 ag.size ?_)
 case d2=>
  rw[show ekY.bytes=1 from rfl,tS];omega
 intro v' w5 au aw;obtain⟨a5,n5,c5,rfl,_⟩:=au.shape';have av:=ag.grown aw ag.size (fun k hk=>(ac.own k hk).1);go_wp2;go_ret;exact⟨a5,n5,c5,rfl,by rw[HN.out];exact au.mono (by omega),zK hb0 av⟩):P:=h
theorem D1d (h:RdL 1 YAt w v l)(num how:Int)(bits:Nat)(hb:bits≤18446744073709551615)(hl:l.length≤1000000000000)(h1:0≤num)(h2:num≤536870912)(hh:how=0∨how=1∨how=2∨how=5)(e2:¬ how=2) :
  Calls Tryz.prog 33 #[.agg #[.int .i64 num,.int .i64 how,.int .u64 (bits:Int),v]] w fun e w'=>∃ ao n cap,e = .returned (.slice ao n cap)∧Row ekY w' w.heap.size (.slice ao n cap) (recN num how bits l)∧zB w w':=by
 obtain⟨a1,n1,c1,rfl,H1,bk⟩:=h.sH;obtain⟨W0,ba,hb0,x0,hz0⟩:=zV w (.cells #[.int .i64 num,.int .i64 how,.int .u64 (bits:Int),.slice a1 n1 c1] 78);have hT:=YQ num how;have bg:0≤how:=by omega
 have bh:how≤7:=by omega
 have ah:=ZV (num.toNat*8+how.toNat) W0 (by omega);rw[show(((num.toNat*8+how.toNat:Nat)):Int)=8*num+how by omega] at ah;have ah:Calls Tryz.prog 86 #[.int .u64 (8*num+how)] W0 fun e w'=>∃ ao m cap,e = .returned (.slice ao m cap)∧Row ekY w' W0.heap.size (.slice ao m cap) (ktagN num how)∧zB W0 w':=ah
 obtain⟨X,HX⟩:=zM (kputB how bits);have HN:Hid (recN num how bits l=ktagN num how++X):=by show _=_;unfold recN;rw[zC e2,HX.out]
 have bc:X.length≤10:=by rw[HX.out];exact YR _ _
 rcases hh with e0|e0|e0|e0
 ·have b0:(how==0)=true:=by simp[e0]
  have hq:∀ V,Calls Tryz.prog 86 #[.int .u64 (bits:Int)] V fun e w'=>∃ ao m cap,e = .returned (.slice ao m cap)∧Row ekY w' V.heap.size (.slice ao m cap) X∧zB V w':=fun V=>by rw[HX.out,e0];exact ZV bits V hb
  exact eU
 ·have b0:(how==0)=false:=by simp[e0]
  have b1:(how==1)=true:=by simp[e0]
  have hq:∀ V,Calls Tryz.prog 87 #[.int .u64 (bits:Int),.int .i64 8] V fun e w'=>∃ ao m cap,e = .returned (.slice ao m cap)∧Row ekY w' V.heap.size (.slice ao m cap) X∧zB V w':=fun V=>by rw[HX.out,e0];exact C3g bits 8 V hb (by omega)
  exact eU
 ·exact absurd e0 e2
 have b0:(how==0)=false:=by simp[e0]
 have b1:(how==1)=false:=by simp[e0]
 have b5:(how==5)=true:=by simp[e0]
 have hq:∀ V,Calls Tryz.prog 87 #[.int .u64 (bits:Int),.int .i64 4] V fun e w'=>∃ ao m cap,e = .returned (.slice ao m cap)∧Row ekY w' V.heap.size (.slice ao m cap) X∧zB V w':=fun V=>by rw[HX.out,e0];exact C3g bits 4 V hb (by omega)
 exact eU
theorem D1c (h:RdL 1 YAt w v l)(num how:Int)(bits:Nat)(hb:bits≤18446744073709551615)(hl:l.length≤1000000000000)(h1:0≤num)(h2:num≤536870912)(e2:how=2) :
  Calls Tryz.prog 33 #[.agg #[.int .i64 num,.int .i64 how,.int .u64 (bits:Int),v]] w fun e w'=>∃ ao n cap,e = .returned (.slice ao n cap)∧Row ekY w' w.heap.size (.slice ao n cap) (recN num how bits l)∧zB w w':=by
 obtain⟨a1,n1,c1,rfl,H1,dg⟩:=h.sH;obtain⟨W0,bl,hb0,x0,hz0⟩:=zV w (.cells #[.int .i64 num,.int .i64 how,.int .u64 (bits:Int),.slice a1 n1 c1] 78);have hT:=YQ num how;have cw:0≤how:=by omega
 have df:how≤7:=by omega
 have ag:=ZV (num.toNat*8+how.toNat) W0 (by omega);rw[show(((num.toNat*8+how.toNat:Nat)):Int)=8*num+how by omega] at ag;have bk:Calls Tryz.prog 86 #[.int .u64 (8*num+how)] W0 fun e w'=>∃ ao m cap,e = .returned (.slice ao m cap)∧Row ekY w' W0.heap.size (.slice ao m cap) (ktagN num how)∧zB W0 w':=ag
 clear ag;have HN:Hid (recN num how bits l=ktagN num how++uF l.length++l):=by show _=_;unfold recN;rw[zF e2,vY]
 have b0:(how==0)=false:=by simp[e2]
 have b1:(how==1)=false:=by simp[e2]
 have b5:(how==5)=false:=by simp[e2]
 have hP:=cL l.length;clear e2;go_enter Tryz.func33,Tryz.ntmps33;go_wp2_with fail
 rw[←bl.out];refine bk.mono ?_;rintro e w1 ⟨a2,n2,c2,rfl,hr1,aj⟩;obtain⟨t0,t1,t2,t3⟩:=vI ((zN aj).trans x0);have bn:=zK hb0 aj;have cu:=aj.size;have bh:∀ V,zB w1 V→Calls Tryz.prog 86 #[.int .u64 (IntKind.u64.wrap (n1:Int))] V fun e w'=>∃ ao m cap,e = .returned (.slice ao m cap)∧Row ekY w' V.heap.size (.slice ao m cap) (uF l.length)∧zB V w':=fun V hV=>by
  have:=ZV l.length V (by rw[←H1.out];omega);rw[show IntKind.u64.wrap (n1:Int)=(n1:Int) by rw[IntKind.wrap_u64];omega];rw[←H1.out] at this ⊢;exact this
 have bu:=fun V (hV:zB W0 V)=>yH hV ((vI ((zN hV).trans x0)).2.2.2)
 have hd:zB w1 w1.drew:=(zH _ _).drew;have bg:=aj.drew;have cj:=bh w1.drew hd;have ba:∀ V,zB w V→a1=none∨True→l.length=n1∧(a1=none→n1=0∧c1=0)∧∀ ad,a1=some ad→∀ k y,l[k]?=some y→∀ j u,(ekY.enc y)[j]?=some u→V.cell? (ad.add (k*ekY.size+j))=some u:=fun V hV _=>fM (h.bL YAt.sT hV)
 clear bk bh;go_wp2_with fail
 go_region_held3 (fun V=>zB W0 V∧V.cell? ⟨w.heap.size,3,none⟩=some (.slice a1 n1 c1)) ((with_reducible refine bu _ ?_;with_reducible (first|exact bg|exact ak|exact ah|exact bc))) ((first|(go_at_call 86;refine cj.mono ?_;rintro e w3 ⟨a3,n3,c3,rfl,hr3,hb3⟩;have ak:=zK bg hb3;have ac:=(hr1.bL hd).bL hb3;have hs3:=fM hr3.rdY)|(refine vS (by rfl) ekY _ _ (by rfl) W0.heap.size (.slice a2 n2 c2) (ktagN num how) (uF l.length) (by rfl) ac a3 n3 c3 (by rfl) hs3.1 hs3.2.1 hs3.2.2 (by decide) (by rw[show ekY.bytes=1 from rfl,tS];omega) ak.size ?_;intro v4 w4 hr4 hg4;obtain⟨a4,n4,c4,rfl,H4⟩:=hr4.shape';have ah:zB W0 w4:=ak.grown hg4 ak.size (fun k hk=>(ac.own k hk).1);have aw:=ba w4 (zK hb0 ah) (.inr trivial))|(refine vS (by rfl) ekY _ _ (by rfl) W0.heap.size (.slice a4 n4 c4) (ktagN num how++uF l.length) l (by rfl) hr4 a1 n1 c1 (by rfl) aw.1 aw.2.1 aw.2.2 (by decide) (by rw[show ekY.bytes=1 from rfl,tS,yQ];omega) ah.size ?_;intro v5 w5 au cg;obtain⟨a5,n5,c5,rfl,H5⟩:=au.shape';have bc:zB W0 w5:=ah.grown cg ah.size (fun k hk=>(hr4.own k hk).1))))
 all_goals
  have av:Row ekY w5 w.heap.size (.slice a5 n5 c5) (recN num how bits l):=by rw[HN.out];exact au.mono (by omega)
  clear au hr4 hr3 hr1 ac;go_wp2;go_ret;exact⟨a5,n5,c5,rfl,av,zK hb0 bc⟩
theorem C3h (h:RdL 1 YAt w v l)(num how:Int)(bits:Nat)(hb:bits≤18446744073709551615)(hl:l.length≤1000000000000)(h1:0≤num)(h2:num≤536870912)(hh:how=0∨how=1∨how=2∨how=5) :
  Calls Tryz.prog 33 #[.agg #[.int .i64 num,.int .i64 how,.int .u64 (bits:Int),v]] w fun e w'=>∃ ao n cap,e = .returned (.slice ao n cap)∧Row ekY w' w.heap.size (.slice ao n cap) (recN num how bits l)∧zB w w':=by
 by_cases e2:how=2
 ·exact D1c h num how bits hb hl h1 h2 e2
 exact D1d h num how bits hb hl h1 h2 hh e2
open Go.RowKit Go.WideMaps Go.Maps
theorem ZH:Keyed Tryz.prog 3:=int_keyed Tryz.underlying3
theorem WL (w:World):(zeroValue 3).run Tryz.prog w = .ok (.int .i64 0) w:=by kernel_rfl
abbrev RMap (w:World) (b n:Nat) (D:DataW Unit):Prop:=w.ownsMap Tryz.prog 3 (plainElem (H:=Unit) Tryz.prog 3) b n D
theorem lQ {ops:Array Oper}{rest:List Oper}{o:Oper}{a:Act}{Q:Exit→Act→World→Prop}(hg:o.guard=none)(m x v:Operand)(hop:o.op=Op.insert 45 m x v)(b n:Nat)(D:DataW Unit)
  (hm:a.eval m = .map (some b)) (hown:RMap w b n D) (hn:n<100) (k c:Int) (hk : -1000≤k∧k≤1000) (hc : -1000≤c∧c≤1000) (hx:a.eval x = .int .i64 k) (hv:a.eval v = .int .i64 c)
  (hK:∀ w',RMap w' b (n+1) (D.put (.int .i64 k) (.lit (.int .i64 c)))→w.grownBy w' (some b)→wpList Tryz.prog ops Q rest (a.put o.dst undef) w'):wpList Tryz.prog ops Q (o::rest) a w:=by
 refine wpList_plain hg fun K' hK'=>?_
 obtain⟨w',hrun,r1,r2⟩:=hown.update (val:=.int .i64 c) ZH Tryz.underlying45 (by unfold maxLen;omega) (keyOf_int_mk Tryz.underlying3 (WalkArith.wf_i64 (by omega)):keyOf Tryz.prog 3 (.int .i64 k)=some (.int .i64 k)) (plainElem_int Tryz.underlying3 (WalkArith.wf_i64 (by omega)));unfold Oper.wp;simp[execOp,hop,hm,hx,hv,hrun,Result.andThen];exact hK' _ _ (hK w' r1 r2)
def oF (D:DataW Unit)(k c:Int):DataW Unit:=D.put (.int .i64 k) (.lit (.int .i64 c))
def atD (D:DataW Unit)(k:Int):DataW Unit:=D.atKey (.int .i64 k) (.lit (.int .i64 0))
theorem sX {D:DataW Unit}(h:IsMap D)(k c:Int):IsMap (oF D k c):=by obtain⟨es,rfl⟩:=h;exact⟨_,rfl⟩
theorem iP {D:DataW Unit}(h:IsMap D)(k c x:Int):atD (oF D k c) x=if x=k then .lit (.int .i64 c) else atD D x:=by
 unfold atD oF;split
 ·rename_i e;subst e;exact atKey_put_same h (show WideAt.IsKeyLit (.int .i64 x) from trivial) _ _
 rename_i e;exact atKey_put_other (by simpa using e) _ _
theorem dZ {D:DataW Unit}(h:IsMap D)(k c x:Int):Maps.has (oF D k c) (.int .i64 x)=if x=k then true else Maps.has D (.int .i64 x):=by
 unfold oF;split
 ·rename_i e;subst e;exact has_put_same h (show WideAt.IsKeyLit (.int .i64 x) from trivial) _
 rename_i e;exact has_put_other (by simpa using e) _
def dC:DataW Unit:=oF (oF (oF (oF (oF (.map []) 6 1) 7 5) 8 2) 9 2) 10 2
theorem oG:IsMap (DataW.map []:DataW Unit):=⟨_,rfl⟩
theorem D8a (x:Int):atD dC x = .lit (.int .i64 (yI x)):=by
 unfold dC;rw[iP (sX (sX (sX (sX oG _ _) _ _) _ _) _ _),iP (sX (sX (sX oG _ _) _ _) _ _),iP (sX (sX oG _ _) _ _),iP (sX oG _ _),iP oG];unfold yI;by_cases h6:x=6
 ·subst h6;rfl
 by_cases h7:x=7
 ·subst h7;rfl
 by_cases h8:x=8
 ·subst h8;rfl
 by_cases h9:x=9
 ·subst h9;rfl
 by_cases h10:x=10
 ·subst h10;rfl
 simp only[h6,h7,h8,h9,h10,if_false,or_self];rfl
theorem D8b (h:Maps.has dC (.int .i64 x)=false):yI x=0:=by
 unfold dC at h;rw[dZ (sX (sX (sX (sX oG _ _) _ _) _ _) _ _),dZ (sX (sX (sX oG _ _) _ _) _ _),dZ (sX (sX oG _ _) _ _),dZ (sX oG _ _),dZ oG] at h;unfold yI;by_cases h6:x=6
 ·subst h6;simp at h
 by_cases h7:x=7
 ·subst h7;simp at h
 by_cases h8:x=8
 ·subst h8;simp at h
 by_cases h9:x=9
 ·subst h9;simp at h
 by_cases h10:x=10
 ·subst h10;simp at h
 simp only[h6,h7,h8,h9,h10,if_false,or_self]
def aN:DataW Unit:=oF (oF (.map []) 1 8) 5 4
theorem D2k (x:Int):atD aN x = .lit (.int .i64 (nP x:Nat)):=by
 unfold aN;rw[iP (sX oG _ _),iP oG];unfold nP;by_cases h6:x=1
 ·subst h6;rfl
 by_cases h7:x=5
 ·subst h7;rfl
 simp only[h6,h7,if_false];rfl
theorem VR {b:Int}(h:(DataW.lit (.int .i64 a):DataW Unit) = .lit (.int .i64 b)):a=b:=by injection h with h1;injection h1
theorem VS (k:Int)(h : -9223372036854775808≤k∧k≤9223372036854775807):keyOf Tryz.prog 3 (.int .i64 k)=some (.int .i64 k):=keyOf_int_mk Tryz.underlying3 (WalkArith.wf_i64 h)
theorem UD (k:Int)(w:World)(hk : -9223372036854775808≤k∧k≤9223372036854775807):Calls Tryz.prog 5 #[.int .i64 k] w fun e w'=>e = .returned (.int .i64 (yI k))∧zB w w':=by
 have ah:=@run_makeMap Tryz.prog;have hkey:=VS k hk;have ac:RMap (w.alloc (.map #[] 0)) w.heap.size 0 (.map []):=World.ownsMap_made w Tryz.prog 3 (plainElem (H:=Unit) Tryz.prog 3);have hb0:zB w (w.alloc (.map #[] 0)):=(zH _ _).alloc (zG _) _;have hs0:w.heap.size+1≤(w.alloc (.map #[] 0)).heap.size:=by simp
 have hgr:∀ {V V':World},zB w V→V.grownBy V' (some w.heap.size)→zB w V':=fun hV hg=>hV.grown hg hV.size (fun j hj=>by cases hj;exact zG _)
 go_enter Tryz.func5,Tryz.ntmps5;go_wp2_with (first|(refine lQ rfl _ _ _ rfl w.heap.size 0 _ rfl ac (by omega) 6 1 (by omega) (by omega) rfl rfl ?_;intro w1 h1 g1)|(refine lQ rfl _ _ _ rfl w.heap.size 1 _ rfl h1 (by omega) 7 5 (by omega) (by omega) rfl rfl ?_;intro w2 h2 g2)|(refine lQ rfl _ _ _ rfl w.heap.size 2 _ rfl h2 (by omega) 8 2 (by omega) (by omega) rfl rfl ?_;intro w3 h3 g3)|(refine lQ rfl _ _ _ rfl w.heap.size 3 _ rfl h3 (by omega) 9 2 (by omega) (by omega) rfl rfl ?_;intro w4 h4 g4)|(refine lQ rfl _ _ _ rfl w.heap.size 4 _ rfl h4 (by omega) 10 2 (by omega) (by omega) rfl rfl ?_;intro w5 h5 g5)|(at_lookup;refine wpList_lookup_own_ok_int _ rfl _ _ 45 rfl 3 3 .i64 ZH Tryz.underlying45 Tryz.underlying3 (WL _) w.heap.size 5 dC rfl h5 _ _ rfl hkey ?_;intro c hat hwc))
 ·have ag:=hgr (hgr (hgr (hgr (hgr hb0 g1) g2) g3) g4) g5;rename_i hn;have h0:=D8b (by simpa using hn);clear h1 h2 h3 h4 h5 g1 g2 g3 g4 g5 hgr ac hb0 hs0;go_ret;exact⟨oA h0.symm,ag⟩
 ·have ag:=hgr (hgr (hgr (hgr (hgr hb0 g1) g2) g3) g4) g5;have hc:=VR (hat.symm.trans (D8a k));clear h1 h2 h3 h4 h5 g1 g2 g3 g4 g5 hgr ac hb0 hs0;go_ret;exact⟨oA hc,ag⟩
def uV {β:Type}(P : β→Bool)(v:VI β):Bool:=decide (60<v.bits.length)||decide (60<v.bytes.length)||decide (60<v.subs.length)||v.subs.any P
def vJ:(d:Nat)→BI d→Bool
 | 0=>fun _=>false
 | d+1=>fun b=>(BO.vals b).any (uV (vJ d))
def UT (d:Nat):Prop:=∀ (V:World) (v0 v1:Value) (s:BI d),BQ d V v0 v1 s→Calls Tryz.prog 56 #[.agg #[v0,v1]] V fun e w'=>e = .returned (.bool (vJ d s))∧zB V w'
theorem D6o {l:List α}{a : α}(P : α→Bool)(h:l[k]?=some a):(l.drop k).any P=(P a||(l.drop (k+1)).any P):=by
 obtain⟨hk,rfl⟩:=yG.1 h;rw[uQ hk,List.any_cons]
theorem C7l {l:List α}(P : α→Bool)(h:l.length≤k):(l.drop k).any P=false:=by
 rw[sF h];rfl
theorem eS{P:Prop}(h:P:=by
 go_wp2;go_ret;exact⟨by rw[HX.out];rfl,by rw[←ak.out];exact ac⟩):P:=h
theorem C9k (hd:UT d):UT (d+1):=by
 intro w v0 v1 s hq;have hq':BRd d w v0 v1 s:=hq;obtain⟨bk,hr1⟩:=hq';obtain⟨a0,n0,c0,rfl,Hn,df⟩:=bk.sH;obtain⟨a1,n1,c1,rfl,dh,bh⟩:=hr1.sH;obtain⟨R,HR⟩:=zM (vJ (d+1) s);have H0:Hid (R=((BO.vals s).drop 0).any (uV (vJ d))):=by show _=_;rw[HR.out,oC];rfl
 rw[←HR.out];clear hq HR hr1;obtain⟨W0,bn,hb0,-,-⟩:=zV w (.cells #[.slice a0 n0 c0,.slice a1 n1 c1] 29);go_enter Tryz.func56,Tryz.ntmps56;go_wp2_with fail
 rw[←bn.out];go_loopg [10] n0 (fun m i wr=>∃ k:Nat,k+m=n0∧i = .int .i64 k∧Hid (R=((BO.vals s).drop k).any (uV (vJ d)))∧zB w wr)
 case atStart=>exact⟨0,by omega,rfl,H0,hb0⟩
 obtain⟨k,hk,rfl,HK,hb⟩:=hrel;by_cases hlt:k<n0
 ·obtain⟨a,Ha⟩:=yE (l:=(BO.vals s)) (k:=k) (by rw[←Hn.out];exact hlt);obtain⟨b,off,rfl,hat⟩:=(bk.bL (VAt.sT (BAt.sT d)) hb).get VAt.plain Ha.out;obtain⟨u1,u2,u3,s0,s1,s2,s3,dg,hv2,hv3⟩:=hat.at;obtain⟨b1,m1,e1,rfl,bu,dm⟩:=dg.sH;obtain⟨b2,m2,e2,rfl,cg,dn⟩:=hv2.sH;obtain⟨b3,m3,e3,rfl,au,dp⟩:=hv3.sH;have dl:(k:Int)<(n0:Int):=by omega
  have HS:Hid (R=(uV (vJ d) a||((BO.vals s).drop (k+1)).any (uV (vJ d)))):=by show _=_;rw[HK.out,D6o _ Ha.out]
  have HM:Hid (uV (vJ d) a=(decide (60<m1)||decide (60<m2)||decide (60<m3)||(a.subs.drop 0).any (vJ d))):=by show _=_;unfold uV;rw[oC,bu.out,cg.out,au.out]
  obtain⟨W1,ak,hb1,-,-⟩:=zV wr (.cells #[.int .i64 a.nU,.slice b1 m1 e1,.slice b2 m2 e2,.slice b3 m3 e3] 63);have ac:=hb.trans (hb1.mono hb.size);clear hat;by_cases h1:60<m1
  ·have HX:Hid (R=true):=by show _=_;rw[HS.out,HM.out,xU h1];rfl
   have cj:(60:Int)<(m1:Int):=by omega
   exact eS
  have cj:(m1:Int)≤60:=by omega
  by_cases h2:60<m2
  ·have HX:Hid (R=true):=by show _=_;rw[HS.out,HM.out,xU h2];simp
   have cu:(60:Int)<(m2:Int):=by omega
   exact eS
  have cu:(m2:Int)≤60:=by omega
  by_cases h3:60<m3
  ·have HX:Hid (R=true):=by show _=_;rw[HS.out,HM.out,xU h3];simp
   have cw:(60:Int)<(m3:Int):=by omega
   exact eS
  have cw:(m3:Int)≤60:=by omega
  have bl:Hid (uV (vJ d) a=(a.subs.drop 0).any (vJ d)):=by show _=_;rw[HM.out,yC h1,yC h2,yC h3];simp
  have ba:=hv3.bL (BAt.sT d) hb1;go_wp2_with fail
  rw[←ak.out];go_loopg [33] m3 (fun m i wr'=>∃ j:Nat,j+m=m3∧i = .int .i64 j∧Hid (uV (vJ d) a=(a.subs.drop j).any (vJ d))∧zB W1 wr')
  case atStart=>exact⟨0,by omega,rfl,bl,zH _ _⟩
  obtain⟨j,hj,rfl,HJ,av⟩:=hrel;have ah:=ac.trans (av.mono ac.size);by_cases hjt:j<m3
  ·obtain⟨t,Ht⟩:=yE (l:=a.subs) (k:=j) (by rw[←au.out];exact hjt);obtain⟨bt,ot,rfl,bg⟩:=(ba.bL (BAt.sT d) av).get (BAt.plain d) Ht.out;obtain⟨z0,z1,q0,q1,aw⟩:=BQ.of d bg;obtain⟨p0,r0,g0,p1,r1,g1,rfl,rfl⟩:=aw.sH;have di:(j:Int)<(m3:Int):=by omega
   obtain⟨W2,bc,hb2,-,-⟩:=zV wr (.cells #[.slice p0 r0 g0,.slice p1 r1 g1] 29);have aj:=ah.trans (hb2.mono ah.size);have ag:=hd W2 _ _ t (aw.bL hb2);have HA:=D6o (vJ d) Ht.out;generalize hF:vJ d t=F at ag HA;clear bg aw;cases F with
   | true=>
    have HX:Hid (R=true):=by show _=_;rw[HS.out,HJ.out,HA];rfl
    clear HA hF;go_wp2_with fail
    rw[←bc.out];refine ag.mono ?_;rintro e w3 ⟨rfl,hb3⟩;go_wp2;go_ret;exact⟨by rw[HX.out];rfl,aj.trans (hb3.mono aj.size)⟩
   | false=>
   have HX:Hid (uV (vJ d) a=(a.subs.drop (j+1)).any (vJ d)):=by show _=_;rw[HJ.out,HA,lU]
   clear HA hF;go_wp2_with fail
   rw[←bc.out];refine ag.mono ?_;rintro e w3 ⟨rfl,hb3⟩;go_wp2_with fail
   go_roundg (m3-(j+1))
   case measure=>omega
   case rel=>exact⟨j+1,by omega,by go_num,HX,zK av (zK hb2 hb3)⟩
  have HX:Hid (R=((BO.vals s).drop (k+1)).any (uV (vJ d))):=by
   show _=_;rw[HS.out,HJ.out,C7l _ (by rw[←au.out];omega),lU]
  go_wp2_with fail
  go_roundg (n0-(k+1))
  case measure=>omega
  case rel=>exact⟨k+1,by omega,by go_num,HX,ah⟩
 have HX:Hid (R=false):=by show _=_;rw[HK.out,C7l _ (by rw[←Hn.out];omega)]
 go_wp2;go_ret;exact⟨by rw[HX.out];rfl,hb⟩
theorem C2n:∀ d,UT d
 | 0=>fun _ _ _ _ h=>h.elim
 | d+1=>C9k (C2n d)
theorem D1e (n:Nat)(w:World)(hn:n≤18446744073709551615) :
  Calls Tryz.prog 184 #[.int .u64 (n:Int)] w fun e w'=>e = .returned (.int .i64 (oM (n:Int)))∧w=w':=by
 by_cases h:(n:Int)%2=1
 ·rw[B8e h];have b:=beq_iff_eq.2 h;go_enter Tryz.func184,Tryz.ntmps184;exact Qg3
 rw[B4p h];have b:=beq_eq_false_iff_ne.2 h;go_enter Tryz.func184,Tryz.ntmps184;exact Qg3
theorem Qg7{P:Prop}(h:P:=by
 go_enter Tryz.func114,Tryz.ntmps114;exact Qg3):P:=h
theorem C0y (kind:Int)(n:Nat)(w:World)(hn:n≤18446744073709551615) :
  Calls Tryz.prog 114 #[.int .i64 kind,.int .u64 (n:Int)] w fun e w'=>e = .returned (.int .u64 ((xN kind n:Nat):Int))∧w=w':=by
 by_cases h2:kind=2
 ·subst h2;have ho:=D1e n w hn;have HT:Hid (((xN 2 n:Nat):Int)=IntKind.u64.wrap (oM (n:Int))):=by
   exact aF
  go_enter Tryz.func114,Tryz.ntmps114;exact XU
 have b2:=beq_eq_false_iff_ne.2 h2;by_cases h4:kind=4
 ·subst h4;by_cases hp:0<n
  ·have e:xN 4 n=1:=by unfold xN;rw[zC (by decide),zF rfl];omega
   rw[e];clear h2;exact Qg7
  have e:n=0:=by omega
  subst e;clear h2;exact Qg7
 have b4:=beq_eq_false_iff_ne.2 h4;by_cases h5:kind=5
 ·subst h5;by_cases hp:n%4294967296<2147483648
  ·have e:((xN 5 n:Nat):Int)=(n:Int)%4294967296:=by unfold xN;rw[zC (by decide),zC (by decide),zF rfl,zF hp];omega
   rw[e];have ac:(n:Int)%4294967296≤2147483647:=by omega
   clear h2 h4 hp e;exact Qg7
  have e:((xN 5 n:Nat):Int)=(n:Int)%4294967296+18446744069414584320:=by unfold xN;rw[zC (by decide),zC (by decide),zF rfl,zC hp];omega
  rw[e];have ac:2147483647<(n:Int)%4294967296:=by omega
  clear h2 h4 hp e;exact Qg7
 have b5:=beq_eq_false_iff_ne.2 h5;have e:xN kind n=n:=by unfold xN;rw[zC h2,zC h4,zC h5]
 rw[e];clear h2 h4 h5 e;exact Qg7
theorem C8n (hk:k<l.length)(hX:X=(l.getD k 0).toNat):uJ (l.drop k)=256*uJ (l.drop (k+1))+X:=by
 rw[uQ hk,uJ,hX,pG,vG hk,Option.getD_some,Nat.add_comm]
theorem C4w (hl:l.length≤8):uJ (l.drop (k+1))<72057594037927936∨l.length≤k+1∧uJ (l.drop (k+1))=0∨False:=by
 by_cases h:k+1<l.length
 ·left;have:=dY (l.drop (k+1));rw[vE] at this;have h2:2 ^ (8*(l.length-(k+1)))≤2 ^ 56:=mU (by decide) (by omega);omega
 right;left;rw[sF (by omega)];exact⟨by omega,rfl⟩
theorem D7y (hl:l.length≤8):uJ (l.drop (k+1))<72057594037927936:=by
 rcases C4w (k:=k) hl with h|⟨_,h⟩|h
 ·exact h
 ·omega
 exact h.elim
theorem B8q (hr:RdA w ao len cap l)(h8:len≤8)(hp:0<len) :
  Calls Tryz.prog 112 #[.slice ao len cap] w fun e w'=>e = .returned (.int .u64 ((uJ l:Nat):Int))∧w=w':=by
 have Hl:=zI hr.1;have H0:Hid (0=uJ (l.drop len)):=by show _=_;rw[sF (by rw[Hl.out];omega)];rfl
 obtain⟨b,off,rfl,ac,hcell⟩:=hr.at hp;clear hr;go_enter Tryz.func112,Tryz.ntmps112;go_wp2;go_loop [3,4] (fun a i=>∃ k acc:Nat,k≤len∧i = .int .i64 ((k:Int)-1)∧a = .int .u64 acc∧Hid (acc=uJ (l.drop k))) (fun _ i=>(intOf i+1).toNat)
 case atStart=>exact⟨len,0,zG _,by go_num,rfl,H0⟩
 obtain⟨k,acc,hk,rfl,rfl,HA⟩:=hrel;by_cases hlt:0<k
 ·obtain⟨j,rfl⟩:∃ j,k=j+1:=⟨k-1,by omega⟩
  obtain⟨X,HX⟩:=zM ((l.getD j 0).toNat:Nat);have hc:w.cell? ⟨b,off+j,none⟩=some (.int .u8 (X:Int)):=by rw[HX.out];exact hcell j (by omega)
  have hX:X<256:=by rw[HX.out];exact UInt8.toNat_lt _
  have hA:acc<72057594037927936:=by rw[HA.out];exact D7y (by rw[Hl.out];exact h8)
  clear hcell;have ej:(((j+1:Nat):Int)-1)=(j:Int):=by omega
  rw[ej];go_wp2;go_round
  case rel=>exact⟨j,256*acc+X,by omega,by go_num,by go_num,by show _=_;rw[C8n (by rw[Hl.out];omega) HX.out,←HA.out]⟩
  case measure=>simp[intOf]
 have e:k=0:=by omega
 subst e;rw[show(((0:Nat):Int)-1) = -1 from rfl];go_wp2;go_ret;exact⟨by rw[HA.out,oC];rfl,rfl⟩
theorem WN {acc:Nat}(hk:k≤9)(ac:acc<2 ^ (7*k))(hX:X<256)(h9:k=9→X≤1) :
  IntKind.u64.wrap ((acc:Int)+IntKind.u64.wrap ((X:Int)%128*2 ^ (7*k)))=((acc+X%128*2 ^ (7*k):Nat):Int):=by
 have hb:acc+X%128*2 ^ (7*k)<2 ^ 64:=by
  by_cases h:k≤8
  ·have h1:=WI h;have h2:X%128*2 ^ (7*k)≤127*2 ^ (7*k):=qV _ (by omega);omega
  have h3:k=9:=by omega
  subst h3;have:=h9 rfl;have h4:X%128≤1:=by omega
  have h5:X%128*2 ^ (7*9)≤1*2 ^ (7*9):=qV _ h4;omega
 have e:((X:Int)%128*2 ^ (7*k))=((X%128*2 ^ (7*k):Nat):Int):=by simp
 rw[e];generalize X%128*2 ^ (7*k)=Y at *;rw[lG (Y:Int) (by omega) (by omega),lG _ (by omega) (by omega)];omega
theorem TD (hr:RdA w ao len cap l)(ac:Nat)(hat:ac≤len)(h:yZ 0 0 (l.drop ac)=(A,B,C)) :
  Calls Tryz.prog 111 #[.slice ao len cap,.int .i64 (ac:Int)] w fun e w'=>e = .returned (.tuple #[.int .u64 (A:Int),.int .i64 ((if C=0 then ac+B else 0:Nat):Int),.int .i64 (C:Int)])∧w=w':=by
 have aw:len≤9223372036854775807:=by have:=hr.2.1;have:=hr.2.2.1;unfold maxLen at this;omega
 obtain⟨D,HD⟩:=zM (l.drop ac);have Hl:Hid (D.length=len-ac):=by show _=_;rw[HD.out,vE,hr.1]
 have HG:Hid (yZ 0 0 (D.drop 0)=(A,B,C)):=by show _=_;rw[oC,HD.out];exact h
 clear h;by_cases hp:ac<len
 ·obtain⟨b,off,rfl,av,ag⟩:=hr.at (show 0<len by omega);have hcell:∀ k,ac+k<len→w.cell? ⟨b,off+(ac+k),none⟩=some (.int .u8 ((D.getD k 0).toNat:Int)):=by
   intro k hk;rw[ag _ hk,HD.out];simp
  clear hr ag;go_enter Tryz.func111,Tryz.ntmps111;go_wp2;go_loop [7,8] (fun a i=>∃ k acc:Nat,ac+k≤len∧k≤9∧Hid (acc<2 ^ (7*k))∧i = .int .i64 k∧a = .int .u64 acc∧Hid (yZ k acc (D.drop k)=(A,B,C))) (fun _ i=>len-(intOf i).toNat)
  case atStart=>exact⟨0,0,by omega,qA _,by show(0:Nat)<1;decide,rfl,rfl,HG⟩
  obtain⟨k,acc,hk,aj,ah,rfl,rfl,HR⟩:=hrel;by_cases hlt:ac+k<len
  ·obtain⟨X,HX⟩:=zM ((D.getD k 0).toNat:Nat);have hc:w.cell? ⟨b,off+(ac+k),none⟩=some (.int .u8 (X:Int)):=by rw[HX.out];exact hcell k hlt
   have hX:X<256:=by rw[HX.out];exact UInt8.toNat_lt _
   clear hcell;by_cases h9:k=9
   ·have ak:((k:Int)==9)=true:=beq_iff_eq.2 (by omega);have au:9≤k:=by omega
    by_cases h1:1<X
    ·obtain⟨rfl,rfl,rfl⟩:=xJ (show(0,0,3)=(A,B,C) by rw[←HR.out,C2b (acc:=acc) (by rw[Hl.out];omega) HX.out (by omega) h1]);clear h9;go_wp2;go_ret3;exact⟨rfl,rfl⟩
    have hs:X<128:=by omega
    obtain⟨rfl,rfl,rfl⟩:=xJ (show(acc+X%128*2 ^ (7*k),k+1,0)=(A,B,C) by rw[←HR.out,TQ (acc:=acc) (by rw[Hl.out];omega) HX.out (by omega) hs]);clear h9;go_wp2;go_ret3;exact⟨ZA (WN aj ah.out hX (by omega)) (by omega) rfl,rfl⟩
   have ak:((k:Int)==9)=false:=beq_eq_false_iff_ne.2 (by omega);by_cases hs:X<128
   ·obtain⟨rfl,rfl,rfl⟩:=xJ (show(acc+X%128*2 ^ (7*k),k+1,0)=(A,B,C) by rw[←HR.out,TQ (acc:=acc) (by rw[Hl.out];omega) HX.out (by omega) hs]);go_wp2;go_ret3;exact⟨ZA (WN aj ah.out hX (by omega)) (by omega) rfl,rfl⟩
   go_wp2;go_round
   case rel=>exact⟨k+1,_,by omega,by omega,dM ah.out,by go_num,congrArg (Value.int .u64) (WN aj ah.out hX (by omega)),(C8j (by rw[Hl.out];omega) HX.out h9 hs).symm.trans HR.out⟩
   case measure=>simp[intOf];omega
  obtain⟨rfl,rfl,rfl⟩:=xJ (show(0,0,2)=(A,B,C) by rw[←HR.out,UM (l:=D) (k:=k) (acc:=acc) (by rw[Hl.out];omega)]);go_wp2;go_ret3;exact⟨rfl,rfl⟩
 have h0:ac=len:=by omega
 subst h0;obtain⟨rfl,rfl,rfl⟩:=xJ (show(0,0,2)=(A,B,C) by rw[←HG.out,UM (l:=D) (k:=0) (acc:=0) (by rw[Hl.out];omega)]);clear hr HG;go_enter Tryz.func111,Tryz.ntmps111;go_wp2;refine wp_loop_rounds 1 ?_;rw[rounds_succ];go_wp2;go_ret3;exact⟨rfl,rfl⟩
theorem D5e {E F:Int}(hc:w.cell? ⟨c,0,none⟩=some (.int .i64 F))(hcw:c<w.heap.size) :
  Calls Tryz.prog 110 #[.int .i64 E,.pointer (some ⟨c,0,none⟩)] w fun e w'=>e = .returned (.tuple #[.slice none 0 0,.agg #[.int .i64 E,.int .i64 F]])∧zB w w':=by
 obtain⟨W0,ac,hb0,x0,-⟩:=zV w (.cells #[.int .i64 0,.int .i64 0] 54);have ah:=hb0.drew;have hc0:=zQ hb0 hc;have q0:=zL x0 0 _ rfl;have q1:=zL x0 1 _ rfl;have g0:=zJ x0 0;have g1:=zJ x0 1;have hne:¬ c=w.heap.size:=by omega
 have ag:=zT (i:=1) (x:=.int .i64 F) (zT (i:=0) (x:=.int .i64 E) ah (zG _)) (zG _);go_enter Tryz.func110,Tryz.ntmps110;go_wp2_with fail
 rw[←ac.out];go_region
 all_goals
  go_wp2;refine bodyPost_ret (v:=.tuple #[.slice none 0 0,.agg #[.int .i64 E,.int .i64 F]]) (by simp[results,Tryz.results110,go_sem,q0,q1]) rfl ?_;exact⟨rfl,ag⟩
open Go.RowKit Go.Sort
theorem WP:∀ l:List Int,ekN.flat l=l.map (Value.int .i64)
 | []=>rfl
 | a::l=>by
  have:=WP l
  unfold EK.flat at this ⊢
  rw[rC,this]
  rfl
theorem D5u {l:List Int}(h:Row ekN w base (.slice ao n cap) l)(hl:l.length≤3000000000000)(hB:base≤w.heap.size) :
  Calls Tryz.prog 13 #[.slice ao n cap] w fun e w'=>e = .returned (.tuple #[])∧Row ekN w' base (.slice ao n cap) (l.mergeSort fun x y=>decide (x≤y))∧Below base w w':=by
 have hlen:=h.len;subst hlen;rcases h.2 with⟨hv,hn⟩|⟨g,cap',cur,hv,hbg,hg,hn,hm,hsz,ht⟩
 ·have:l = []:=uE hn;subst this;refine(Tryz.slices_Sort_int_none ao cap w).mono ?_;rintro e w' ⟨rfl,rfl⟩;exact⟨rfl,by simpa using h,zH _ _⟩
 cases hv
 have ag:cur.toList.take l.length=l.map (Value.int .i64):=by rw[←WP,←ht];simp[ekN]
 have ac:=(zR hg)
 refine(Tryz.slices_Sort_int g 0 cap l w (holds_of_blockI hg ag) ac (by omega)).mono ?_;rintro e w' ⟨rfl,q,os,rfl⟩;refine⟨rfl,?_,(zH base w).grown (grownBy_sortedI _) hB (fun k hk=>by cases hk;exact hbg)⟩;have:=ownsRow_sortedI (n:=q) (os:=os) (ss:=l) (ts:=l.mergeSort fun x y=>decide (x≤y)) (by simp) hbg hg hn hm hsz;show World.ownsRow _ base 3 1 _ _ _;rw[WP,List.length_mergeSort];exact this
theorem C0r {nm:List UInt8}{vf vb:Value}{m:MI}(h:RdL 6 FAt w vf m.fD)(au:∃ ao n cap,vb = .slice ao n cap)(hl:m.fD.length≤3000000000000) :
  Calls Tryz.prog 6 #[.agg #[.string (S nm),vf,vb]] w fun e w'=>∃ ao n cap,e = .returned (.slice ao n cap)∧Row ekN w' w.heap.size (.slice ao n cap) (lC m)∧zB w w':=by
 obtain⟨a1,n1,c1,rfl,H1,_⟩:=h.sH;obtain⟨a2,n2,c2,rfl⟩:=au;have ba:n1≤3000000000000:=by rw[H1.out];exact hl
 obtain⟨W0,ag,hb0,-,hz0⟩:=zV w (.cells #[.string (S nm),.slice a1 n1 c1,.slice a2 n2 c2] 35);go_enter Tryz.func6,Tryz.ntmps6;go_wp2_with fail
 rw[←ag.out];go_loopg [3,9] n1 (fun m' v i wr=>∃ (k:Nat) (ao:Option Addr) (no co:Nat),k+m'=n1∧i = .int .i64 k∧v = .slice ao no co∧Row ekN wr W0.heap.size (.slice ao no co) ((m.fD.take k).map FI.nU)∧zB W0 wr)
 case atStart=>exact⟨0,none,0,0,by omega,rfl,rfl,by rw[mA];exact Row.nil _ _ _,zH _ _⟩
 obtain⟨k,ao,no,co,hk,rfl,rfl,hr,hb⟩:=hrel;have ak:=zK hb0 hb;have av:=hb.size;by_cases hlt:k<n1
 ·obtain⟨x,Hx⟩:=yE (l:=m.fD) (k:=k) (by rw[←H1.out];exact hlt);obtain⟨b,off,rfl,hat⟩:=(h.bL FAt.sT ak).get FAt.plain Hx.out;obtain⟨s0,s1,s2,s3,s4,s5⟩:=hat.at;have aw:(k:Int)<(n1:Int):=by omega
  have hlk:((m.fD.take k).map FI.nU).length≤n1:=by rw[yX,vZ];omega
  clear hat;go_wp2_with (at_builtin;refine tP (by rfl) ekN _ _ (by rfl) W0.heap.size (.slice ao no co) ((m.fD.take k).map FI.nU) [x.nU] (by rfl) ?a1 (some ⟨wr.heap.size+1,0,none⟩) 1 1 (by rfl) (by rfl) ?a2 ?a3 (by decide) ?a4 ?a5 ?_)
  case a1=>exact hr.bL (((zH _ _).alloc (zG _) _).alloc (by simp) _)
  case a2=>intro e;cases e
  case a3=>
   have:=mL ekN (wr.alloc (.cells #[.string (S x.name),.int .i64 x.nU,.int .i64 x.kind,.string (S x.type),.bool x.many,.int .i64 x.cE] 47)) x.nU;rw[show(wr.alloc (.cells #[.string (S x.name),.int .i64 x.nU,.int .i64 x.kind,.string (S x.type),.bool x.many,.int .i64 x.cE] 47)).heap.size=wr.heap.size+1 by simp] at this;exact this
  case a4=>simp[ekN];omega
  case a5=>simp;omega
  intro v' w1 hr1 hg1;obtain⟨a',n',c',rfl,_⟩:=hr1.shape';have ah:=D6s (oO (oO hb (zG _) _) (zG _) _) (zG _) hg1 (fun k hk=>(hr.own k hk).1);have ac:Row ekN w1 W0.heap.size (.slice a' n' c') ((m.fD.take (k+1)).map FI.nU):=by
   rw[vX Hx.out,wM,List.map_take];exact hr1
  clear hr1;go_wp2_with fail
  go_roundg (n1-(k+1))
  case measure=>omega
  case rel=>exact⟨k+1,a',n',c',by omega,by go_num,rfl,ac,ah⟩
 have hr1:Row ekN wr W0.heap.size (.slice ao no co) (m.fD.map FI.nU):=by
  rw[uP (by rw[←H1.out];omega)] at hr;exact hr
 have hs:=D5u hr1 (by rw[yX];exact hl) av;clear hr hr1;go_wp2_with fail
 refine hs.mono ?_;rintro e w1 ⟨rfl,hr1,hb1⟩;have aj:=hb0.trans ((hb.trans hb1).mono (by omega));go_wp2;go_ret;exact⟨ao,no,co,rfl,hr1.mono (by omega),aj⟩
def qX (x:Int)(l:List Int):Nat→List Int:=fun at'=>l.take at'++[x]++l.drop at'
def rT (x:Int)(l:List Int):Nat→Nat
 | 0=>0
 | i+1=>match l[i]? with|some y=>if x<y then rT x l i else i+1|none=>i+1
def pK:List Int→List FI→List Int
 | l,[]=>l
 | l,f::r=>pK (qX f.nU l (rT f.nU l l.length)) r
theorem UO (x:Int)(l:List Int):∀ i,rT x l i≤i
 | 0=>zG _
 | i+1=>by
  rw[rT]
  cases l[i]? with
  | none=>exact zG _
  | some y=>
   simp only
   split
   ·have:=UO x l i;omega
   ·exact zG _
theorem C1v (x:Int)(l:List Int):∀ i,∀ k y,rT x l i≤k→k<i→l[k]?=some y→x<y
 | 0,k,y,_,h,_=>by omega
 | i+1,k,y,h1,h2,h3=>by
  rw[rT] at h1
  cases hi:l[i]? with
  | none=>rw[hi] at h1;simp only at h1;omega
  | some z=>
   rw[hi] at h1
   simp only at h1
   split at h1
   ·rename_i hz
    by_cases hk:k=i
    ·subst hk;rw[hi] at h3;cases h3;exact hz
    ·exact C1v x l i k y h1 (by omega) h3
   ·omega
theorem C7y (x:Int)(l:List Int):∀ i,rT x l i=0∨∃ y,l[rT x l i-1]?=some y∧¬ x<y∨l[rT x l i-1]?=none
 | 0=>.inl rfl
 | i+1=>by
  rw[rT]
  cases hi:l[i]? with
  | none=>right;exact⟨0,.inr (by simp only[Nat.add_sub_cancel];exact hi)⟩
  | some z=>
   simp only
   split
   ·exact C7y x l i
   ·rename_i hz;right;exact⟨z,.inl ⟨by simp only[Nat.add_sub_cancel];exact hi,hz⟩⟩
theorem C2f (x:Int)(l:List Int)(i:Nat):(qX x l i).Perm (x::l):=by
 unfold qX;have:(l.take i++[x]++l.drop i).Perm ([x]++(l.take i++l.drop i)):=by
  rw[vY];exact List.perm_append_comm_assoc _ _ _
 rw[nX] at this;exact this
theorem D4a {l:List Int}(h:l.Pairwise (·≤·)):(qX x l (rT x l l.length)).Pairwise (·≤·):=by
 obtain⟨i,Hi⟩:∃ i,i=rT x l l.length:=⟨_,rfl⟩
 have ah:i≤l.length:=by rw[Hi];exact UO x l l.length
 have ht:=h.sublist (List.take_sublist i l);have hd:=h.sublist (List.drop_sublist i l);have ac:∀ y∈l.drop i,x<y:=fun y hy=>by
  obtain⟨k,hk⟩:=bI hy;rw[jX] at hk;have hlt:=(yG.1 hk).1;exact C1v x l l.length (i+k) y (by rw[←Hi];omega) hlt hk
 have hle:∀ y∈l.take i,y≤x:=fun y hy=>by
  rcases C7y x l l.length with h0|⟨z,h1|h1⟩
  ·rw[←Hi] at h0;subst h0;simp at hy
  ·rw[←Hi] at h1;obtain⟨k,hk⟩:=bI hy;rw[oZ] at hk;split at hk
   ·rename_i hki;have hz:y≤z:=by
     by_cases e:k=i-1
     ·subst e;rw[h1.1] at hk;cases hk;exact Int.le_refl _
     obtain⟨ag,hk2⟩:=yG.1 hk;obtain⟨hz1,hz2⟩:=yG.1 h1.1;have:=List.pairwise_iff_getElem.1 h k (i-1) ag hz1 (by omega);rw[hk2,hz2] at this;exact this
    omega
   cases hk
  rw[←Hi] at h1;by_cases h0:i=0
  ·subst h0;simp at hy
  rw[List.getElem?_eq_none_iff] at h1;omega
 unfold qX;rw[←Hi,vY,List.pairwise_append];refine⟨ht,?_,?_⟩
 ·rw[eI,sP];exact⟨fun y hy=>by have:=ac y hy;omega,hd⟩
 intro a ha c hc;rcases zU.1 hc with hc|hc
 ·rw[zS] at hc;subst hc;exact hle a ha
 have:=ac c hc;have:=hle a ha;omega
theorem B4m:∀ (f:List FI) (l:List Int),(pK l f).Perm (f.map FI.nU++l)
 | [],l=>by simp[pK]
 | x::r,l=>by
  rw[pK,wS,lT]
  refine(B4m r _).trans ?_
  refine(List.Perm.append_left _ (C2f x.nU l _)).trans ?_
  exact List.perm_middle
theorem B4n:∀ (f:List FI) (l:List Int),l.Pairwise (·≤·)→(pK l f).Pairwise (·≤·)
 | [],_,h=>h
 | _::r,_,h=>B4n r _ (D4a h)
theorem D8o (m:MI):pK [] m.fD=lC m:=by
 have h1:(pK [] m.fD).Pairwise (·≤·):=B4n _ _ List.Pairwise.nil;have h2:(lC m).Pairwise (·≤·):=by
  have:=List.pairwise_mergeSort (le:=fun x y:Int=>decide (x≤y)) (by simp;omega) (by simp;omega) (m.fD.map FI.nU);exact this.imp fun h=>by simpa using h
 have hp:(pK [] m.fD).Perm (lC m):=by
  have:=B4m m.fD [];rw[tT] at this;exact this.trans (List.mergeSort_perm _ _).symm
 exact hp.eq_of_pairwise (fun a b _ _ h1 h2=>by omega) h1 h2
theorem C5i {l:List FI}{f:FI}(h:l[k]?=some f)(acc:List Int):pK acc (l.drop k)=pK (qX f.nU acc (rT f.nU acc acc.length)) (l.drop (k+1)):=by
 obtain⟨hk,rfl⟩:=yG.1 h;rw[uQ hk];rfl
end L
end Go.Proofs.YthcomdofaaeihaaGreatDoor
