import Derived.Test.YtgaoojpakjjdnaaGreatDoorX15
set_option maxHeartbeats 32000000
set_option maxRecDepth 100000
namespace Go.Proofs.YtgaoojpakjjdnaaGreatDoor
namespace L
open Go.RowKit
structure Mm (c0 ca B:Nat) (s:Int×List Int) (w:World):Prop where
 last:w.heap[c0]?=some (.cells #[.int .i64 s.1] 3 (0,0))
 row:∃ v,w.heap[ca]?=some (.cells #[v] 30 (0,0))∧Row ekN w B v s.2
 size:B≤w.heap.size
 lt0:c0<B
 lta:ca<B
structure Stp (c0 ca B:Nat) (w:World) (s:Int×List Int) (w':World):Prop where
 mm:Mm c0 ca B s w'
 os:w'.os=w.os
 tape:w'.tape=w.tape
 output:w'.output=w.output
 size:w.heap.size≤w'.heap.size
 own:∃ v v',w.heap[ca]?=some (.cells #[v] 30 (0,0))∧w'.heap[ca]?=some (.cells #[v'] 30 (0,0))∧(∀ k,v.ownBlock=some k→B≤k)∧(∀ k,v'.ownBlock=some k→v.ownBlock=some k∨w.heap.size≤k)∧∀ k,k<w.heap.size→k≠c0→k≠ca→v.ownBlock≠some k→w'.heap[k]?=w.heap[k]?
theorem Mm.below {c0 ca B:Nat}{s:Int×List Int}{w w':World}(h:Mm c0 ca B s w)(hb:Below w.heap.size w w'):Mm c0 ca B s w':=by
 obtain⟨v,h1,h2⟩:=h.row
 have hs:=h.size;have h0:=h.lt0;have ha:=h.lta
 exact⟨(hb.block c0 (by omega)).trans h.last,⟨v,(hb.block ca (by omega)).trans h1,h2.below hb⟩,Nat.le_trans hs hb.size,h0,ha⟩
theorem Stp.of_below {c0 ca B:Nat}{s:Int×List Int}{w w':World}(h:Mm c0 ca B s w)(hb:Below w.heap.size w w'):Stp c0 ca B w s w':=by
 obtain⟨v,h1,h2⟩:=h.row
 have hs:=h.size;have ha:=h.lta
 exact⟨h.below hb,hb.os,hb.tape,hb.output,hb.size,v,v,h1,(hb.block ca (by omega)).trans h1,fun k hk=>(h2.own k hk).1,fun k hk=>.inl hk,fun k hk _ _ _=>hb.block k hk⟩
theorem Stp.refl {c0 ca B:Nat}{s:Int×List Int}{w:World}(h:Mm c0 ca B s w):Stp c0 ca B w s w:=.of_below h (Below.refl _ _)
theorem Stp.trans {c0 ca B:Nat}{s1 s2:Int×List Int}{w w1 w2:World}(h:Stp c0 ca B w s1 w1)(k:Stp c0 ca B w1 s2 w2):Stp c0 ca B w s2 w2:=by
 obtain⟨v,v1,a1,a2,a3,a4,a5⟩:=h.own
 obtain⟨u,u2,b1,b2,b3,b4,b5⟩:=k.own
 rw[a2] at b1
 simp only[Option.some.injEq,Obj.cells.injEq,Array.mk.injEq,List.cons.injEq,and_true] at b1
 subst b1
 have hsz:=h.size
 refine⟨k.mm,k.os.trans h.os,k.tape.trans h.tape,k.output.trans h.output,Nat.le_trans h.size k.size,v,u2,a1,b2,a3,?_,?_⟩
 ·intro i hi
  rcases b4 i hi with h1|h1
  ·exact a4 i h1
  ·exact .inr (by omega)
 ·intro i hi h0 ha hv
  rw[b5 i (by omega) h0 ha ?_,a5 i hi h0 ha hv]
  intro e
  rcases a4 i e with h1|h1
  ·exact hv h1
  ·omega
theorem Stp.below {c0 ca B B0:Nat}{s:Int×List Int}{w w':World}(h:Stp c0 ca B w s w')(h0:B0≤c0)(ha:B0≤ca):Below B0 w w':=by
 obtain⟨v,v1,a1,a2,a3,a4,a5⟩:=h.own
 have hl:=h.mm.lt0
 have ac:ca<w.heap.size:=(Array.getElem?_eq_some_iff.1 a1).1
 exact⟨h.os,h.tape,h.output,h.size,fun k hk=>a5 k (by omega) (by omega) (by omega) (fun e=>by have:=a3 k e;omega)⟩
theorem Stp.block {c0 ca B:Nat}{s:Int×List Int}{w w':World}(h:Stp c0 ca B w s w'){k:Nat}{xs:Array Value}{t:TypeId}{fr:Nat×Nat}(hk:w.heap[k]?=some (.cells xs t fr))(h0:k≠c0)(ha:k≠ca)(hB:k<B):w'.heap[k]?=some (.cells xs t fr):=by
 obtain⟨v,v1,a1,a2,a3,a4,a5⟩:=h.own
 rw[a5 k (Array.getElem?_eq_some_iff.1 hk).1 h0 ha (fun e=>by have:=a3 k e;omega)]
 exact hk
theorem Stp.block' {c0 ca B:Nat}{s s1:Int×List Int}{w0 w w':World}(h0:Mm c0 ca B s w0)(hb:Below w0.heap.size w0 w)(h:Stp c0 ca B w s1 w'){k:Nat}{xs:Array Value}{t:TypeId}{fr:Nat×Nat}(hk:w.heap[k]?=some (.cells xs t fr))(hlt:w0.heap.size≤k):w'.heap[k]?=some (.cells xs t fr):=by
 obtain⟨v,v1,a1,a2,a3,a4,a5⟩:=h.own
 obtain⟨u,b1,b2⟩:=h0.row
 have hs:=h0.size;have hl0:=h0.lt0;have ac:=h0.lta
 have e:=(hb.block ca (by omega)).trans b1
 rw[a1] at e
 simp only[Option.some.injEq,Obj.cells.injEq,Array.mk.injEq,List.cons.injEq,and_true] at e
 subst e
 rw[a5 k (Array.getElem?_eq_some_iff.1 hk).1 (by omega) (by omega) (fun e=>by have:=(b2.own k e).2;omega)]
 exact hk
theorem D5p {β:Type}{w:World}{c0 ca B:Nat}{s:Int×List Int}(hm:Mm c0 ca B s w)(x:FI)(v:VI β){a1 a2 a3:Option Addr}{n1 n2 n3 c1 c2 c3:Nat} :
  Calls Tryz.prog 195 #[vFI x,.agg #[.int .i64 v.number,.slice a1 n1 c1,.slice a2 n2 c2,.slice a3 n3 c3],.pointer (some ⟨c0,0,none⟩)] w fun e w'=>e = .returned (.bool (decide (v.number≤s.1)))∧Stp c0 ca B w (v.number,s.2) w':=by
 obtain⟨u,h1,h2⟩:=hm.row
 have hs:=hm.size;have hl0:=hm.lt0;have ak:=hm.lta
 have aj:c0<w.heap.size:=by omega
 have au:w.cell? ⟨c0,0,none⟩=some (.int .i64 s.1):=A0a hm.last 0 _ rfl
 have f0:=A0b hm.last 0
 have hne:c0≠ca:=fun e=>by have:=hm.last;rw[e,h1] at this;simp at this
 have hX:(w.setCell ⟨c0,0,none⟩ (.int .i64 v.number)).heap[c0]?=some (.cells #[.int .i64 v.number] 3 (0,0)):=heap_setCell_same _ _ 0 _ _ _ hm.last
 have ag:∀ o o',Stp c0 ca B w (v.number,s.2) (((w.setCell ⟨c0,0,none⟩ (.int .i64 v.number)).alloc o).alloc o'):=by
  intro o o'
  have hb2:Below w.heap.size (w.setCell ⟨c0,0,none⟩ (.int .i64 v.number)) (((w.setCell ⟨c0,0,none⟩ (.int .i64 v.number)).alloc o).alloc o'):=((Below.refl _ _).alloc (by simp) _).alloc (by simp) _
  have ac:∀ k,k≠c0→(w.setCell ⟨c0,0,none⟩ (.int .i64 v.number)).heap[k]?=w.heap[k]?:=fun k hk=>Below.heap_setCell w ⟨c0,0,none⟩ _ k (show k≠c0 from hk)
  have ah:=(hb2.block ca (by omega)).trans ((ac ca (Ne.symm hne)).trans h1)
  have hown:∀ k,u.ownBlock=some k→B≤k∧k<w.heap.size:=h2.own
  refine⟨⟨(hb2.block c0 aj).trans hX,⟨u,ah,?_⟩,?_,hl0,ak⟩,hb2.os,hb2.tape,hb2.output,by simpa using hb2.size,u,u,h1,ah,fun k hk=>(hown k hk).1,fun k hk=>.inl hk,fun k hk h0 _ _=>(hb2.block k hk).trans (ac k h0)⟩
  ·exact(h2.other (fun e=>by have:=(hown c0 e).1;omega) 0 _).keep fun k _ hk=>hb2.block k (by simpa using hk)
  ·have:=hb2.size;simp at this ⊢;omega
 unfold vFI
 go_enter Tryz.func195,Tryz.ntmps195
 go_wp2
 go_ret
 exact⟨rfl,ag _ _⟩
def B0c (x:FI)(l:List Int):List Int:=if 0<x.choice then l++[x.choice] else l
theorem D1x {β:Type}{w:World}{c0 ca B:Nat}{s:Int×List Int}(hm:Mm c0 ca B s w)(hl:s.2.length≤17592186044415)(x:FI)(y:VI β){a1 a2 a3:Option Addr}{n1 n2 n3 c1 c2 c3:Nat} :
  Calls Tryz.prog 196 #[vFI x,.agg #[.int .i64 y.number,.slice a1 n1 c1,.slice a2 n2 c2,.slice a3 n3 c3],.pointer (some ⟨ca,0,none⟩)] w fun e w'=>e = .returned (.bool (decide (0<x.choice∧x.choice∈s.2)))∧Stp c0 ca B w (s.1,B0c x s.2) w':=by
 obtain⟨v,hc,hr⟩:=hm.row
 obtain⟨last,l⟩:=s
 have hr:Row ekN w B v l:=hr
 have hl:l.length≤17592186044415:=hl
 have hB:=hm.size;have hl0:=hm.lt0;have cj:=hm.lta
 obtain⟨ao,n,cap,rfl,Hn⟩:=hr.shape'
 have bt:ca<w.heap.size:=by omega
 obtain⟨W2,aj⟩:∃ W2,Hid (W2=(w.alloc (.cells #[.string (S x.name),.int .i64 x.number,.int .i64 x.kind,.string (S x.type),.bool x.many,.int .i64 x.choice] 40)).alloc (.cells #[.int .i64 y.number,.slice a1 n1 c1,.slice a2 n2 c2,.slice a3 n3 c3] 62)):=⟨_,rfl⟩
 have hb2:Below w.heap.size w W2:=by rw[aj.out];exact((Below.refl _ _).alloc (Nat.le_refl _) _).alloc (by simp) _
 have hz2:w.heap.size+2≤W2.heap.size:=by rw[aj.out];simp
 have x1:W2.heap[w.heap.size]?=some (.cells #[.string (S x.name),.int .i64 x.number,.int .i64 x.kind,.string (S x.type),.bool x.many,.int .i64 x.choice] 40 (0,0)):=by rw[aj.out];exact A0l _ _ _
 have hc2:=(hb2.block ca bt).trans hc
 have hr2:=hr.below hb2
 have bv:w.cell? ⟨ca,0,none⟩=some (.slice ao n cap):=A0a hc 0 _ rfl
 unfold vFI
 by_cases h0:0<x.choice
 ·have HD:Hid (decide (0<x.choice∧x.choice∈l)=decide (x.choice∈l)):=by show _=_;simp[h0]
  have d0:decide (x.choice≤0)=false:=by simp;omega
  have HT:Hid (B0c x l=l++[x.choice]):=by show _=_;unfold B0c;rw[if_pos h0]
  show Calls _ _ _ _ fun e w'=>e = .returned (.bool (decide (0<x.choice∧x.choice∈l)))∧Stp c0 ca B w (last,B0c x l) w'
  rw[HD.out,HT.out]
  clear h0
  have bu:=A6o hr2.rdN x.choice
  obtain⟨q,Hq⟩:∃ q,Hid (q=decide (x.choice∈l)):=⟨_,rfl⟩
  rw[←Hq.out] at bu ⊢
  obtain⟨W4,au⟩:∃ W4,Hid (W4=W2.alloc (.cells #[.int .i64 x.choice] 3)):=⟨_,rfl⟩
  have br:Below W2.heap.size W2 W4:=by rw[au.out];exact(Below.refl _ _).alloc (Nat.le_refl _) _
  have bq:W4.cell? ⟨W2.heap.size,0,none⟩=some (.int .i64 x.choice):=by rw[au.out];exact A0a (heap_alloc_new W2 _) 0 _ rfl
  have hr4:Row ekN W4 B (.slice ao n cap) l:=hr2.below br
  have ac:Below w.heap.size w W4:=hb2.trans (br.mono hb2.size)
  have cg:=(ac.block ca bt).trans hc
  have hlen:(l.length + [x.choice].length)*ekN.bytes≤140737488355328:=by
   show(l.length+1)*8≤_
   omega
  have hcell:∀ ad,(some ⟨W2.heap.size,0,none⟩:Option Addr)=some ad→∀ k y,[x.choice][k]?=some y→∀ j u,(ekN.enc y)[j]?=some u→W4.cell? (ad.add (k*ekN.size+j))=some u:=by
   intro ad had k y hy j u hu
   cases had
   have hk:k=0:=by
    cases k with
    | zero=>rfl
    | succ k=>simp at hy
   subst hk
   simp at hy
   subst hy
   have hj:j=0:=by
    cases j with
    | zero=>rfl
    | succ j=>simp[ekN,D9u] at hu
   subst hj
   have hu:u = .int .i64 x.choice:=by simpa [ekN,D9u] using hu.symm
   subst hu
   rw[A0d]
   simpa using bq
  obtain⟨_,_,_,_,_,d5⟩:=B1g x1
  have e0:W2.cell? ⟨ca,0,none⟩=some (.slice ao n cap):=A0a hc2 0 _ rfl
  have bw:B≤W4.heap.size:=Nat.le_trans hB ac.size
  go_enter Tryz.func196,Tryz.ntmps196
  go_wp2_with fail
  rw[←aj.out]
  refine bu.mono ?_
  rintro e w1 ⟨rfl,rfl⟩
  go_wp2_with (at_builtin;rw[←au.out];refine A1s rfl ekN _ _ rfl B _ l [x.choice] rfl hr4 (some ⟨W2.heap.size,0,none⟩) 1 1 rfl rfl (fun h=>by cases h) hcell (by decide) hlen bw ?_)
  intro v5 w5 bk ah cu
  have hown:=hr4.own
  have a8:(Value.slice ao n cap).ownBlock≠some ca:=fun hh=>by have:=(hown ca hh).1;omega
  have aw:=(ah.block ca (by omega) (fun hh=>a8 hh.symm)).trans cg
  have k0:=A0a aw 0 _ rfl
  have k1:=A0b aw 0
  obtain⟨a5,n5,ag,rfl,df⟩:=bk.shape'
  go_wp2
  go_ret
  have cw:=ah.size
  have dg:=ac.size
  have bp:∀ k,k≠ca→(w5.setCell ⟨ca,0,none⟩ (.slice a5 n5 ag)).heap[k]?=w5.heap[k]?:=fun k hk=>Below.heap_setCell w5 ⟨ca,0,none⟩ _ k (show k≠ca from hk)
  have ak:(w5.setCell ⟨ca,0,none⟩ (.slice a5 n5 ag)).heap[ca]?=some (.cells #[.slice a5 n5 ag] 30 (0,0)):=heap_setCell_same _ _ 0 _ _ _ aw
  have hne:c0≠ca:=fun e=>by have:=hm.last;rw[e,hc] at this;simp at this
  have hblk:∀ k,k<w.heap.size→k≠ca→(Value.slice ao n cap).ownBlock≠some k→(w5.setCell ⟨ca,0,none⟩ (.slice a5 n5 ag)).heap[k]?=w.heap[k]?:=fun k hk bg bh=>by
   rw[bp k bg,ah.block k (by omega) (fun e=>bh e.symm),ac.block k hk]
  refine⟨rfl,⟨⟨?_,⟨_,ak,?_⟩,?_,hl0,cj⟩,?_,?_,?_,?_,_,_,hc,ak,fun k hk=>(hr.own k hk).1,?_,fun k hk _ bg bh=>hblk k hk bg bh⟩⟩
  ·rw[hblk c0 (by omega) hne (fun hh=>by have:=(hown c0 hh).1;omega)];exact hm.last
  ·exact bk.other (fun hh=>by have:=(bk.own ca hh).1;omega) 0 _
  ·simp;omega
  ·exact ah.os.trans ac.os
  ·exact ah.tape.trans ac.tape
  ·exact ah.output.trans ac.output
  ·simp;omega
  ·intro k hk
   rcases cu k hk with h1|h1
   ·exact .inl h1
   ·exact .inr (by omega)
 ·have HD:Hid (decide (0<x.choice∧x.choice∈l)=false):=by show _=_;simp[h0]
  have d0:decide (x.choice≤0)=true:=by simp;omega
  have HT:Hid (B0c x l=l):=by show _=_;unfold B0c;rw[if_neg h0]
  show Calls _ _ _ _ fun e w'=>e = .returned (.bool (decide (0<x.choice∧x.choice∈l)))∧Stp c0 ca B w (last,B0c x l) w'
  rw[HD.out,HT.out]
  clear h0 bv
  go_enter Tryz.func196,Tryz.ntmps196
  go_wp2
  go_ret
  rw[←aj.out]
  exact⟨rfl,Stp.of_below hm hb2⟩
theorem B0e {β:Type}{w:World}{c0 ca B:Nat}{s s':Int×List Int}(hm:Mm c0 ca B s w){fn cb ce:Nat}{cap:Array Value}{err:Int}{r:Bool}(bg:∀ (args:Array Value) (w:World),(callFunc fn args).run Tryz.prog w = .ok (.enter fn args) w)
  (hcb:w.heap[cb]?=some (.cells #[.func (.func fn) #[] cap] 132 (0,0))) (hce:w.heap[ce]?=some (.cells #[.int .i64 err] 33 (0,0))) (aw:ce<B) (au:ce≠c0) (a8:ce≠ca) (x:FI) (v:VI β){a1 a2 a3:Option Addr}{n1 n2 n3 c1 c2 c3:Nat}
  (ac:∀ W,Below w.heap.size w W→Calls Tryz.prog fn (#[vFI x,.agg #[.int .i64 v.number,.slice a1 n1 c1,.slice a2 n2 c2,.slice a3 n3 c3]]++cap) W fun e w'=>e = .returned (.bool r)∧Stp c0 ca B W s' w') :
  Calls Tryz.prog 194 #[vFI x,.agg #[.int .i64 v.number,.slice a1 n1 c1,.slice a2 n2 c2,.slice a3 n3 c3],.pointer (some ⟨cb,0,none⟩),.pointer (some ⟨ce,0,none⟩)] w fun e w'=>e = .returned (.int .i64 (if r then err else 0))∧Stp c0 ca B w s' w':=by
 obtain⟨W2,aj⟩:∃ W2,Hid (W2=(w.alloc (.cells #[.string (S x.name),.int .i64 x.number,.int .i64 x.kind,.string (S x.type),.bool x.many,.int .i64 x.choice] 40)).alloc (.cells #[.int .i64 v.number,.slice a1 n1 c1,.slice a2 n2 c2,.slice a3 n3 c3] 62)):=⟨_,rfl⟩
 have hb2:Below w.heap.size w W2:=by rw[aj.out];exact((Below.refl _ _).alloc (Nat.le_refl _) _).alloc (by simp) _
 have k0:w.cell? ⟨cb,0,none⟩=some (.func (.func fn) #[] cap):=A0a hcb 0 _ rfl
 have hc:=ac W2 hb2
 have ag:=(hb2.block ce (Array.getElem?_eq_some_iff.1 hce).1).trans hce
 have ak:=(Array.getElem?_eq_some_iff.1 hcb).1
 clear ac
 unfold vFI at hc ⊢
 go_enter Tryz.func194,Tryz.ntmps194
 go_wp2_with fail
 rw[←aj.out]
 refine hc.mono ?_
 rintro e w3 ⟨rfl,hs3⟩
 have ah:=hs3.block ag au a8 aw
 have k1:w3.cell? ⟨ce,0,none⟩=some (.int .i64 err):=A0a ah 0 _ rfl
 have hst:=(Stp.of_below hm hb2).trans hs3
 cases r with
 | true=>
  go_wp2
  go_ret
  exact⟨rfl,hst⟩
 | false=>
  go_wp2
  go_ret
  exact⟨rfl,hst⟩
theorem C9d {R:Int}{post:World→Prop}{W:World}{cm ct cv k fn:Nat}{cap:Array Value}{nm:List UInt8}{af ab:Option Addr}{nf cf nb cb:Nat}{fs:List FI}{x:FI}{number:Int}{a1 a2 a3:Option Addr}{n1 n2 n3 c1 c2 c3:Nat}
  (hcm:W.heap[cm]?=some (.cells #[.string (S nm),.slice af nf cf,.slice ab nb cb] 38 (0,0))) (ag:W.heap[ct]?=some (.cells #[.int .i64 (k:Int)] 3 (0,0))) (hcv:W.heap[cv]?=some (.cells #[.int .i64 number,.slice a1 n1 c1,.slice a2 n2 c2,.slice a3 n3 c3] 62 (0,0)))
  (hf:RdL 6 FAt W (.slice af nf cf) fs) (hk:fs[k]?=some x) (ah:∀ (args:Array Value) (w:World),(callFunc fn args).run Tryz.prog w = .ok (.enter fn args) w)
  (ac:Calls Tryz.prog fn (#[vFI x,.agg #[.int .i64 number,.slice a1 n1 c1,.slice a2 n2 c2,.slice a3 n3 c3]]++cap) W.drew fun e w'=>e = .returned (.int .i64 R)∧post w') :
  Calls Tryz.prog 121 #[.func (.func fn) #[] cap,.pointer (some ⟨cm,0,none⟩),.pointer (some ⟨ct,0,none⟩),.pointer (some ⟨cv,0,none⟩)] W fun e w'=>e = .returned (.int .i64 R)∧post w':=by
 have hb:Below W.heap.size W W.drew:=(Below.refl _ _).drew
 obtain⟨b,o,rfl,hat⟩:=hf.get FAt.plain hk
 have aj:=hf.len.1
 have ak:k<nf:=by rw[aj];exact(List.getElem?_eq_some_iff.1 hk).1
 have au:(k:Int)<(nf:Int):=by omega
 have hat':=FAt.stays _ _ _ _ hb hat
 simp only[FAt,A0d] at hat'
 obtain⟨f0,f1,f2,f3,f4,f5⟩:=hat'
 have m1:W.drew.cell? ⟨cm,1,none⟩=some (.slice (some ⟨b,o,none⟩) nf cf):=A0c hb (A0a hcm 1 _ rfl)
 have t0:W.drew.cell? ⟨ct,0,none⟩=some (.int .i64 (k:Int)):=A0c hb (A0a ag 0 _ rfl)
 have v0:W.drew.cell? ⟨cv,0,none⟩=some (.int .i64 number):=A0c hb (A0a hcv 0 _ rfl)
 have v1:W.drew.cell? ⟨cv,1,none⟩=some (.slice a1 n1 c1):=A0c hb (A0a hcv 1 _ rfl)
 have v2:W.drew.cell? ⟨cv,2,none⟩=some (.slice a2 n2 c2):=A0c hb (A0a hcv 2 _ rfl)
 have v3:W.drew.cell? ⟨cv,3,none⟩=some (.slice a3 n3 c3):=A0c hb (A0a hcv 3 _ rfl)
 clear hf hcm ag hcv hat
 unfold vFI at ac
 go_enter Tryz.func121,Tryz.ntmps121
 go_wp2
 go_region_with (refine ac.mono ?_;rintro e w1 ⟨rfl,hp⟩)
 all_goals
  go_wp2
  go_ret
  exact⟨rfl,hp⟩
def A6d (e:Nat→Int):Nat→Nat→Int
 | _,0=>0
 | k,m+1=>if e k=0 then A6d e (k+1) m else e k
theorem C0s {c0 ca B g cm ct cv:Nat}{w:World}(L:List (Nat×Array Value))(sAt:Nat→Int×List Int)(eAt:Nat→Int)(hn:L.length≤1000)(hm:Mm c0 ca B (sAt 0) w)
  (ag:∀ s' W,Stp c0 ca B w s' W→∀ (j:Nat) (p:Nat×Array Value),L[j]?=some p→W.cell? ⟨g,j,none⟩=some (.func (.func p.1) #[] p.2))
  (hstep:∀ (j:Nat) (p:Nat×Array Value) (W:World),L[j]?=some p→Stp c0 ca B w (sAt j) W→(∀ i,i<j→eAt i=0)→Calls Tryz.prog 121 #[.func (.func p.1) #[] p.2,.pointer (some ⟨cm,0,none⟩),.pointer (some ⟨ct,0,none⟩),.pointer (some ⟨cv,0,none⟩)] W fun e W'=>e = .returned (.int .i64 (eAt j))∧Stp c0 ca B W (sAt (j+1)) W') :
  Calls Tryz.prog 120 #[.slice (some ⟨g,0,none⟩) L.length L.length,.func (.func 121) #[] #[.pointer (some ⟨cm,0,none⟩),.pointer (some ⟨ct,0,none⟩),.pointer (some ⟨cv,0,none⟩)]] w
   fun e w'=>e = .returned (.int .i64 (A6d eAt 0 L.length))∧∃ s',Stp c0 ca B w s' w'∧(A6d eAt 0 L.length=0→s'=sAt L.length):=by
 obtain⟨n,Hn⟩:∃ n,Hid (n=L.length):=⟨_,rfl⟩
 obtain⟨R,HR⟩:∃ R,Hid (R=A6d eAt 0 n):=⟨_,rfl⟩
 rw[←Hn.out] at hn ⊢
 rw[←HR.out]
 go_enter Tryz.func120,Tryz.ntmps120
 go_wp2_with fail
 go_loopg [10] n (fun m i wr=>∃ k:Nat,k+m=n∧i = .int .i64 k∧Hid (R=A6d eAt k m)∧Hid (∀ i,i<k→eAt i=0)∧Stp c0 ca B w (sAt k) wr)
 case atStart=>exact⟨0,by omega,rfl,HR,(show Hid _ from fun i hi=>absurd hi (Nat.not_lt_zero i)),Stp.refl hm⟩
 case round=>
  obtain⟨k,hk,rfl,HK,HZ,hs⟩:=hrel
  by_cases hlt:k<n
  ·obtain⟨p,Hp⟩:∃ p,Hid (L[k]?=some p):=⟨L[k]'(by rw[←Hn.out];exact hlt),List.getElem?_eq_getElem (by rw[←Hn.out];exact hlt)⟩
   obtain⟨fn,cap⟩:=p
   have hat:wr.cell? ⟨g,k,none⟩=some (.func (.func fn) #[] cap):=ag _ wr hs k (fn,cap) Hp.out
   have aj:(k:Int)<(n:Int):=by omega
   have ac:=hstep k (fn,cap) wr Hp.out hs HZ.out
   obtain⟨m,rfl⟩:∃ m,gk=m+1:=⟨gk-1,by omega⟩
   have hst:A6d eAt k (m+1)=if eAt k=0 then A6d eAt (k+1) m else eAt k:=rfl
   obtain⟨F,HF⟩:∃ F,Hid (F=eAt k):=⟨_,rfl⟩
   rw[←HF.out] at ac hst
   by_cases hz:F=0
   ·have HX:Hid (R=A6d eAt (k+1) m):=by
     show _=_
     rw[HK.out,hst,if_pos hz]
    have ah:Hid (∀ i,i<k+1→eAt i=0):=by
     show ∀ i,i<k+1→eAt i=0
     intro i hi
     rcases Nat.lt_succ_iff_lt_or_eq.1 hi with h|h
     ·exact HZ.out i h
     ·rw[h,←HF.out,hz]
    have ez:(F != 0)=false:=by simp[hz]
    clear hst hz hstep ag
    go_wp2_with fail
    refine ac.mono ?_
    rintro e w1 ⟨rfl,hs1⟩
    go_wp2_with fail
    go_roundg m
    case measure=>omega
    case rel=>exact⟨k+1,by omega,by go_num,HX,ah,hs.trans hs1⟩
   ·have HX:Hid (R=F):=by
     show _=_
     rw[HK.out,hst,if_neg hz]
    have HY:Hid (R≠0):=by show R≠0;rw[HX.out];exact hz
    have ez:(F != 0)=true:=by simpa using hz
    clear hst hz hstep ag
    go_wp2_with fail
    refine ac.mono ?_
    rintro e w1 ⟨rfl,hs1⟩
    go_wp2
    go_ret
    exact⟨by rw[HX.out];rfl,_,hs.trans hs1,fun e=>absurd e HY.out⟩
  ·obtain rfl:k=n:=by omega
   obtain rfl:gk=0:=by omega
   have HX:Hid (R=0):=HK
   go_wp2
   go_ret
   exact⟨by rw[HX.out];rfl,_,hs,fun _=>rfl⟩
open Go.ChangeShapes Go.WideShapes Go.ChangeAt Go.RowKit
section
variable {H:Type}{enc:TypeId×Value→H}{w:World}{base:Nat}{spare:Nat→Bool}{held:Bool}
theorem A4y {α:Type}{P:World→Addr→α→Prop}{Q : α→Prop}{sz bytes:Nat}{t e:TypeId}(ht:Tryz.prog.underlying t=some (.slice e))(hc:Tryz.prog.cellsOf e=sz)(hby:Tryz.prog.bytesOf e=bytes)
  {fuel:Nat}{cs:List Value}{d:DataW H}{pl:List MemPlace}(h:DataW.trod enc Tryz.prog w base spare held fuel t cs=some (d,pl)) (hsz:Sz t d)
  (ag:∀ (fuel:Nat) (a:Addr) (cs:List Value) (d':DataW H) (pl:List MemPlace),SizeOf.sizeOf d'<SizeOf.sizeOf d→w.cells? base a sz=some cs→DataW.trod enc Tryz.prog w base spare held fuel e cs=some (d',pl)→Sz e d'→∃ y,P w a y∧Q y) :
  ∃ v l,cs = [v]∧RdL sz P w v l∧(∀ y∈l,Q y)∧l.length*bytes≤reachBytes:=by
 rcases Go.Deep.open_slice ht h with⟨hcs,_⟩|⟨a,len,cap,m,n,D,Pl,hcs,_,hl,hm,hmm,hx,hels⟩
 ·exact⟨_,[],hcs,RdL.nil _ _ _,fun y hy=>by simp at hy,by simp⟩
 ·rw[hc] at hels
  have hd:=(Prod.mk.inj hx).1
  have aj:len≤m:=by rw[hmm];split <;> omega
  have hw:(len+(m-len))*bytes≤reachBytes:=by
   refine hsz _ ?_
   rw[hd,DataW.weights,ht]
   simp[hby]
  have hex:∀ i,i<len→∃ y,P w (a.add (i*sz)) y∧Q y:=by
   intro i hi
   obtain⟨cs',h1,h2⟩:=hels i (by omega)
   have ac:D i∈(List.range len).map D:=List.mem_map.2 ⟨i,List.mem_range.2 hi,rfl⟩
   refine ag n _ cs' (D i) (Pl i) ?_ h1 h2 ?_
   ·have:=List.sizeOf_lt_of_mem ac
    rw[hd,DataW.slice.sizeOf_spec]
    omega
   ·intro q hq
    refine hsz q ?_
    rw[hd,DataW.weights,ht]
    simp only[List.mem_cons,List.mem_append]
    exact .inr (.inl (C7t ac q hq))
  obtain⟨f,hf⟩:∃ f:Fin len→α,∀ i,P w (a.add (i.1*sz)) (f i)∧Q (f i):=⟨fun i=>Classical.choose (hex i.1 i.2),fun i=>Classical.choose_spec (hex i.1 i.2)⟩
  refine⟨_,List.ofFn f,hcs,⟨some a,len,cap,rfl,by simp,hl,hm,fun h=>(by cases h),?_⟩,?_,?_⟩
  ·intro x ah k y hy
   cases ah
   rw[List.getElem?_ofFn] at hy
   by_cases hk:k<len
   ·rw[dif_pos hk] at hy
    cases hy
    exact(hf ⟨k,hk⟩).1
   ·rw[dif_neg hk] at hy
    cases hy
  ·intro y hy
   obtain⟨i,rfl⟩:=List.mem_ofFn.1 hy
   exact(hf i).2
  ·simp only[List.length_ofFn]
   exact Nat.le_trans (Nat.mul_le_mul_right _ (Nat.le_add_right _ _)) hw
theorem C3h {fuel:Nat}{c:Value}{x:DataW H×List MemPlace}(h:DataW.trod enc Tryz.prog w base spare held fuel 63 [c]=some x):∃ n:Nat,c = .int .u64 (n:Int)∧n<18446744073709551616:=by
 obtain⟨n,h1,_,h2⟩:=DataW.trod_int Tryz.underlying63 h
 simp at h1
 have:=bounds_u64 h2
 exact⟨n.toNat,by rw[h1,Int.toNat_of_nonneg (by omega)],by omega⟩
theorem D4y (fuel:Nat)(a:Addr)(cs:List Value)(d:DataW H)(pl:List MemPlace)(hc:w.cells? base a 1=some cs)(h:DataW.trod enc Tryz.prog w base spare held fuel 63 cs=some (d,pl)):∃ y,UAt w a y∧y<18446744073709551616:=by
 obtain⟨_,hlen,hcell⟩:=World.cells?_some hc
 match cs,hlen with
 | [v0],_=>
  obtain⟨n1,rfl,z1⟩:=C3h h
  refine⟨n1,?_,z1⟩
  have:=hcell 0 (by omega)
  simpa [Addr.add,UAt] using this
theorem D0e (fuel:Nat)(a:Addr)(cs:List Value)(d:DataW H)(pl:List MemPlace)(hc:w.cells? base a 1=some cs)(h:DataW.trod enc Tryz.prog w base spare held fuel 5 cs=some (d,pl)):∃ y,YAt w a y∧True:=by
 obtain⟨_,hlen,hcell⟩:=World.cells?_some hc
 match cs,hlen with
 | [v0],_=>
  obtain⟨n,h1,_,h2⟩:=DataW.trod_int Tryz.underlying5 h
  simp at h1
  subst h1
  have hb:=bounds_u8 h2
  refine⟨UInt8.ofNat n.toNat,?_,trivial⟩
  have:=hcell 0 (by omega)
  have e:(((UInt8.ofNat n.toNat).toNat:Nat):Int)=n:=by
   rw[UInt8.toNat_ofNat',Nat.mod_eq_of_lt (by omega),Int.toNat_of_nonneg (by omega)]
  show w.cell? a=some (.int .u8 (((UInt8.ofNat n.toNat).toNat:Nat):Int))
  rw[e]
  simpa [Addr.add] using this
theorem C3f {fuel:Nat}{cs:List Value}{d:DataW H}{pl:List MemPlace}(h:DataW.trod enc Tryz.prog w base spare held fuel 32 cs=some (d,pl))(hsz:Sz 32 d):∃ v l,cs = [v]∧RdL 1 YAt w v l∧l.length*1≤reachBytes:=by
 obtain⟨v,l,e,r,_,b⟩:=A4y (P:=YAt) (Q:=fun _=>True) (sz:=1) (bytes:=1) Tryz.underlying32 (by kernel_rfl) (by kernel_rfl) h hsz fun fuel a cs d' pl _ hc h' _=>D0e fuel a cs d' pl hc h'
 exact⟨v,l,e,r,b⟩
theorem D0g (fuel:Nat)(a:Addr)(cs:List Value)(d:DataW H)(pl:List MemPlace)(hc:w.cells? base a 1=some cs)(h:DataW.trod enc Tryz.prog w base spare held fuel 32 cs=some (d,pl))(hsz:Sz 32 d):∃ y,ZAt w a y∧y.length*1≤reachBytes:=by
 obtain⟨_,hlen,hcell⟩:=World.cells?_some hc
 obtain⟨v,l,e,r,b⟩:=C3f h hsz
 subst e
 refine⟨l,⟨v,?_,r⟩,b⟩
 have:=hcell 0 (by omega)
 simpa [Addr.add] using this
theorem D5a (fuel:Nat)(a:Addr)(cs:List Value)(d:DataW H)(pl:List MemPlace)(hc:w.cells? base a 4=some cs)(h:DataW.trod enc Tryz.prog w base spare held fuel 106 cs=some (d,pl))(hsz:Sz 106 d):∃ y,RAt w a y∧B7r y:=by
 obtain⟨_,hlen,hcell⟩:=World.cells?_some hc
 obtain⟨xs,n,_,hx,_,ac,hf⟩:=DataW.trod_struct Tryz.underlying106 h
 have hd:=(Prod.mk.inj hx).1
 rw[hd] at hsz
 match cs,hlen with
 | [v0,v1,v2,v3],_=>
  have ag:xs.length=4:=ac
  have f0:DataW.trod enc Tryz.prog w base spare held n 3 [v0]=xs[0]?:=hf 0 _ rfl
  have f1:DataW.trod enc Tryz.prog w base spare held n 3 [v1]=xs[1]?:=hf 1 _ rfl
  have f2:DataW.trod enc Tryz.prog w base spare held n 63 [v2]=xs[2]?:=hf 2 _ rfl
  have f3:DataW.trod enc Tryz.prog w base spare held n 32 [v3]=xs[3]?:=hf 3 _ rfl
  rw[List.getElem?_eq_getElem (by omega)] at f0 f1 f2 f3
  have q3:Sz 32 (xs[3]'(by omega)).1:=B0s (i:=3) Tryz.underlying106 hsz rfl (List.getElem?_eq_getElem (by omega))
  obtain⟨n0,rfl,z0⟩:=A6u f0
  obtain⟨n1,rfl,z1⟩:=A6u f1
  obtain⟨n2,rfl,z2⟩:=C3h f2
  obtain⟨u3,l3,e3,r3,b3⟩:=C3f f3 q3
  simp at e3
  subst e3
  refine⟨⟨n0,n1,n2,l3⟩,⟨v3,?_,hcell 1 (by omega),hcell 2 (by omega),hcell 3 (by omega),r3⟩,z0,z1,z2,b3⟩
  have:=hcell 0 (by omega)
  simpa [Addr.add] using this
theorem D0q {xs:List (DataW H×List MemPlace)}{i:Nat}(hi:i<xs.length):SizeOf.sizeOf (xs[i]'hi).1<SizeOf.sizeOf (DataW.agg (xs.map (·.1))):=by
 have:(xs[i]'hi).1∈xs.map (·.1):=List.mem_map.2 ⟨_,List.getElem_mem hi,rfl⟩
 have:=List.sizeOf_lt_of_mem this
 rw[DataW.agg.sizeOf_spec]
 omega
theorem D5b {β:Type}{P:World→Addr→β→Prop}{Q : β→Prop}(fuel:Nat)(a:Addr)(cs:List Value)(d:DataW H)(pl:List MemPlace)(hc:w.cells? base a 4=some cs)(h:DataW.trod enc Tryz.prog w base spare held fuel 62 cs=some (d,pl))(hsz:Sz 62 d)
  (ac:∀ (fuel:Nat) (a:Addr) (cs:List Value) (d':DataW H) (pl:List MemPlace),SizeOf.sizeOf d'<SizeOf.sizeOf d→w.cells? base a 2=some cs→DataW.trod enc Tryz.prog w base spare held fuel 29 cs=some (d',pl)→Sz 29 d'→∃ y,P w a y∧Q y):∃ y,VAt P w a y∧VOk Q y:=by
 obtain⟨_,hlen,hcell⟩:=World.cells?_some hc
 obtain⟨xs,n,_,hx,_,ag,hf⟩:=DataW.trod_struct Tryz.underlying62 h
 have hd:=(Prod.mk.inj hx).1
 rw[hd] at hsz ac
 match cs,hlen with
 | [v0,v1,v2,v3],_=>
  have ah:xs.length=4:=ag
  have f0:DataW.trod enc Tryz.prog w base spare held n 3 [v0]=xs[0]?:=hf 0 _ rfl
  have f1:DataW.trod enc Tryz.prog w base spare held n 59 [v1]=xs[1]?:=hf 1 _ rfl
  have f2:DataW.trod enc Tryz.prog w base spare held n 58 [v2]=xs[2]?:=hf 2 _ rfl
  have f3:DataW.trod enc Tryz.prog w base spare held n 60 [v3]=xs[3]?:=hf 3 _ rfl
  rw[List.getElem?_eq_getElem (by omega)] at f0 f1 f2 f3
  have q1:Sz 59 (xs[1]'(by omega)).1:=B0s (i:=1) Tryz.underlying62 hsz rfl (List.getElem?_eq_getElem (by omega))
  have q2:Sz 58 (xs[2]'(by omega)).1:=B0s (i:=2) Tryz.underlying62 hsz rfl (List.getElem?_eq_getElem (by omega))
  have q3:Sz 60 (xs[3]'(by omega)).1:=B0s (i:=3) Tryz.underlying62 hsz rfl (List.getElem?_eq_getElem (by omega))
  have g3:=D0q (xs:=xs) (i:=3) (by omega)
  obtain⟨n0,rfl,z0⟩:=A6u f0
  obtain⟨u1,l1,e1,r1,k1,b1⟩:=A4y (P:=UAt) (Q:=fun n=>n<18446744073709551616) (sz:=1) (bytes:=8) Tryz.underlying59 (by kernel_rfl) (by kernel_rfl) f1 q1 fun fuel a cs d' pl _ hc h' _=>D4y fuel a cs d' pl hc h'
  obtain⟨u2,l2,e2,r2,k2,b2⟩:=A4y (P:=ZAt) (Q:=fun l=>l.length*1≤reachBytes) (sz:=1) (bytes:=24) Tryz.underlying58 (by kernel_rfl) (by kernel_rfl) f2 q2 fun fuel a cs d' pl _ hc h' hs=>D0g fuel a cs d' pl hc h' hs
  obtain⟨u3,l3,e3,r3,k3,b3⟩:=A4y (P:=P) (Q:=Q) (sz:=2) (bytes:=48) Tryz.underlying60 (by kernel_rfl) (by kernel_rfl) f3 q3 fun fuel a cs d' pl hlt hc h' hs=>ac fuel a cs d' pl (Nat.lt_trans hlt g3) hc h' hs
  simp at e1 e2 e3
  subst e1 e2 e3
  refine⟨⟨n0,l1,l2,l3⟩,⟨v1,v2,v3,?_,hcell 1 (by omega),hcell 2 (by omega),hcell 3 (by omega),r1,r2,r3⟩,z0,k1,b1,k2,b2,k3,b3⟩
  have:=hcell 0 (by omega)
  simpa [Addr.add] using this
theorem B4u {N:Nat}(aj:∀ (fuel:Nat) (a:Addr) (cs:List Value) (d':DataW H) (pl:List MemPlace),SizeOf.sizeOf d'<N→w.cells? base a 2=some cs→DataW.trod enc Tryz.prog w base spare held fuel 29 cs=some (d',pl)→Sz 29 d'→∃ y,BAt N w a y∧BOk N y)
  {fuel:Nat}{cs:List Value}{d:DataW H}{pl:List MemPlace}(hN:SizeOf.sizeOf d≤N) (h:DataW.trod enc Tryz.prog w base spare held fuel 29 cs=some (d,pl)) (hl:cs.length=2) (hsz:Sz 29 d):∃ v0 v1 y,cs = [v0,v1]∧BRd N w v0 v1 y∧BOk (N+1) y:=by
 obtain⟨xs,n,_,hx,_,ak,hf⟩:=DataW.trod_struct Tryz.underlying29 h
 have hd:=(Prod.mk.inj hx).1
 rw[hd] at hsz hN
 match cs,hl with
 | [v0,v1],_=>
  have au:xs.length=2:=ak
  have f0:DataW.trod enc Tryz.prog w base spare held n 26 [v0]=xs[0]?:=hf 0 _ rfl
  have f1:DataW.trod enc Tryz.prog w base spare held n 27 [v1]=xs[1]?:=hf 1 _ rfl
  rw[List.getElem?_eq_getElem (by omega)] at f0 f1
  have q0:Sz 26 (xs[0]'(by omega)).1:=B0s (i:=0) Tryz.underlying29 hsz rfl (List.getElem?_eq_getElem (by omega))
  have q1:Sz 27 (xs[1]'(by omega)).1:=B0s (i:=1) Tryz.underlying29 hsz rfl (List.getElem?_eq_getElem (by omega))
  have g0:=D0q (xs:=xs) (i:=0) (by omega)
  obtain⟨u0,l0,e0,r0,k0,b0⟩:=A4y (P:=VAt (BAt N)) (Q:=VOk (BOk N)) (sz:=4) (bytes:=80) Tryz.underlying26 (by kernel_rfl) (by kernel_rfl) f0 q0 fun fuel a cs d' pl hlt hc h' hs=>D5b fuel a cs d' pl hc h' hs fun fuel a cs ag pl ac hc ah hs2=>aj fuel a cs ag pl (Nat.lt_of_lt_of_le (Nat.lt_trans ac (Nat.lt_trans hlt g0)) hN) hc ah hs2
  obtain⟨u1,l1,e1,r1,k1,b1⟩:=A4y (P:=RAt) (Q:=B7r) (sz:=4) (bytes:=48) Tryz.underlying27 (by kernel_rfl) (by kernel_rfl) f1 q1 fun fuel a cs d' pl _ hc h' hs=>D5a fuel a cs d' pl hc h' hs
  simp at e0 e1
  subst e0 e1
  exact⟨v0,v1,⟨l0,l1⟩,rfl,⟨r0,r1⟩,k0,b0,k1,b1⟩
theorem C3g:∀ (N fuel:Nat) (a:Addr) (cs:List Value) (d':DataW H) (pl:List MemPlace),SizeOf.sizeOf d'<N→w.cells? base a 2=some cs→DataW.trod enc Tryz.prog w base spare held fuel 29 cs=some (d',pl)→Sz 29 d'→∃ y,BAt N w a y∧BOk N y
 | 0,_,_,_,_,_,h,_,_,_=>by omega
 | N+1,fuel,a,cs,d',pl,hN,hc,h,hs=>by
  obtain⟨_,hlen,hcell⟩:=World.cells?_some hc
  obtain⟨v0,v1,y,rfl,hr,hk⟩:=B4u (C3g N) (by omega) h hlen hs
  refine⟨y,⟨v0,v1,?_,hcell 1 (by omega),hr⟩,hk⟩
  have:=hcell 0 (by omega)
  simpa [Addr.add] using this
theorem open_body {v:Value}{fuel:Nat}{d:DataW H}{pl:List MemPlace}(N:Nat)(hN:SizeOf.sizeOf d≤N)(h:DataW.trod enc Tryz.prog w base spare held fuel 29 v.cells.toList=some (d,pl))(hsz:Sz 29 d):∃ v0 v1 y,v = .agg #[v0,v1]∧BRd N w v0 v1 y∧BOk (N+1) y:=by
 have hlen:v.cells.toList.length=2:=by
  obtain⟨xs,n,_,_,hlen,_,_⟩:=DataW.trod_struct Tryz.underlying29 h
  exact hlen
 obtain⟨v0,v1,y,hcs,hr,hk⟩:=B4u (C3g N) hN h hlen hsz
 clear h hlen
 refine⟨v0,v1,y,?_,hr,hk⟩
 cases v <;> simp[Value.cells] at hcs
 rename_i cs
 have:cs=#[v0,v1]:=by cases cs;simp_all
 rw[this]
end
end L
end Go.Proofs.YtgaoojpakjjdnaaGreatDoor
