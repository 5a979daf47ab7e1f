import Derived.Test.YtcagbdokbnpdfaaGreatDoorZ00
namespace Go.Proofs.YtcagbdokbnpdfaaGreatDoor
namespace L
open Go.RowKit
structure Upd (c:Nat) (row:Option Nat) (w w':World):Prop where
 os:w'.os=w.os
 tape:w'.tape=w.tape
 output:w'.output=w.output
 size:w.heap.size≤w'.heap.size
 block:∀ k,k < w.heap.size→k≠c→row≠some k→w'.heap[k]?=w.heap[k]?
theorem Upd.refl (c:Nat) (row:Option Nat) (w:World):Upd c row w w:=⟨rfl,rfl,rfl,Nat.le_refl _,fun _ _ _ _=>rfl⟩
theorem Upd.below {c B:Nat}{row:Option Nat}{w w':World}(h:Upd c row w w') (hc:B≤c) (hr:∀ k,row=some k→B≤k) (hB:B≤w.heap.size):Below B w w':=
 ⟨h.os,h.tape,h.output,h.size,fun k hk=>h.block k (by omega) (by omega) (fun e=>by have:=hr k e;omega)⟩
theorem Upd.of_below {c:Nat}{row:Option Nat}{w w':World}(h:Below w.heap.size w w'):Upd c row w w':=⟨h.os,h.tape,h.output,h.size,fun k hk _ _=>h.block k hk⟩
theorem Row.shape' {α:Type}{E:EK α}{w:World}{B:Nat}{v:Value}{l:List α}(h:Row E w B v l):∃ ao n cap,v = .slice ao n cap∧Hid (n=l.length):=by
 obtain⟨ao,cap,e⟩:=h.shape
 exact⟨ao,l.length,cap,e,rfl⟩
theorem A4g (fn:Fn) (first cap:Array Value) (w:World):(Instr.makeFunc fn first cap).run Tryz.prog w = .ok (.func fn first cap) w:=rfl
theorem A8l (w:World):Calls Tryz.prog 115 #[] w fun e w'=>e = .returned (.func (.func 187) #[] #[.pointer (some ⟨w.heap.size,0,none⟩)])∧w.alloc (.cells #[.slice none 0 0] 103)=w':=by
 have hmf:=A4g
 go_enter Tryz.func115,Tryz.ntmps115
 go_wp2
 go_ret
 exact⟨rfl,rfl⟩
theorem B1y (w:World):Calls Tryz.prog 192 #[] w fun e w'=>e = .returned (.func (.func 227) #[] #[.pointer (some ⟨w.heap.size,0,none⟩)])∧w.alloc (.cells #[.slice none 0 0] 33)=w':=by
 have hmf:=A4g
 go_enter Tryz.func192,Tryz.ntmps192
 go_wp2
 go_ret
 exact⟨rfl,rfl⟩
def A7j {α:Type} [DecidableEq α] (x : α) (l:List α):List α:=if x∈l then l else l++[x]
set_option maxHeartbeats 1000000 in
set_option maxRecDepth 100000 in
theorem A9y {w:World}{c B:Nat}{v:Value}{l:List (List UInt8)}(hc:w.heap[c]?=some (.cells #[v] 103 (0,0))) (hr:Row ekS w B v l) (hcB:c < B) (hB:B≤w.heap.size) (hl:l.length≤1000) (x:List UInt8) :
  Calls Tryz.prog 187 #[.string (S x),.pointer (some ⟨c,0,none⟩)] w fun e w'=>e = .returned (.bool (decide (x∈l)))∧∃ v',w'.heap[c]?=some (.cells #[v'] 103 (0,0))∧Row ekS w' B v' (A7j x l)∧Upd c v.ownBlock w w':=by
 obtain⟨ao,n,cap,rfl,Hn⟩:=hr.shape'
 have c0:=A0a hc 0 _ rfl
 have f0:=A0b hc 0
 have hct:=A7o hr.rdS x
 obtain⟨q,Hq⟩:∃ q,Hid (q=decide (x∈l)):=⟨_,rfl⟩
 rw[←Hq.out] at hct ⊢
 cases q with
 | true=>
  have HA:Hid (A7j x l=l):=by show _=_;have:=Hq.out;simp at this;simp[A7j,this]
  go_enter Tryz.func187,Tryz.ntmps187
  go_wp2_with fail
  refine hct.mono ?_
  rintro e w1 ⟨rfl,rfl⟩
  go_wp2
  go_ret
  exact⟨rfl,_,hc,by rw[HA.out];exact hr,Upd.refl _ _ _⟩
 | false=>
  have HA:Hid (A7j x l=l++[x]):=by show _=_;have:=Hq.out;simp at this;simp[A7j,this]
  have hone:Row ekS (w.alloc (.cells #[.string (S x)] 9)) B (.slice (some ⟨w.heap.size,0,none⟩) 1 1) [x]:=Row.one ekS w x hB
  have hba:=(Below.refl w.heap.size w).alloc (Nat.le_refl _) (.cells #[.string (S x)] 9)
  have hr4:=hr.below hba
  have hc4:=(hba.block c (by omega)).trans hc
  go_enter Tryz.func187,Tryz.ntmps187
  go_wp2_with fail
  refine hct.mono ?_
  rintro e w1 ⟨rfl,rfl⟩
  go_wp2_with (at_builtin;refine A6s rfl ekS _ _ rfl B _ l [x] rfl hr4 B _ rfl hone ?e1 ?e2 ?_)
  case e1=>simp;omega
  case e2=>simp;omega
  intro v5 w5 hr5 hg5
  have hown:=hr4.own
  have hc5:=(hg5.block c (Array.getElem?_eq_some_iff.1 hc4).1 (fun hh=>by have:=(hown c hh.symm).1;omega)).trans hc4
  have k0:=A0a hc5 0 _ rfl
  have k1:=A0b hc5 0
  obtain⟨a5,n5,cap5,rfl,Hn5⟩:=hr5.shape'
  go_wp2
  go_ret
  refine⟨rfl,_,heap_setCell_same _ _ 0 _ _ _ hc5,?_,?_⟩
  ·rw[HA.out]
   exact hr5.other (fun hh=>by have:=(hr5.own c hh).1;omega) 0 _
  ·refine⟨hg5.os.trans hba.os,hg5.tape.trans hba.tape,hg5.output.trans hba.output,Nat.le_trans hba.size (Nat.le_trans hg5.size (by simp[World.setCell])),fun k hk hkc hkr=>?_⟩
   rw[Below.heap_setCell _ _ _ _ (show k≠c from hkc),hg5.block k (by simp;omega) (fun e=>hkr e.symm),hba.block k hk]
set_option maxHeartbeats 1000000 in
set_option maxRecDepth 100000 in
theorem B6y {w:World}{c B:Nat}{v:Value}{l:List Int}(hc:w.heap[c]?=some (.cells #[v] 33 (0,0))) (hr:Row ekN w B v l) (hcB:c < B) (hB:B≤w.heap.size) (hl:l.length≤1000) (x:Int) :
  Calls Tryz.prog 227 #[.int .i64 x,.pointer (some ⟨c,0,none⟩)] w fun e w'=>e = .returned (.bool (decide (x∈l)))∧∃ v',w'.heap[c]?=some (.cells #[v'] 33 (0,0))∧Row ekN w' B v' (A7j x l)∧Upd c v.ownBlock w w':=by
 obtain⟨ao,n,cap,rfl,Hn⟩:=hr.shape'
 have c0:=A0a hc 0 _ rfl
 have f0:=A0b hc 0
 have hct:=A5n hr.rdN x
 obtain⟨q,Hq⟩:∃ q,Hid (q=decide (x∈l)):=⟨_,rfl⟩
 rw[←Hq.out] at hct ⊢
 cases q with
 | true=>
  have HA:Hid (A7j x l=l):=by show _=_;have:=Hq.out;simp at this;simp[A7j,this]
  go_enter Tryz.func227,Tryz.ntmps227
  go_wp2_with fail
  refine hct.mono ?_
  rintro e w1 ⟨rfl,rfl⟩
  go_wp2
  go_ret
  exact⟨rfl,_,hc,by rw[HA.out];exact hr,Upd.refl _ _ _⟩
 | false=>
  have HA:Hid (A7j x l=l++[x]):=by show _=_;have:=Hq.out;simp at this;simp[A7j,this]
  have hone:Row ekN (w.alloc (.cells #[.int .i64 x] 3)) B (.slice (some ⟨w.heap.size,0,none⟩) 1 1) [x]:=Row.one ekN w x hB
  have hba:=(Below.refl w.heap.size w).alloc (Nat.le_refl _) (.cells #[.int .i64 x] 3)
  have hr4:=hr.below hba
  have hc4:=(hba.block c (by omega)).trans hc
  go_enter Tryz.func227,Tryz.ntmps227
  go_wp2_with fail
  refine hct.mono ?_
  rintro e w1 ⟨rfl,rfl⟩
  go_wp2_with (at_builtin;refine A6s rfl ekN _ _ rfl B _ l [x] rfl hr4 B _ rfl hone ?e1 ?e2 ?_)
  case e1=>simp;omega
  case e2=>simp;omega
  intro v5 w5 hr5 hg5
  have hown:=hr4.own
  have hc5:=(hg5.block c (Array.getElem?_eq_some_iff.1 hc4).1 (fun hh=>by have:=(hown c hh.symm).1;omega)).trans hc4
  have k0:=A0a hc5 0 _ rfl
  have k1:=A0b hc5 0
  obtain⟨a5,n5,cap5,rfl,Hn5⟩:=hr5.shape'
  go_wp2
  go_ret
  refine⟨rfl,_,heap_setCell_same _ _ 0 _ _ _ hc5,?_,?_⟩
  ·rw[HA.out]
   exact hr5.other (fun hh=>by have:=(hr5.own c hh).1;omega) 0 _
  ·refine⟨hg5.os.trans hba.os,hg5.tape.trans hba.tape,hg5.output.trans hba.output,Nat.le_trans hba.size (Nat.le_trans hg5.size (by simp[World.setCell])),fun k hk hkc hkr=>?_⟩
   rw[Below.heap_setCell _ _ _ _ (show k≠c from hkc),hg5.block k (by simp;omega) (fun e=>hkr e.symm),hba.block k hk]
def B9w (last begun ch:Int):Bool:=decide (ch≠0)&&(decide (ch≠last)&&decide (ch≠begun+1))
theorem D2e (w:World):Calls Tryz.prog 193 #[] w fun e w'=>e = .returned (.func (.func 228) #[] #[.pointer (some ⟨w.heap.size,0,none⟩),.pointer (some ⟨w.heap.size+1,0,none⟩)])∧(w.alloc (.cells #[.int .i64 0] 3)).alloc (.cells #[.int .i64 0] 3)=w':=by
 have hmf:=A4g
 go_enter Tryz.func193,Tryz.ntmps193
 go_wp2
 go_ret
 exact⟨rfl,rfl⟩
theorem C5k {w:World}{c d:Nat}{a b:Value}{t:TypeId}(hc:w.heap[c]?=some (.cells #[a] t (0,0))) (hd:w.heap[d]?=some (.cells #[b] t (0,0))) (hcd:c≠d) (x y:Value) :
  ((w.setCell ⟨c,0,none⟩ x).setCell ⟨d,0,none⟩ y).drew.heap[c]?=some (.cells #[x] t (0,0))∧((w.setCell ⟨c,0,none⟩ x).setCell ⟨d,0,none⟩ y).drew.heap[d]?=some (.cells #[y] t (0,0))∧(∀ k,¬ k=c→¬ k=d→((w.setCell ⟨c,0,none⟩ x).setCell ⟨d,0,none⟩ y).drew.heap[k]?=w.heap[k]?)∧((w.setCell ⟨c,0,none⟩ x).setCell ⟨d,0,none⟩ y).drew.heap.size=w.heap.size∧((w.setCell ⟨c,0,none⟩ x).setCell ⟨d,0,none⟩ y).drew.os=w.os∧((w.setCell ⟨c,0,none⟩ x).setCell ⟨d,0,none⟩ y).drew.tape=w.tape∧((w.setCell ⟨c,0,none⟩ x).setCell ⟨d,0,none⟩ y).drew.output=w.output:=by
 refine⟨?_,?_,?_,?_,rfl,rfl,rfl⟩
 ·show((w.setCell ⟨c,0,none⟩ x).setCell ⟨d,0,none⟩ y).heap[c]?=_
  rw[Below.heap_setCell _ _ _ _ (show c≠d from hcd)]
  exact heap_setCell_same _ _ 0 _ _ _ hc
 ·show((w.setCell ⟨c,0,none⟩ x).setCell ⟨d,0,none⟩ y).heap[d]?=_
  exact heap_setCell_same _ _ 0 _ _ _ ((Below.heap_setCell w ⟨c,0,none⟩ x d (show d≠c from fun h=>hcd h.symm)).trans hd)
 ·intro k k1 k2
  show((w.setCell ⟨c,0,none⟩ x).setCell ⟨d,0,none⟩ y).heap[k]?=_
  rw[Below.heap_setCell _ _ _ _ (show k≠d from k2),Below.heap_setCell _ _ _ _ (show k≠c from k1)]
 ·show((w.setCell ⟨c,0,none⟩ x).setCell ⟨d,0,none⟩ y).heap.size=_
  simp
set_option maxHeartbeats 1000000 in
set_option maxRecDepth 100000 in
theorem C9f {w:World}{c d:Nat}{last begun:Int}(hc:w.heap[c]?=some (.cells #[.int .i64 last] 3 (0,0))) (hd:w.heap[d]?=some (.cells #[.int .i64 begun] 3 (0,0))) (hcd:c≠d) (hb0:0≤begun) (hb1:begun≤1000000) (ch:Int) :
  Calls Tryz.prog 228 #[.int .i64 ch,.pointer (some ⟨c,0,none⟩),.pointer (some ⟨d,0,none⟩)] w fun e w'=>e = .returned (.bool (B9w last begun ch))∧w'.heap[c]?=some (.cells #[.int .i64 (if B9w last begun ch then last else ch)] 3 (0,0))∧w'.heap[d]?=some (.cells #[.int .i64 (if B9w last begun ch then begun else max begun ch)] 3 (0,0))∧(∀ k,k≠c→k≠d→w'.heap[k]?=w.heap[k]?)∧w'.heap.size=w.heap.size∧w'.os=w.os∧w'.tape=w.tape∧w'.output=w.output:=by
 have c0:=A0a hc 0 _ rfl
 have f0:=A0b hc 0
 have d0:=A0a hd 0 _ rfl
 have f1:=A0b hd 0
 obtain⟨q1,hq1⟩:∃ q,(ch != 0)=q:=⟨_,rfl⟩
 obtain⟨q2,hq2⟩:∃ q,(ch != last)=q:=⟨_,rfl⟩
 obtain⟨q3,hq3⟩:∃ q,(ch != begun+1)=q:=⟨_,rfl⟩
 have HC:Hid (B9w last begun ch=(q1&&(q2&&q3))):=by
  show _=_
  rw[←hq1,←hq2,←hq3,Bool.eq_iff_iff]
  simp[B9w]
 have c0:w.cell? ⟨c,0,none⟩=some (.int .i64 last):=c0
 have d0:w.cell? ⟨d,0,none⟩=some (.int .i64 begun):=d0
 by_cases hm:(q1&&(q2&&q3))=true
 ·have HM:Hid (B9w last begun ch=true):=by show _=_;rw[HC.out];exact hm
  cases q1 <;> cases q2 <;> cases q3 <;> first|(exfalso;revert hm;decide)|skip
  clear hm HC
  go_enter Tryz.func228,Tryz.ntmps228
  go_wp2
  go_ret
  exact⟨rfl,hc,hd,fun _ _ _=>rfl,rfl,rfl,rfl,rfl⟩
 ·have HM:Hid (B9w last begun ch=false):=by show _=_;rw[HC.out];simpa using hm
  have hcl:c < w.heap.size:=(Array.getElem?_eq_some_iff.1 hc).1
  have hdl:d < w.heap.size:=(Array.getElem?_eq_some_iff.1 hd).1
  rw[HM.out]
  clear HC
  cases q1 <;> cases q2 <;> cases q3 <;> first|(exfalso;revert hm;decide)|skip
  all_goals clear hm
  all_goals go_enter Tryz.func228,Tryz.ntmps228
  all_goals go_wp2_with fail
  all_goals go_region
  all_goals go_wp2
  all_goals go_ret
  all_goals first
   | (rw[show max begun ch=ch by omega];exact⟨rfl,C5k hc hd hcd _ _⟩)
   | (rw[show max begun ch=begun by omega];exact⟨rfl,C5k hc hd hcd _ _⟩)
end L
end Go.Proofs.YtcagbdokbnpdfaaGreatDoor
namespace Go.Proofs.YtcagbdokbnpdfaaGreatDoor
namespace L
open Go.RowKit
def A0k {α:Type}(p : α→Bool) (l:List α):Int:=match l.findIdx? p with|some k=>(k:Int)|none=>-1
theorem A5o {α:Type}{p : α→Bool}{l:List α}{k:Nat}{a : α}(ha:l[k]?=some a) (h:∀ b∈l.take k,p b=false) (hp:p a=true):A0k p l=(k:Int):=by
 have e:l.findIdx? p=some k:=by
  rw[List.findIdx?_eq_some_iff_getElem]
  obtain⟨hk,e⟩:=List.getElem?_eq_some_iff.1 ha
  refine⟨hk,by rw[e];exact hp,?_⟩
  intro j hj
  rw[h _ (List.mem_take_iff_getElem.2 ⟨j,by omega,rfl⟩)]
  simp
 unfold A0k
 rw[e]
theorem A3s {α:Type}{p : α→Bool}{l:List α}(h:∀ b∈l,p b=false):A0k p l = -1:=by
 have e:l.findIdx? p=none:=by rw[List.findIdx?_eq_none_iff];exact h
 unfold A0k
 rw[e]
set_option maxHeartbeats 1000000 in
set_option maxRecDepth 100000 in
theorem C5m {w:World}{c:Nat}{x:List UInt8}(hc:w.heap[c]?=some (.cells #[.string (S x)] 9 (0,0))) (a:List UInt8) (a1:Option Addr) (n1 c1:Nat) (a2:Option Addr) (n2 c2:Nat) :
  Calls Tryz.prog 103 #[.agg #[.string (S a),.slice a1 n1 c1,.slice a2 n2 c2],.pointer (some ⟨c,0,none⟩)] w fun e w'=>e = .returned (.bool (decide (a=x)))∧Below w.heap.size w w':=by
 have c0:w.cell? ⟨c,0,none⟩=some (.string (S x)):=A0a hc 0 _ rfl
 have hcl:c < w.heap.size:=(Array.getElem?_eq_some_iff.1 hc).1
 have hla:=A5u a
 have hlx:=A5u x
 have hba:=(Below.refl w.heap.size w).alloc (Nat.le_refl _) (.cells #[.string (S a),.slice a1 n1 c1,.slice a2 n2 c2] 35)
 obtain⟨q,Hq⟩:∃ q,Hid (q=decide (a=x)):=⟨_,rfl⟩
 have hq:(a == x)=q:=by rw[Hq.out,Bool.eq_iff_iff];simp
 rw[←Hq.out]
 go_enter Tryz.func103,Tryz.ntmps103
 go_wp2
 go_ret
 exact⟨rfl,hba⟩
set_option maxHeartbeats 1000000 in
set_option maxRecDepth 100000 in
theorem C2o {v:Value}{l:List MI}{w:World}{c:Nat}{x:List UInt8}(h:RdL 3 MAt w v l) (hc:w.heap[c]?=some (.cells #[.string (S x)] 9 (0,0))) :
  Calls Tryz.prog 102 #[v,.func (.func 103) #[] #[.pointer (some ⟨c,0,none⟩)]] w fun e w'=>e = .returned (.int .i64 (A0k (fun m=>decide (m.name=x)) l))∧Below w.heap.size w w':=by
 obtain⟨ao,n,cap,rfl,Hn,hcap⟩:=h.shape
 go_enter Tryz.func102,Tryz.ntmps102
 go_wp2_with fail
 go_loopg [8] n (fun m i wr=>∃ k:Nat,k+m=n∧i = .int .i64 k∧Hid (∀ a∈l.take k,decide (a.name=x)=false)∧Below w.heap.size w wr)
 case atStart=>exact⟨0,by omega,rfl,by show ∀ a∈_,_;simp,Below.refl _ _⟩
 case round=>
  obtain⟨k,hk,rfl,HK,hb⟩:=hrel
  have hcr:=(hb.block c (Array.getElem?_eq_some_iff.1 hc).1).trans hc
  by_cases hlt:k < n
  ·obtain⟨a,Ha⟩:∃ a,Hid (l[k]?=some a):=⟨l[k]'(by rw[←Hn.out];exact hlt),List.getElem?_eq_getElem (by rw[←Hn.out];exact hlt)⟩
   obtain⟨b,off,rfl,hat⟩:=(h.below MAt.stays hb).get MAt.plain Ha.out
   obtain⟨vf,vb,s0,s1,s2,hrf,hrb⟩:=hat.at
   obtain⟨af,nf,cf,rfl,_,_⟩:=hrf.shape
   obtain⟨ab,nb,cb,rfl,_,_⟩:=hrb.shape
   have hki:(k:Int) < (n:Int):=by omega
   have hcall:=C5m hcr a.name af nf cf ab nb cb
   cases hq:decide (a.name=x) with
   | true=>
    have HF:Hid (A0k (fun m=>decide (m.name=x)) l=(k:Int)):=A5o Ha.out HK.out hq
    rw[hq] at hcall
    clear hq
    go_wp2_with fail
    refine hcall.mono ?_
    rintro e w1 ⟨rfl,hb1⟩
    go_wp2
    go_ret
    exact⟨by rw[HF.out];rfl,hb.trans (hb1.mono hb.size)⟩
   | false=>
    have HX:Hid (∀ a∈l.take (k+1),decide (a.name=x)=false):=by
     show ∀ a∈_,_
     rw[A1k Ha.out]
     intro y hy
     rcases List.mem_append.1 hy with hy|hy
     ·exact HK.out y hy
     ·rw[List.mem_singleton] at hy;rw[hy];exact hq
    rw[hq] at hcall
    clear hq
    go_wp2_with fail
    refine hcall.mono ?_
    rintro e w1 ⟨rfl,hb1⟩
    go_wp2_with fail
    go_roundg (n - (k+1))
    case measure=>omega
    case rel=>exact⟨k+1,by omega,by go_num,HX,hb.trans (hb1.mono hb.size)⟩
  ·have HF:Hid (A0k (fun m=>decide (m.name=x)) l = -1):=by
    have:=HK.out
    rw[List.take_of_length_le (by rw[←Hn.out];omega)] at this
    exact A3s this
   go_wp2
   go_ret
   exact⟨by rw[HF.out];rfl,hb⟩
set_option maxHeartbeats 1000000 in
set_option maxRecDepth 100000 in
theorem A3u {vm ve:Value}{l:List MI}{w:World}(h:RdL 3 MAt w vm l) (hve:∃ ao n cap,ve = .slice ao n cap) (x:List UInt8) :
  Calls Tryz.prog 47 #[.agg #[vm,ve],.string (S x)] w fun e w'=>e = .returned (.int .i64 (A0k (fun m=>decide (m.name=x)) l))∧Below w.heap.size w w':=by
 obtain⟨ao,n,cap,rfl,Hn,hcap⟩:=h.shape
 obtain⟨ae,ne,ce,rfl⟩:=hve
 have hmf:=A4g
 have hb2:Below w.heap.size w ((w.alloc (.cells #[.slice ao n cap,.slice ae ne ce] 25)).alloc (.cells #[.string (S x)] 9)):=((Below.refl _ _).alloc (Nat.le_refl _) _).alloc (by simp) _
 have hi:=C2o (h.below MAt.stays hb2) (A0r w _ _)
 go_enter Tryz.func47,Tryz.ntmps47
 go_wp2_with fail
 refine hi.mono ?_
 rintro e w1 ⟨rfl,hb1⟩
 go_wp2
 go_ret
 exact⟨rfl,hb2.trans (hb1.mono hb2.size)⟩
set_option maxHeartbeats 1000000 in
set_option maxRecDepth 100000 in
theorem C4j {w:World}{c:Nat}{x:List UInt8}(hc:w.heap[c]?=some (.cells #[.string (S x)] 9 (0,0))) (a:List UInt8) (a1:Option Addr) (n1 c1:Nat) :
  Calls Tryz.prog 238 #[.agg #[.string (S a),.slice a1 n1 c1],.pointer (some ⟨c,0,none⟩)] w fun e w'=>e = .returned (.bool (decide (a=x)))∧Below w.heap.size w w':=by
 have c0:w.cell? ⟨c,0,none⟩=some (.string (S x)):=A0a hc 0 _ rfl
 have hcl:c < w.heap.size:=(Array.getElem?_eq_some_iff.1 hc).1
 have hla:=A5u a
 have hlx:=A5u x
 have hba:=(Below.refl w.heap.size w).alloc (Nat.le_refl _) (.cells #[.string (S a),.slice a1 n1 c1] 110)
 obtain⟨q,Hq⟩:∃ q,Hid (q=decide (a=x)):=⟨_,rfl⟩
 have hq:(a == x)=q:=by rw[Hq.out,Bool.eq_iff_iff];simp
 rw[←Hq.out]
 go_enter Tryz.func238,Tryz.ntmps238
 go_wp2
 go_ret
 exact⟨rfl,hba⟩
set_option maxHeartbeats 1000000 in
set_option maxRecDepth 100000 in
theorem C1t {v:Value}{l:List EI}{w:World}{c:Nat}{x:List UInt8}(h:RdL 2 EAt w v l) (hc:w.heap[c]?=some (.cells #[.string (S x)] 9 (0,0))) :
  Calls Tryz.prog 237 #[v,.func (.func 238) #[] #[.pointer (some ⟨c,0,none⟩)]] w fun e w'=>e = .returned (.int .i64 (A0k (fun m=>decide (m.name=x)) l))∧Below w.heap.size w w':=by
 obtain⟨ao,n,cap,rfl,Hn,hcap⟩:=h.shape
 go_enter Tryz.func237,Tryz.ntmps237
 go_wp2_with fail
 go_loopg [8] n (fun m i wr=>∃ k:Nat,k+m=n∧i = .int .i64 k∧Hid (∀ a∈l.take k,decide (a.name=x)=false)∧Below w.heap.size w wr)
 case atStart=>exact⟨0,by omega,rfl,by show ∀ a∈_,_;simp,Below.refl _ _⟩
 case round=>
  obtain⟨k,hk,rfl,HK,hb⟩:=hrel
  have hcr:=(hb.block c (Array.getElem?_eq_some_iff.1 hc).1).trans hc
  by_cases hlt:k < n
  ·obtain⟨a,Ha⟩:∃ a,Hid (l[k]?=some a):=⟨l[k]'(by rw[←Hn.out];exact hlt),List.getElem?_eq_getElem (by rw[←Hn.out];exact hlt)⟩
   obtain⟨b,off,rfl,hat⟩:=(h.below EAt.stays hb).get EAt.plain Ha.out
   obtain⟨vi,s0,s1,hri⟩:=hat.at
   obtain⟨ai,ni,ci,rfl,_,_⟩:=hri.shape
   have hki:(k:Int) < (n:Int):=by omega
   have hcall:=C4j hcr a.name ai ni ci
   cases hq:decide (a.name=x) with
   | true=>
    have HF:Hid (A0k (fun m=>decide (m.name=x)) l=(k:Int)):=A5o Ha.out HK.out hq
    rw[hq] at hcall
    clear hq
    go_wp2_with fail
    refine hcall.mono ?_
    rintro e w1 ⟨rfl,hb1⟩
    go_wp2
    go_ret
    exact⟨by rw[HF.out];rfl,hb.trans (hb1.mono hb.size)⟩
   | false=>
    have HX:Hid (∀ a∈l.take (k+1),decide (a.name=x)=false):=by
     show ∀ a∈_,_
     rw[A1k Ha.out]
     intro y hy
     rcases List.mem_append.1 hy with hy|hy
     ·exact HK.out y hy
     ·rw[List.mem_singleton] at hy;rw[hy];exact hq
    rw[hq] at hcall
    clear hq
    go_wp2_with fail
    refine hcall.mono ?_
    rintro e w1 ⟨rfl,hb1⟩
    go_wp2_with fail
    go_roundg (n - (k+1))
    case measure=>omega
    case rel=>exact⟨k+1,by omega,by go_num,HX,hb.trans (hb1.mono hb.size)⟩
  ·have HF:Hid (A0k (fun m=>decide (m.name=x)) l = -1):=by
    have:=HK.out
    rw[List.take_of_length_le (by rw[←Hn.out];omega)] at this
    exact A3s this
   go_wp2
   go_ret
   exact⟨by rw[HF.out];rfl,hb⟩
set_option maxHeartbeats 1000000 in
set_option maxRecDepth 100000 in
theorem C8q {vm ve:Value}{l:List EI}{w:World}(h:RdL 2 EAt w ve l) (hve:∃ ao n cap,vm = .slice ao n cap) (x:List UInt8) :
  Calls Tryz.prog 230 #[.agg #[vm,ve],.string (S x)] w fun e w'=>e = .returned (.int .i64 (A0k (fun m=>decide (m.name=x)) l))∧Below w.heap.size w w':=by
 obtain⟨ao,n,cap,rfl,Hn,hcap⟩:=h.shape
 obtain⟨ae,ne,ce,rfl⟩:=hve
 have hmf:=A4g
 have hb2:Below w.heap.size w ((w.alloc (.cells #[.slice ae ne ce,.slice ao n cap] 25)).alloc (.cells #[.string (S x)] 9)):=((Below.refl _ _).alloc (Nat.le_refl _) _).alloc (by simp) _
 have hi:=C1t (h.below EAt.stays hb2) (A0r w _ _)
 go_enter Tryz.func230,Tryz.ntmps230
 go_wp2_with fail
 refine hi.mono ?_
 rintro e w1 ⟨rfl,hb1⟩
 go_wp2
 go_ret
 exact⟨rfl,hb2.trans (hb1.mono hb2.size)⟩
end L
end Go.Proofs.YtcagbdokbnpdfaaGreatDoor
namespace Go.Proofs.YtcagbdokbnpdfaaGreatDoor
namespace L
open Go.RowKit
structure RI where
 number:Int
 how:Int
 bits:Nat
 bytes:List UInt8
deriving DecidableEq
structure VI (β:Type) where
 number:Int
 bits:List Nat
 bytes:List (List UInt8)
 subs:List β
structure BO (β:Type) where
 vals:List (VI β)
 unk:List RI
def BI:Nat→Type
 | 0=>Empty
 | d+1=>BO (BI d)
def UAt (w:World) (x:Addr) (n:Nat):Prop:=w.cell? x=some (.int .u64 (n:Int))
def YAt (w:World) (x:Addr) (b:UInt8):Prop:=w.cell? x=some (.int .u8 (b.toNat:Int))
def ZAt (w:World) (x:Addr) (l:List UInt8):Prop:=∃ v,w.cell? x=some v∧RdL 1 YAt w v l
def RAt (w:World) (x:Addr) (r:RI):Prop:=∃ v,w.cell? x=some (.int .i64 r.number)∧w.cell? (x.add 1)=some (.int .i64 r.how)∧w.cell? (x.add 2)=some (.int .u64 (r.bits:Int))∧w.cell? (x.add 3)=some v∧RdL 1 YAt w v r.bytes
def VAt {β:Type}(P:World→Addr→β→Prop) (w:World) (x:Addr) (v:VI β):Prop:=∃ v1 v2 v3,w.cell? x=some (.int .i64 v.number)∧w.cell? (x.add 1)=some v1∧w.cell? (x.add 2)=some v2∧w.cell? (x.add 3)=some v3∧RdL 1 UAt w v1 v.bits∧RdL 1 ZAt w v2 v.bytes∧RdL 2 P w v3 v.subs
def BAt:(d:Nat)→World→Addr→BI d→Prop
 | 0=>fun _ _ _=>False
 | d+1=>fun w x b=>∃ v0 v1,w.cell? x=some v0∧w.cell? (x.add 1)=some v1∧RdL 4 (VAt (BAt d)) w v0 (BO.vals b)∧RdL 4 RAt w v1 (BO.unk b)
def BRd (d:Nat) (w:World) (v0 v1:Value) (b:BO (BI d)):Prop:=RdL 4 (VAt (BAt d)) w v0 b.vals∧RdL 4 RAt w v1 b.unk
theorem UAt.stays:A4w UAt:=fun _ _ _ _ hb h=>A0c hb h
theorem YAt.stays:A4w YAt:=fun _ _ _ _ hb h=>A0c hb h
theorem ZAt.stays:A4w ZAt:=fun _ _ _ _ hb ⟨v,h1,h2⟩=>⟨v,A0c hb h1,h2.below YAt.stays hb⟩
theorem RAt.stays:A4w RAt:=fun _ _ _ _ hb ⟨v,h1,h2,h3,h4,h5⟩=>⟨v,A0c hb h1,A0c hb h2,A0c hb h3,A0c hb h4,h5.below YAt.stays hb⟩
theorem VAt.stays {β:Type}{P:World→Addr→β→Prop}(hP:A4w P):A4w (VAt P):=fun _ _ _ _ hb ⟨v1,v2,v3,h1,h2,h3,h4,h5,h6,h7⟩=>⟨v1,v2,v3,A0c hb h1,A0c hb h2,A0c hb h3,A0c hb h4,h5.below UAt.stays hb,h6.below ZAt.stays hb,h7.below hP hb⟩
theorem BAt.stays:∀ d,A4w (BAt d)
 | 0=>fun _ _ _ _ _ h=>h
 | d+1=>fun _ _ _ _ hb ⟨v0,v1,h1,h2,h3,h4⟩=>⟨v0,v1,A0c hb h1,A0c hb h2,h3.below (VAt.stays (BAt.stays d)) hb,h4.below RAt.stays hb⟩
theorem BRd.below {d:Nat}{w w':World}{v0 v1:Value}{b:BO (BI d)}(h:BRd d w v0 v1 b) (hb:Below w.heap.size w w'):BRd d w' v0 v1 b:=⟨h.1.below (VAt.stays (BAt.stays d)) hb,h.2.below RAt.stays hb⟩
theorem UAt.plain:A7m UAt:=fun _ _ _ _ _ h=>A1w h
theorem YAt.plain:A7m YAt:=fun _ _ _ _ _ h=>A1w h
theorem ZAt.plain:A7m ZAt:=fun _ _ _ _ _ ⟨_,h,_⟩=>A1w h
theorem RAt.plain:A7m RAt:=fun _ _ _ _ _ ⟨_,h,_⟩=>A1w h
theorem VAt.plain {β:Type}{P:World→Addr→β→Prop}:A7m (VAt P):=fun _ _ _ _ _ ⟨_,_,_,h,_⟩=>A1w h
theorem BAt.plain:∀ d,A7m (BAt d)
 | 0=>fun _ _ _ _ _ h=>h.elim
 | _+1=>fun _ _ _ _ _ ⟨_,_,h,_⟩=>A1w h
theorem ZAt.at {w:World}{b o:Nat}{l:List UInt8}(h:ZAt w ⟨b,o,none⟩ l):∃ v,w.cell? ⟨b,o,none⟩=some v∧RdL 1 YAt w v l:=h
theorem RAt.at {w:World}{b o:Nat}{r:RI}(h:RAt w ⟨b,o,none⟩ r):∃ v,w.cell? ⟨b,o,none⟩=some (.int .i64 r.number)∧w.cell? ⟨b,o+1,none⟩=some (.int .i64 r.how)∧w.cell? ⟨b,o+2,none⟩=some (.int .u64 (r.bits:Int))∧w.cell? ⟨b,o+3,none⟩=some v∧RdL 1 YAt w v r.bytes:=by
 simp only[RAt,A0f] at h;exact h
theorem VAt.at {β:Type}{P:World→Addr→β→Prop}{w:World}{b o:Nat}{v:VI β}(h:VAt P w ⟨b,o,none⟩ v):∃ v1 v2 v3,w.cell? ⟨b,o,none⟩=some (.int .i64 v.number)∧w.cell? ⟨b,o+1,none⟩=some v1∧w.cell? ⟨b,o+2,none⟩=some v2∧w.cell? ⟨b,o+3,none⟩=some v3∧RdL 1 UAt w v1 v.bits∧RdL 1 ZAt w v2 v.bytes∧RdL 2 P w v3 v.subs:=by
 simp only[VAt,A0f] at h;exact h
theorem BAt.at {d:Nat}{w:World}{b o:Nat}{x:BI (d+1)}(h:BAt (d+1) w ⟨b,o,none⟩ x):∃ v0 v1,w.cell? ⟨b,o,none⟩=some v0∧w.cell? ⟨b,o+1,none⟩=some v1∧BRd d w v0 v1 x:=by
 simp only[BAt,A0f] at h;exact h
end L
end Go.Proofs.YtcagbdokbnpdfaaGreatDoor
namespace Go.Proofs.YtcagbdokbnpdfaaGreatDoor
namespace L
open Go.RowKit
set_option maxHeartbeats 1000000 in
set_option maxRecDepth 100000 in
theorem C4n {w:World}{c:Nat}{x:Int}(hc:w.heap[c]?=some (.cells #[.int .i64 x] 3 (0,0))) (f:FI) :
  Calls Tryz.prog 109 #[.agg #[.string (S f.name),.int .i64 f.number,.int .i64 f.kind,.string (S f.type),.bool f.many,.int .i64 f.choice],.pointer (some ⟨c,0,none⟩)] w fun e w'=>e = .returned (.bool (decide (f.number=x)))∧Below w.heap.size w w':=by
 have c0:w.cell? ⟨c,0,none⟩=some (.int .i64 x):=A0a hc 0 _ rfl
 have hcl:c < w.heap.size:=(Array.getElem?_eq_some_iff.1 hc).1
 have hba:=(Below.refl w.heap.size w).alloc (Nat.le_refl _) (.cells #[.string (S f.name),.int .i64 f.number,.int .i64 f.kind,.string (S f.type),.bool f.many,.int .i64 f.choice] 58)
 obtain⟨q,Hq⟩:∃ q,Hid (q=decide (f.number=x)):=⟨_,rfl⟩
 have hq:(f.number == x)=q:=by rw[Hq.out,Bool.eq_iff_iff];simp
 rw[←Hq.out]
 go_enter Tryz.func109,Tryz.ntmps109
 go_wp2
 go_ret
 exact⟨rfl,hba⟩
set_option maxHeartbeats 1000000 in
set_option maxRecDepth 100000 in
theorem C2e {v:Value}{l:List FI}{w:World}{c:Nat}{x:Int}(h:RdL 6 FAt w v l) (hc:w.heap[c]?=some (.cells #[.int .i64 x] 3 (0,0))) :
  Calls Tryz.prog 108 #[v,.func (.func 109) #[] #[.pointer (some ⟨c,0,none⟩)]] w fun e w'=>e = .returned (.int .i64 (A0k (fun f=>decide (f.number=x)) l))∧Below w.heap.size w w':=by
 obtain⟨ao,n,cap,rfl,Hn,hcap⟩:=h.shape
 go_enter Tryz.func108,Tryz.ntmps108
 go_wp2_with fail
 go_loopg [8] n (fun m i wr=>∃ k:Nat,k+m=n∧i = .int .i64 k∧Hid (∀ a∈l.take k,decide (a.number=x)=false)∧Below w.heap.size w wr)
 case atStart=>exact⟨0,by omega,rfl,by show ∀ a∈_,_;simp,Below.refl _ _⟩
 case round=>
  obtain⟨k,hk,rfl,HK,hb⟩:=hrel
  have hcr:=(hb.block c (Array.getElem?_eq_some_iff.1 hc).1).trans hc
  by_cases hlt:k < n
  ·obtain⟨a,Ha⟩:∃ a,Hid (l[k]?=some a):=⟨l[k]'(by rw[←Hn.out];exact hlt),List.getElem?_eq_getElem (by rw[←Hn.out];exact hlt)⟩
   obtain⟨b,off,rfl,hat⟩:=(h.below FAt.stays hb).get FAt.plain Ha.out
   obtain⟨s0,s1,s2,s3,s4,s5⟩:=hat.at
   have hki:(k:Int) < (n:Int):=by omega
   have hcall:=C4n hcr a
   cases hq:decide (a.number=x) with
   | true=>
    have HF:Hid (A0k (fun f=>decide (f.number=x)) l=(k:Int)):=A5o Ha.out HK.out hq
    rw[hq] at hcall
    clear hq hat
    go_wp2_with fail
    refine hcall.mono ?_
    rintro e w1 ⟨rfl,hb1⟩
    go_wp2
    go_ret
    exact⟨by rw[HF.out];rfl,hb.trans (hb1.mono hb.size)⟩
   | false=>
    have HX:Hid (∀ a∈l.take (k+1),decide (a.number=x)=false):=by
     show ∀ a∈_,_
     rw[A1k Ha.out]
     intro y hy
     rcases List.mem_append.1 hy with hy|hy
     ·exact HK.out y hy
     ·rw[List.mem_singleton] at hy;rw[hy];exact hq
    rw[hq] at hcall
    clear hq hat
    go_wp2_with fail
    refine hcall.mono ?_
    rintro e w1 ⟨rfl,hb1⟩
    go_wp2_with fail
    go_roundg (n - (k+1))
    case measure=>omega
    case rel=>exact⟨k+1,by omega,by go_num,HX,hb.trans (hb1.mono hb.size)⟩
  ·have HF:Hid (A0k (fun f=>decide (f.number=x)) l = -1):=by
    have:=HK.out
    rw[List.take_of_length_le (by rw[←Hn.out];omega)] at this
    exact A3s this
   go_wp2
   go_ret
   exact⟨by rw[HF.out];rfl,hb⟩
set_option maxHeartbeats 1000000 in
set_option maxRecDepth 100000 in
theorem A4n {nm vf vb:Value}{l:List FI}{w:World}(h:RdL 6 FAt w vf l) (hvb:∃ ao n cap,vb = .slice ao n cap) (hnm:∃ s:List UInt8,nm = .string (S s)) (x:Int) :
  Calls Tryz.prog 49 #[.agg #[nm,vf,vb],.int .i64 x] w fun e w'=>e = .returned (.int .i64 (A0k (fun f=>decide (f.number=x)) l))∧Below w.heap.size w w':=by
 obtain⟨ao,n,cap,rfl,Hn,hcap⟩:=h.shape
 obtain⟨ae,ne,ce,rfl⟩:=hvb
 obtain⟨s,rfl⟩:=hnm
 have hb2:Below w.heap.size w ((w.alloc (.cells #[.string (S s),.slice ao n cap,.slice ae ne ce] 35)).alloc (.cells #[.int .i64 x] 3)):=((Below.refl _ _).alloc (Nat.le_refl _) _).alloc (by simp) _
 have hi:=C2e (h.below FAt.stays hb2) (A0r w _ _)
 have hmf:=A4g
 go_enter Tryz.func49,Tryz.ntmps49
 go_wp2_with fail
 refine hi.mono ?_
 rintro e w1 ⟨rfl,hb1⟩
 go_wp2
 go_ret
 exact⟨rfl,hb2.trans (hb1.mono hb2.size)⟩
set_option maxHeartbeats 1000000 in
set_option maxRecDepth 100000 in
theorem C7l {β:Type}{w:World}{c:Nat}{x:Int}(hc:w.heap[c]?=some (.cells #[.int .i64 x] 3 (0,0))) (v:VI β) (a1:Option Addr) (n1 c1:Nat) (a2:Option Addr) (n2 c2:Nat) (a3:Option Addr) (n3 c3:Nat) :
  Calls Tryz.prog 163 #[.agg #[.int .i64 v.number,.slice a1 n1 c1,.slice a2 n2 c2,.slice a3 n3 c3],.pointer (some ⟨c,0,none⟩)] w fun e w'=>e = .returned (.bool (decide (v.number=x)))∧Below w.heap.size w w':=by
 have c0:w.cell? ⟨c,0,none⟩=some (.int .i64 x):=A0a hc 0 _ rfl
 have hcl:c < w.heap.size:=(Array.getElem?_eq_some_iff.1 hc).1
 have hba:=(Below.refl w.heap.size w).alloc (Nat.le_refl _) (.cells #[.int .i64 v.number,.slice a1 n1 c1,.slice a2 n2 c2,.slice a3 n3 c3] 54)
 obtain⟨q,Hq⟩:∃ q,Hid (q=decide (v.number=x)):=⟨_,rfl⟩
 have hq:(v.number == x)=q:=by rw[Hq.out,Bool.eq_iff_iff];simp
 rw[←Hq.out]
 go_enter Tryz.func163,Tryz.ntmps163
 go_wp2
 go_ret
 exact⟨rfl,hba⟩
set_option maxHeartbeats 1000000 in
set_option maxRecDepth 100000 in
theorem C3k {β:Type}{P:World→Addr→β→Prop}(hP:A4w P){v:Value}{l:List (VI β)}{w:World}{c:Nat}{x:Int}(h:RdL 4 (VAt P) w v l) (hc:w.heap[c]?=some (.cells #[.int .i64 x] 3 (0,0))) :
  Calls Tryz.prog 162 #[v,.func (.func 163) #[] #[.pointer (some ⟨c,0,none⟩)]] w fun e w'=>e = .returned (.int .i64 (A0k (fun v=>decide (v.number=x)) l))∧Below w.heap.size w w':=by
 obtain⟨ao,n,cap,rfl,Hn,hcap⟩:=h.shape
 go_enter Tryz.func162,Tryz.ntmps162
 go_wp2_with fail
 go_loopg [8] n (fun m i wr=>∃ k:Nat,k+m=n∧i = .int .i64 k∧Hid (∀ a∈l.take k,decide (a.number=x)=false)∧Below w.heap.size w wr)
 case atStart=>exact⟨0,by omega,rfl,by show ∀ a∈_,_;simp,Below.refl _ _⟩
 case round=>
  obtain⟨k,hk,rfl,HK,hb⟩:=hrel
  have hcr:=(hb.block c (Array.getElem?_eq_some_iff.1 hc).1).trans hc
  by_cases hlt:k < n
  ·obtain⟨a,Ha⟩:∃ a,Hid (l[k]?=some a):=⟨l[k]'(by rw[←Hn.out];exact hlt),List.getElem?_eq_getElem (by rw[←Hn.out];exact hlt)⟩
   obtain⟨b,off,rfl,hat⟩:=(h.below (VAt.stays hP) hb).get VAt.plain Ha.out
   obtain⟨v1,v2,v3,s0,s1,s2,s3,r1,r2,r3⟩:=hat.at
   obtain⟨a1,n1,c1,rfl,_,_⟩:=r1.shape
   obtain⟨a2,n2,c2,rfl,_,_⟩:=r2.shape
   obtain⟨a3,n3,c3,rfl,_,_⟩:=r3.shape
   have hki:(k:Int) < (n:Int):=by omega
   have hcall:=C7l hcr a a1 n1 c1 a2 n2 c2 a3 n3 c3
   cases hq:decide (a.number=x) with
   | true=>
    have HF:Hid (A0k (fun v=>decide (v.number=x)) l=(k:Int)):=A5o Ha.out HK.out hq
    rw[hq] at hcall
    clear hq hat r1 r2 r3
    go_wp2_with fail
    refine hcall.mono ?_
    rintro e w1 ⟨rfl,hb1⟩
    go_wp2
    go_ret
    exact⟨by rw[HF.out];rfl,hb.trans (hb1.mono hb.size)⟩
   | false=>
    have HX:Hid (∀ a∈l.take (k+1),decide (a.number=x)=false):=by
     show ∀ a∈_,_
     rw[A1k Ha.out]
     intro y hy
     rcases List.mem_append.1 hy with hy|hy
     ·exact HK.out y hy
     ·rw[List.mem_singleton] at hy;rw[hy];exact hq
    rw[hq] at hcall
    clear hq hat r1 r2 r3
    go_wp2_with fail
    refine hcall.mono ?_
    rintro e w1 ⟨rfl,hb1⟩
    go_wp2_with fail
    go_roundg (n - (k+1))
    case measure=>omega
    case rel=>exact⟨k+1,by omega,by go_num,HX,hb.trans (hb1.mono hb.size)⟩
  ·have HF:Hid (A0k (fun v=>decide (v.number=x)) l = -1):=by
    have:=HK.out
    rw[List.take_of_length_le (by rw[←Hn.out];omega)] at this
    exact A3s this
   go_wp2
   go_ret
   exact⟨by rw[HF.out];rfl,hb⟩
set_option maxHeartbeats 1000000 in
set_option maxRecDepth 100000 in
theorem B1f {β:Type}{P:World→Addr→β→Prop}(hP:A4w P){v0 v1:Value}{l:List (VI β)}{w:World}(h:RdL 4 (VAt P) w v0 l) (hv1:∃ ao n cap,v1 = .slice ao n cap) (x:Int) :
  Calls Tryz.prog 79 #[.agg #[v0,v1],.int .i64 x] w fun e w'=>e = .returned (.int .i64 (A0k (fun v=>decide (v.number=x)) l))∧Below w.heap.size w w':=by
 obtain⟨ao,n,cap,rfl,Hn,hcap⟩:=h.shape
 obtain⟨ae,ne,ce,rfl⟩:=hv1
 have hb2:Below w.heap.size w ((w.alloc (.cells #[.slice ao n cap,.slice ae ne ce] 29)).alloc (.cells #[.int .i64 x] 3)):=((Below.refl _ _).alloc (Nat.le_refl _) _).alloc (by simp) _
 have hi:=C3k hP (h.below (VAt.stays hP) hb2) (A0r w _ _)
 have hmf:=A4g
 go_enter Tryz.func79,Tryz.ntmps79
 go_wp2_with fail
 refine hi.mono ?_
 rintro e w1 ⟨rfl,hb1⟩
 go_wp2
 go_ret
 exact⟨rfl,hb2.trans (hb1.mono hb2.size)⟩
end L
end Go.Proofs.YtcagbdokbnpdfaaGreatDoor
