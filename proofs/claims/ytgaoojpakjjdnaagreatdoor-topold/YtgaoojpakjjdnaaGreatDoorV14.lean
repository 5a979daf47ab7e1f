import Derived.Test.YtgaoojpakjjdnaaGreatDoorV13
import Derived.Shelf.Spec.SlicesInsertGrow
set_option maxHeartbeats 32000000
set_option maxRecDepth 100000
set_option linter.unusedVariables false
namespace Go.Proofs.YtgaoojpakjjdnaaGreatDoor
namespace L
open Go.RowKit
def From (w:World)(L L':List Nat):Prop:=∀ k,L'.count k≤1∧(k<w.heap.size→L'.count k≤L.count k)
theorem From.refl {w:World}{L:List Nat}(h:L.Nodup):From w L L:=fun k=>⟨List.nodup_iff_count.1 h k,fun _=>Nat.le_refl _⟩
theorem From.trans {w w':World}{A B C:List Nat}(h:From w A B)(k:From w' B C)(hs:w.heap.size≤w'.heap.size):From w A C:=fun i=>⟨(k i).1,fun hi=>Nat.le_trans ((k i).2 (by omega)) ((h i).2 hi)⟩
theorem From.mem {w:World}{L L':List Nat}(h:From w L L'){k:Nat}(hk:k∈L'):k∈L∨w.heap.size≤k:=by
 by_cases hs:k<w.heap.size
 ·left
  have:=(h k).2 hs
  have h1:=List.count_pos_iff.2 hk
  exact List.count_pos_iff.1 (by omega)
 ·right;omega
theorem From.of {w:World}{L L':List Nat}(hn:L'.Nodup)(hm:∀ k∈L',k∈L∨w.heap.size≤k):From w L L':=fun k=>⟨List.nodup_iff_count.1 hn k,fun hk=>by
 by_cases h:k∈L'
 ·have h1:=List.nodup_iff_count.1 hn k
  rcases hm k h with h2|h2
  ·have:=List.count_pos_iff.2 h2;omega
  ·omega
 ·rw[List.count_eq_zero_of_not_mem h];omega⟩
theorem C6r {A B:List Nat}{k:Nat}(h:A.count k+B.count k≤1)(ha:k∈A):k∉B:=fun hb=>by
 have:=List.count_pos_iff.2 ha
 have:=List.count_pos_iff.2 hb
 omega
section
variable {α:Type}(f : α→List Nat)
theorem A3a (l m:List α)(k:Nat):((l++m).flatMap f).count k=(l.flatMap f).count k+(m.flatMap f).count k:=by rw[List.flatMap_append,List.count_append]
theorem A4q (a : α)(l:List α)(k:Nat):((a::l).flatMap f).count k=(f a).count k+(l.flatMap f).count k:=by rw[List.flatMap_cons,List.count_append]
theorem A5u (p : α→Bool)(k:Nat):∀ l:List α,((l.filter p).flatMap f).count k≤(l.flatMap f).count k
 | []=>Nat.le_refl _
 | a::l=>by
  have:=A5u p k l
  rw[List.filter_cons,A4q]
  split
  ·rw[A4q];omega
  ·omega
theorem B3u (l:List α)(i:Nat)(a : α)(k:Nat):((l.take i++[a]++l.drop i).flatMap f).count k=(f a).count k+(l.flatMap f).count k:=by
 rw[A3a,A3a,A4q]
 have:=A3a f (l.take i) (l.drop i) k
 rw[List.take_append_drop] at this
 simp only[List.flatMap_nil,List.count_nil]
 omega
end
theorem A7m {β:Type}(f : β→List Nat)(v:VL β)(k:Nat):(VL.fp f v).count k=(own1 v.p1).count k+(own1 v.p2).count k+(own1 v.p3).count k+(v.subs.flatMap f).count k:=by
 unfold VL.fp;rw[List.count_append,List.count_append,List.count_append]
theorem C7c {β:Type}(f : β→List Nat)(b:BL β)(k:Nat):(BL.fp f b).count k=(own1 b.q0).count k+(own1 b.q1).count k+(b.vals.flatMap (VL.fp f)).count k:=by
 unfold BL.fp;rw[List.count_append,List.count_append]
theorem A9s (p:PV)(k:Nat):(own1 p).count k≤1:=by
 unfold own1
 cases p.v.ownBlock with
 | none=>simp
 | some b=>simp[List.count_cons];split <;> omega
theorem C8w {β:Type}{w:World}{c:Nat}{x:Int}(hc:w.heap[c]?=some (.cells #[.int .i64 x] 3 (0,0)))(v:VI β)(a1:Option Addr)(n1 c1:Nat)(a2:Option Addr)(n2 c2:Nat)(a3:Option Addr)(n3 c3:Nat) :
  Calls Tryz.prog 147 #[.agg #[.int .i64 v.number,.slice a1 n1 c1,.slice a2 n2 c2,.slice a3 n3 c3],.pointer (some ⟨c,0,none⟩)] w fun e w'=>e = .returned (.bool (decide (x<v.number)))∧Below w.heap.size w w':=by
 have c0:w.cell? ⟨c,0,none⟩=some (.int .i64 x):=A0a hc 0 _ rfl
 have ag:c<w.heap.size:=(Array.getElem?_eq_some_iff.1 hc).1
 have ac:=(Below.refl w.heap.size w).alloc (Nat.le_refl _) (.cells #[.int .i64 v.number,.slice a1 n1 c1,.slice a2 n2 c2,.slice a3 n3 c3] 62)
 obtain⟨q,Hq⟩:∃ q,Hid (q=decide (x<v.number)):=⟨_,rfl⟩
 have hq:decide (x<v.number)=q:=Hq.out.symm
 rw[←Hq.out]
 go_enter Tryz.func147,Tryz.ntmps147
 go_wp2
 go_ret
 exact⟨rfl,ac⟩
theorem C5n {β:Type}{P:World→Addr→β→Prop}(hP:A5g P){v:Value}{l:List (VI β)}{w:World}{c:Nat}{x:Int}(h:RdL 4 (VAt P) w v l)(hc:w.heap[c]?=some (.cells #[.int .i64 x] 3 (0,0))) :
  Calls Tryz.prog 79 #[v,.func (.func 147) #[] #[.pointer (some ⟨c,0,none⟩)]] w fun e w'=>e = .returned (.int .i64 (A0k (fun v=>decide (x<v.number)) l))∧Below w.heap.size w w':=by
 obtain⟨ao,n,cap,rfl,Hn,ag⟩:=h.shape
 go_enter Tryz.func79,Tryz.ntmps79
 go_wp2_with fail
 go_loopg [8] n (fun m i wr=>∃ k:Nat,k+m=n∧i = .int .i64 k∧Hid (∀ a∈l.take k,decide (x<a.number)=false)∧Below w.heap.size w wr)
 case atStart=>exact⟨0,by omega,rfl,by show ∀ a∈_,_;simp,Below.refl _ _⟩
 case round=>
  obtain⟨k,hk,rfl,HK,hb⟩:=hrel
  have ah:=(hb.block c (Array.getElem?_eq_some_iff.1 hc).1).trans hc
  by_cases hlt:k<n
  ·obtain⟨a,Ha⟩:∃ a,Hid (l[k]?=some a):=⟨l[k]'(by rw[←Hn.out];exact hlt),List.getElem?_eq_getElem (by rw[←Hn.out];exact hlt)⟩
   obtain⟨b,off,rfl,hat⟩:=(h.below (VAt.stays hP) hb).get VAt.plain Ha.out
   obtain⟨v1,v2,v3,s0,s1,s2,s3,r1,r2,r3⟩:=hat.at
   obtain⟨a1,n1,c1,rfl,_,_⟩:=r1.shape
   obtain⟨a2,n2,c2,rfl,_,_⟩:=r2.shape
   obtain⟨a3,n3,c3,rfl,_,_⟩:=r3.shape
   have aj:(k:Int)<(n:Int):=by omega
   have ac:=C8w ah a a1 n1 c1 a2 n2 c2 a3 n3 c3
   cases hq:decide (x<a.number) with
   | true=>
    have HF:Hid (A0k (fun v=>decide (x<v.number)) l=(k:Int)):=A7o Ha.out HK.out hq
    rw[hq] at ac
    clear hq hat r1 r2 r3
    go_wp2_with fail
    refine ac.mono ?_
    rintro e w1 ⟨rfl,hb1⟩
    go_wp2
    go_ret
    exact⟨by rw[HF.out];rfl,hb.trans (hb1.mono hb.size)⟩
   | false=>
    have HX:Hid (∀ a∈l.take (k+1),decide (x<a.number)=false):=by
     show ∀ a∈_,_
     rw[A0z Ha.out]
     intro y hy
     rcases List.mem_append.1 hy with hy|hy
     ·exact HK.out y hy
     ·rw[List.mem_singleton] at hy;rw[hy];exact hq
    rw[hq] at ac
    clear hq hat r1 r2 r3
    go_wp2_with fail
    refine ac.mono ?_
    rintro e w1 ⟨rfl,hb1⟩
    go_wp2_with fail
    go_roundg (n-(k+1))
    case measure=>omega
    case rel=>exact⟨k+1,by omega,by go_num,HX,hb.trans (hb1.mono hb.size)⟩
  ·have HF:Hid (A0k (fun v=>decide (x<v.number)) l = -1):=by
    have:=HK.out
    rw[List.take_of_length_le (by rw[←Hn.out];omega)] at this
    exact A4m this
   go_wp2
   go_ret
   exact⟨by rw[HF.out];rfl,hb⟩
def A1h {β:Type}(x:Int)(l:List (VI β)):Nat:=(l.findIdx? fun v=>decide (x<v.number)).getD l.length
theorem C0z {β:Type}{P:World→Addr→β→Prop}(hP:A5g P){v0:Value}{l:List (VI β)}{w:World}(h:RdL 4 (VAt P) w v0 l)(x:Int) :
  Calls Tryz.prog 72 #[.int .i64 x,v0] w fun e w'=>e = .returned (.int .i64 ((A1h x l:Nat):Int))∧Below w.heap.size w w':=by
 obtain⟨ao,n,cap,rfl,Hn,ac⟩:=h.shape
 have hb2:Below w.heap.size w (w.alloc (.cells #[.int .i64 x] 3)):=(Below.refl _ _).alloc (Nat.le_refl _) _
 have hi:=C5n hP (h.below (VAt.stays hP) hb2) (heap_alloc_new w _)
 have ag:=A4j
 cases hp:l.findIdx? (fun v=>decide (x<v.number)) with
 | some k=>
  have e1:A0k (fun v:VI β=>decide (x<v.number)) l=(k:Int):=by unfold A0k;rw[hp]
  have HP:Hid (A1h x l=k):=by show _=_;unfold A1h;rw[hp];rfl
  have hk:¬ (k:Int)<0:=by omega
  rw[e1] at hi
  clear hp e1
  go_enter Tryz.func72,Tryz.ntmps72
  go_wp2_with fail
  refine hi.mono ?_
  rintro e w1 ⟨rfl,hb1⟩
  go_wp2
  go_ret
  exact⟨by rw[HP.out];rfl,hb2.trans (hb1.mono hb2.size)⟩
 | none=>
  have e1:A0k (fun v:VI β=>decide (x<v.number)) l = -1:=by unfold A0k;rw[hp]
  have HP:Hid (A1h x l=n):=by show _=_;unfold A1h;rw[hp,Hn.out];rfl
  rw[e1] at hi
  clear hp e1
  go_enter Tryz.func72,Tryz.ntmps72
  go_wp2_with fail
  refine hi.mono ?_
  rintro e w1 ⟨rfl,hb1⟩
  go_wp2
  go_ret
  exact⟨by rw[HP.out];rfl,hb2.trans (hb1.mono hb2.size)⟩
def isF (n:Int)(f:FI):Bool:=decide (f.number=n)
def isN (t:List UInt8)(m:MI):Bool:=decide (m.name=t)
def isV {β:Type}(n:Int)(v:VI β):Bool:=decide (v.number=n)
def A5i {β:Type}(fs:List FI)(x:FI)(l:List (VI β))(y:VI β):List (VI β):=
 if A0p x y then l.filter (fun a=>!A0q fs x a.number)
 else(l.filter fun a=>!A0q fs x a.number).take (A1h y.number (l.filter fun a=>!A0q fs x a.number))++[y]++(l.filter fun a=>!A0q fs x a.number).drop (A1h y.number (l.filter fun a=>!A0q fs x a.number))
def A4y {β:Type}(J:MI→β→β→β)(ms:List MI)(x:FI)(a b:VI β):VI β:=
 if x.many then⟨a.number,a.bits++b.bits,a.bytes++b.bytes,a.subs++b.subs⟩
 else if x.kind=10 then
  match ms.find? (isN x.type),a.subs,b.subs with
  | some M,s::_,t::_=>⟨a.number,a.bits,a.bytes,[J M s t]⟩
  | _,_,_=>a
 else b
def A3h {β:Type}(J:MI→β→β→β)(ms:List MI)(fs:List FI)(l:List (VI β))(v:VI β):List (VI β):=
 match fs.find? (isF v.number) with
 | none=>l
 | some x=>
  match l.find? (isV v.number) with
  | none=>A5i fs x l v
  | some u=>A5i fs x l (A4y J ms x u v)
def jnB (ms:List MI):(d:Nat)→MI→BI d→BI d→BI d
 | 0=>fun _ a _=>a
 | d+1=>fun M a b=>(⟨(BO.vals b).foldl (A3h (jnB ms d) ms M.fields) (BO.vals a),BO.unk a++BO.unk b⟩:BO (BI d))
def jW {β:Type}(f : β→Nat)(v:VI β):Nat:=1+v.bits.length+v.bytes.length+(v.subs.map fun s=>1+f s).sum
def jWB:(d:Nat)→BI d→Nat
 | 0=>fun _=>0
 | d+1=>fun b=>((BO.vals b).map (jW (jWB d))).sum+(BO.unk b).length
theorem A2d {fs:List FI}{n:Int}{x:FI}(h:fs.find? (isF n)=some x):x.number=n:=by
 have:=List.find?_some h
 simpa [isF] using this
theorem A9q {fs:List FI}{n:Int}{x:FI}(h:fs.find? (isF n)=some x):A0q fs x n=true:=by
 have hn:=A2d h
 unfold A0q
 split
 ·simp[hn]
 ·unfold A1d
  have:fs.find? (fun f=>decide (f.number=n))=some x:=h
  rw[this]
  simp
theorem B0n {β:Type}{J:MI→β→β→β}{ms:List MI}{x:FI}{a b:VI β}(h:a.number=b.number):(A4y J ms x a b).number=b.number:=by
 unfold A4y
 split
 ·exact h
 ·split
  ·split
   ·exact h
   ·exact h
  ·rfl
theorem A7a {β:Type}{fs:List FI}{x:FI}{l:List (VI β)}{y a:VI β}(h:a∈A5i fs x l y):a=y∨a∈l:=by
 unfold A5i at h
 split at h
 ·exact .inr (List.mem_filter.1 h).1
 ·rw[List.mem_append,List.mem_append,List.mem_singleton] at h
  rcases h with(h|h)|h
  ·exact .inr (List.mem_filter.1 (List.mem_of_mem_take h)).1
  ·exact .inl h
  ·exact .inr (List.mem_filter.1 (List.mem_of_mem_drop h)).1
theorem B0w {α:Type}(f : α→Nat)(p : α→Bool):∀ l:List α,((l.filter p).map f).sum≤(l.map f).sum
 | []=>Nat.le_refl _
 | a::l=>by
  have:=B0w f p l
  rw[List.filter_cons]
  split <;> simp only[List.map_cons,List.sum_cons] <;> omega
theorem C9x {α:Type}(f : α→Nat){p : α→Bool}{a : α}(hp:p a=false):∀ {l:List α},a∈l→f a+((l.filter p).map f).sum≤(l.map f).sum
 | b::l,h=>by
  rw[List.filter_cons]
  rcases List.mem_cons.1 h with rfl|h
  ·have:=B0w f p l
   rw[hp]
   simp only[Bool.false_eq_true,if_false,List.map_cons,List.sum_cons]
   omega
  ·have:=C9x f hp h
   split <;> simp only[List.map_cons,List.sum_cons] <;> omega
theorem D6o {α:Type}(f : α→Nat)(l:List α)(i:Nat)(a : α):((l.take i++[a]++l.drop i).map f).sum=f a+(l.map f).sum:=by
 have h:(l.map f).sum=((l.take i).map f).sum+((l.drop i).map f).sum:=by rw[←List.sum_append,←List.map_append,List.take_append_drop]
 simp only[List.map_append,List.sum_append,List.map_cons,List.map_nil,List.sum_cons,List.sum_nil]
 omega
theorem D7u {β:Type}(f : β→Nat)(fs:List FI)(x:FI)(l:List (VI β))(y:VI β):((A5i fs x l y).map (jW f)).sum≤jW f y+((l.filter fun a=>!A0q fs x a.number).map (jW f)).sum:=by
 unfold A5i
 split
 ·omega
 ·rw[D6o];omega
theorem D7p {β:Type}{f : β→Nat}{J:MI→β→β→β}(hJ:∀ M s t,f (J M s t)≤f s+f t)(ms:List MI)(x:FI)(a b:VI β):jW f (A4y J ms x a b)≤jW f a+jW f b:=by
 unfold A4y
 split
 ·unfold jW
  simp only[List.length_append,List.map_append,List.sum_append]
  omega
 ·split
  ·split
   ·rename_i M s l t m h1 h2 h3
    have:=hJ M s t
    unfold jW
    rw[h2,h3]
    simp only[List.map_cons,List.sum_cons,List.map_nil,List.sum_nil]
    omega
   ·omega
  ·omega
theorem D5c {β:Type}{f : β→Nat}{J:MI→β→β→β}(hJ:∀ M s t,f (J M s t)≤f s+f t)(ms:List MI)(fs:List FI)(l:List (VI β))(v:VI β):((A3h J ms fs l v).map (jW f)).sum≤(l.map (jW f)).sum+jW f v:=by
 unfold A3h
 split
 ·omega
 ·rename_i x hx
  split
  ·have:=D7u f fs x l v
   have:=B0w (jW f) (fun a=>!A0q fs x a.number) l
   omega
  ·rename_i u hu
   have ac:u.number=v.number:=by have:=List.find?_some hu;simpa [isV] using this
   have h1:=D7u f fs x l (A4y J ms x u v)
   have h2:=D7p hJ ms x u v
   have h3:=C9x (jW f) (p:=fun a:VI β=>!A0q fs x a.number) (a:=u) (by simp[ac,A9q hx]) (List.mem_of_find?_eq_some hu)
   omega
theorem D4q {β:Type}{f : β→Nat}{J:MI→β→β→β}(hJ:∀ M s t,f (J M s t)≤f s+f t)(ms:List MI)(fs:List FI):∀ (m l:List (VI β)),((m.foldl (A3h J ms fs) l).map (jW f)).sum≤(l.map (jW f)).sum+(m.map (jW f)).sum
 | [],_=>by simp
 | v::m,l=>by
  have h1:=D4q hJ ms fs m (A3h J ms fs l v)
  have h2:=D5c hJ ms fs l v
  simp only[List.foldl_cons,List.map_cons,List.sum_cons]
  omega
theorem C7y (ms:List MI):∀ (d:Nat) (M:MI) (a b:BI d),jWB d (jnB ms d M a b)≤jWB d a+jWB d b
 | 0,_,a,_=>nomatch (a:Empty)
 | d+1,M,a,b=>by
  have:=D4q (fun M s t=>C7y ms d M s t) ms M.fields (BO.vals b) (BO.vals a)
  show(List.map (jW (jWB d)) ((BO.vals b).foldl (A3h (jnB ms d) ms M.fields) (BO.vals a))).sum+(BO.unk a++BO.unk b).length≤((List.map (jW (jWB d)) (BO.vals a)).sum+(BO.unk a).length)+((List.map (jW (jWB d)) (BO.vals b)).sum+(BO.unk b).length)
  rw[List.length_append]
  omega
theorem A5n {α:Type}(f : α→Nat)(hf:∀ a,1≤f a):∀ l:List α,l.length≤(l.map f).sum
 | []=>Nat.le_refl _
 | a::l=>by
  have:=A5n f hf l
  have:=hf a
  simp only[List.length_cons,List.map_cons,List.sum_cons]
  omega
theorem C1w {α:Type}(E:EK α)(l:List α):∀ u∈E.flat l,u.oneCell'=true:=by
 intro y hy
 simp only[EK.flat,List.mem_flatMap] at hy
 obtain⟨p,_,hy⟩:=hy
 exact E.one p y hy
theorem B5l {w:World}{g o j:Nat}{vs:List Value}{u:Value}(hc:∀ j,j<vs.length→(w.cell? ⟨g,o+j,none⟩).isSome=true)(hu:vs[j]?=some u):(w.setCells g o vs).cell? ⟨g,o+j,none⟩=some u:=by
 obtain⟨hj,e⟩:=List.getElem?_eq_some_iff.1 hu
 rw[World.cell?_setCells_in g vs o w hc j hj,e]
theorem B8a {β:Type}{w:World}{base:Nat}{g n cap vb i:Nat}{l:List (VL β)}{a:VL β}{x0 x1 x2 x3:Value}(h:Row (ekV β) w base (.slice (some ⟨g,0,none⟩) n cap) l)(he:(ekV β).enc a = [x0,x1,x2,x3])(hv:w.heap[vb]?=some (.cells #[x0,x1,x2,x3] 62 (0,0)))
  (ba:vb≠g) (hi:i<n) (hroom:n+1≤cap) :
  Calls Tryz.prog 71 #[.slice (some ⟨g,0,none⟩) n cap,.int .i64 (i:Int),.slice (some ⟨vb,0,none⟩) 1 1] w fun e w'=>e = .returned (.slice (some ⟨g,0,none⟩) (n+1) cap)∧Row (ekV β) w' base (.slice (some ⟨g,0,none⟩) (n+1) cap) (l.take i++[a]++l.drop i)∧FrB [g] w w':=by
 obtain⟨hl,hbg,bw,hcm,cur,hg,hsz⟩:=h.cur
 replace hsz:cur.size=cap*4:=hsz
 have hsp:∀ j,j<(n+1)*4→(w.cell? ⟨g,j,none⟩).isSome=true:=fun j hj=>by
  have:j<cur.size:=by omega
  rw[A0a hg j _ (Array.getElem?_eq_getElem this)];rfl
 have bg:∀ j,w.frozen? ⟨g,j,none⟩=false:=fun j=>A0b hg j
 have bc:((ekV β).flat (l.drop i)).length=(n-i)*4:=by rw[(ekV β).flat_len,List.length_drop,hl];rfl
 have bh:w.shape? vb=some (62,4):=by simp[World.shape?,hv]
 have bk:w.shape? g=some (62,cur.size):=by simp only[World.shape?,hg];rfl
 have bu:∀ lb cb o,(callFunc 145 #[.slice (some ⟨vb,0,none⟩) 1 1,.slice (some ⟨g,o,none⟩) lb cb]).run Tryz.prog w = .ok (.value (.bool false)) w:=fun lb cb o=>by
  rw[run_callFunc_extern Tryz.func145 (by kernel_rfl) (by kernel_rfl) (by kernel_rfl) (e:=Extern.SlicesOverlaps.overlaps #[26,26] #[4]) (by kernel_rfl),
   Lib.run_overlaps_apart w 26 4 62 Tryz.underlying26 4 (fun w=>by kernel_rfl) ⟨vb,0,none⟩ ⟨g,o,none⟩ 1 1 lb cb ba _ _ _ _ bh bk (by omega) (A0b hv 0) (A0b hv _)]
  rfl
 have hcs:∀ j v,((ekV β).flat (l.drop i))[j]?=some v→w.cell? ⟨g,i*4+j,none⟩=some v:=fun j v hj=>by
  obtain⟨y,h1,h2⟩:=(ekV β).flat_get hj
  rw[List.getElem?_drop] at h1
  have:=h.cells h1 h2
  have e4:(ekV β).size=4:=rfl
  rw[e4] at this
  rw[show i*4+j=(i+j / 4)*4+j%4 by omega]
  exact this
 have ah:∀ ty dc sc,(Builtin.copy_ #[26,26] ty #[.slice (some ⟨g,(i+1)*4,none⟩) (n-i) dc,.slice (some ⟨g,i*4,none⟩) (n+1-i) sc]).run Tryz.prog w.drew = .ok (goInt ((n-i:Nat):Int)) (w.drew.setCells g ((i+1)*4) ((ekV β).flat (l.drop i))):=fun ty dc sc=>
  A9v (w:=w.drew) (g:=g) (o:=(i+1)*4) (dLen:=n-i) (sLen:=n+1-i) (m:=n-i) (by simp only[Nat.min_def];split <;> omega) bc (fun j v hj=>by rw[A0e];exact hcs j v hj) (fun j hj=>hsp _ (by omega)) (fun j _=>bg _) (C1w _ _)
 obtain⟨W1,hW1⟩:∃ W1,W1=w.drew.setCells g ((i+1)*4) ((ekV β).flat (l.drop i)):=⟨_,rfl⟩
 obtain⟨ac,hg1,aj⟩:=A2q ((ekV β).flat (l.drop i)) ((i+1)*4) w.drew cur hg
 rw[←hW1] at hg1
 have bn:∀ j v,([x0,x1,x2,x3]:List Value)[j]?=some v→W1.cell? ⟨vb,j,none⟩=some v:=fun j v hj=>by
  rw[hW1,World.cell?_setCells_out g _ _ _ _ (fun h _=>absurd h ba)]
  exact A0a (w:=w) hv j v (by simpa using hj)
 have au:∀ (W:World),(∀ x,W.cell? x=W1.cell? x)→(∀ x,W.frozen? x=W1.frozen? x)→∀ ty dc,(Builtin.copy_ #[26,26] ty #[.slice (some ⟨g,i*4,none⟩) (n+1-i) dc,.slice (some ⟨vb,0,none⟩) 1 1]).run Tryz.prog W = .ok (goInt 1) (W.setCells g (i*4) [x0,x1,x2,x3]):=fun W ag br ty dc=>
  A9v (g:=g) (o:=i*4) (dLen:=n+1-i) (sLen:=1) (m:=1) (by simp only[Nat.min_def];split <;> omega) rfl (fun j v hj=>by rw[A0e,Nat.zero_add,ag];exact bn j v hj)
   (fun j hj=>by
    have hj:j<4:=hj
    have:i*4+j<ac.size:=by omega
    rw[ag,A0a hg1 _ _ (Array.getElem?_eq_getElem this)];rfl) (fun j _=>by rw[br];exact A0b hg1 _)
   (fun v hv=>by rw[←he] at hv;exact(ekV β).one a v hv)
 have ak:∀ W:World,(∀ x,W.cell? x=W1.cell? x)→W.heap=W1.heap→Hid (Row (ekV β) (W.setCells g (i*4) [x0,x1,x2,x3]) base (.slice (some ⟨g,0,none⟩) (n+1) cap) (l.take i++[a]++l.drop i)):=fun W ag bt=>by
  obtain⟨bq,hg2,aw⟩:=A2q [x0,x1,x2,x3] (i*4) W ac (by rw[bt];exact hg1)
  have e4:(ekV β).size=4:=rfl
  refine C9o hbg hg2 (by rw[aw,aj,hsz,e4]) hl (by omega) hroom hcm ?_ ?_ ?_
  ·intro k y hk hy j u hu
   have hj:j<4:=by have:=(List.getElem?_eq_some_iff.1 hu).1;rw[(ekV β).len] at this;exact this
   rw[e4,World.cell?_setCells_out g _ _ _ _ (fun _ _=>by left;show k*4+j<i*4;omega),ag,hW1,World.cell?_setCells_out g _ _ _ _ (fun _ _=>by left;show k*4+j<(i+1)*4;omega)]
   exact h.cells hy hu
  ·intro j u hu
   rw[he] at hu
   rw[e4]
   refine B5l (w:=W) (g:=g) (o:=i*4) (vs:=[x0,x1,x2,x3]) (fun j hj=>?_) hu
   have hj:j<4:=hj
   have:i*4+j<ac.size:=by omega
   rw[ag,A0a hg1 _ _ (Array.getElem?_eq_getElem this)];rfl
  ·intro j u hu
   rw[e4,World.cell?_setCells_out g _ _ _ _ (fun _ _=>by right;show i*4+4≤(i+1)*4+j;omega),ag,hW1]
   exact B5l (w:=w.drew) (g:=g) (o:=(i+1)*4) (fun j hj=>hsp _ (by omega)) hu
 have bp:∀ W:World,W.heap=W1.heap→W.os=W1.os→W.tape=W1.tape→W.output=W1.output→Hid (FrB [g] w (W.setCells g (i*4) [x0,x1,x2,x3])):=fun W e1 e2 e3 e4=>by
  have f0:FrB [g] w w.drew:=.of_below (Below.refl _ _).drew
  have f1:FrB [g] w W1:=by rw[hW1];exact FrB.setCells (o:=0) _ _ f0 hg (by show(62:TypeId)≠5;decide)
  have f2:FrB [g] w W:=⟨e2.trans f1.os,e3.trans f1.tape,e4.trans f1.output,by rw[e1];exact f1.size,fun k hk hc=>by rw[e1];exact f1.block k hk hc⟩
  exact FrB.setCells (o:=0) _ _ f2 (by rw[e1];exact hg1) (by show(62:TypeId)≠5;decide)
 have mixed:Tryz.prog.follows Departure.mixedOrders=true:=by kernel_rfl
 have hz2:¬ ((i:Int)=(n:Int)):=by omega
 unfold maxLen at hcm
 have cj:IntKind.i64.wrap ((i:Int)+1)=(i:Int)+1:=by rw[IntKind.wrap_i64];omega
 have hb1:(0:Int)≤(i:Int)+1:=by omega
 have bv:i≤n:=by omega
 have cg:((i:Int)+1).toNat=i+1:=by omega
 have hb2:¬ (cap=i+1):=by omega
 have hb3:(i:Int)≤(n:Int)+1:=by omega
 have hb4:¬ (cap=i):=by omega
 rw[←hW1] at ah
 clear bh bk hsz hsp bg bc hg hcs bn hg1 aj h hl hbg he hv hW1 ba cur ac
 go_enter Tryz.func71,Tryz.ntmps71
 go_wp2_with (simp only[bu])
 go_region_law_o (refine step_copy_runI rfl _ _ 26 26 rfl _ _ (by simp[Act.eval,Act.put]) (by simp[Act.eval,Act.put]) (ah _ _ _) ?_)
 go_wp2_with (at_builtin;refine wpList_copy_runI _ rfl _ _ 26 26 rfl _ _ rfl rfl (au _ (fun _=>rfl) (fun _=>rfl) _ _) ?_)
 go_ret
 exact⟨rfl,(ak _ (fun _=>rfl) rfl).out,(bp _ rfl rfl rfl rfl).out⟩
theorem B2d {B b:Nat}(hb:B≤b):∀ (vs:List Value) (o:Nat){a w:World},Below B a w→Below B a (w.setCells b o vs)
 | [],_,_,_,h=>h
 | _::r,o,_,_,h=>B2d hb r (o+1) (A2w h hb)
theorem B9m (n:Nat):(Builtin.zeroCells (Value.agg #[.int .i64 0,.slice none 0 0,.slice none 0 0,.slice none 0 0]).cells n).size=n*4:=by
 simp[Builtin.zeroCells,Value.cells]
theorem C0m {β:Type}{w:World}{base:Nat}{g n cap vb i:Nat}{l:List (VL β)}{a:VL β}{x0 x1 x2 x3:Value}(h:Row (ekV β) w base (.slice (some ⟨g,0,none⟩) n cap) l)(he:(ekV β).enc a = [x0,x1,x2,x3])(hv:w.heap[vb]?=some (.cells #[x0,x1,x2,x3] 62 (0,0)))
  (hi:i<n) (hroom:cap<n+1) (bq:(n+1)*80≤140737488355328) (hB:base≤w.heap.size) :
  Calls Tryz.prog 71 #[.slice (some ⟨g,0,none⟩) n cap,.int .i64 (i:Int),.slice (some ⟨vb,0,none⟩) 1 1] w fun e w'=>∃ G,e = .returned (.slice (some ⟨w.heap.size,0,none⟩) (n+1) G)∧Row (ekV β) w' base (.slice (some ⟨w.heap.size,0,none⟩) (n+1) G) (l.take i++[a]++l.drop i)∧Below w.heap.size w w':=by
 obtain⟨hl,hbg,ei,hcm,cur,hg,hsz⟩:=h.cur
 have dx:g<w.heap.size:=(Array.getElem?_eq_some_iff.1 hg).1
 have dz:vb<w.heap.size:=(Array.getElem?_eq_some_iff.1 hv).1
 obtain⟨i0,cu,hz0,hzs,hzb⟩:=info_parts (ekV β).info
 replace hzs:i0.size=4:=hzs
 replace hzb:i0.bytes=80:=hzb
 have e4:(ekV β).size=4:=rfl
 have bh:((ekV β).flat (l.take i)).length=i*4:=by rw[(ekV β).flat_len,List.length_take,hl,e4];omega
 have cj:((ekV β).flat (l.drop i)).length=(n-i)*4:=by rw[(ekV β).flat_len,List.length_drop,hl];rfl
 have br:∀ j v,((ekV β).flat l)[j]?=some v→w.cell? ⟨g,j,none⟩=some v:=fun j v hj=>by
  obtain⟨y,h1,h2⟩:=(ekV β).flat_get hj
  have:=h.cells h1 h2
  rw[Nat.mul_comm,Nat.div_add_mod] at this
  exact this
 have hsp:(ekV β).flat l=(ekV β).flat (l.take i)++(ekV β).flat (l.drop i):=by rw[←(ekV β).flat_append,List.take_append_drop]
 have cg:∀ j v,((ekV β).flat (l.take i))[j]?=some v→w.cell? ⟨g,j,none⟩=some v:=fun j v hj=>br j v (by
  rw[hsp,List.getElem?_append_left (List.getElem?_eq_some_iff.1 hj).1];exact hj)
 have hcs:∀ j v,((ekV β).flat (l.drop i))[j]?=some v→w.cell? ⟨g,i*4+j,none⟩=some v:=fun j v hj=>br _ v (by
  rw[hsp,List.getElem?_append_right (by omega),bh,Nat.add_sub_cancel_left];exact hj)
 have cw:(n:Int)+1-(i:Int)=((n+1-i:Nat):Int):=by omega
 have hik:i+(n+1-i)=n+1:=by omega
 have hold:(Builtin.firstCells i0.size i (.slice (some ⟨g,0,none⟩) i cap)).run Tryz.prog w.drew = .ok ((ekV β).flat (l.take i)).toArray w.drew:=by
  rw[hzs]
  exact run_firstCells_some w.drew 4 i ⟨g,0,none⟩ i cap ((ekV β).flat (l.take i)) bh (fun j v hj=>by rw[A0e,Nat.zero_add];exact cg j v hj)
 obtain⟨G,hG⟩:∃ G,G=grownCap w (n+1) cap 62:=⟨_,rfl⟩
 obtain⟨ROW,ac⟩:∃ ROW:Array Value,ROW=((ekV β).flat (l.take i)).toArray++Builtin.zeroCells (Value.agg #[.int .i64 0,.slice none 0 0,.slice none 0 0,.slice none 0 0]).cells (n+1-i)++Builtin.zeroCells (Value.agg #[.int .i64 0,.slice none 0 0,.slice none 0 0,.slice none 0 0]).cells (G-(n+1)):=⟨_,rfl⟩
 have df:∀ ty,(Builtin.append_ #[26,3] ty #[.slice (some ⟨g,0,none⟩) i cap,.int .i64 ((n:Int)+1-(i:Int))]).run Tryz.prog w = .ok (.slice (some ⟨w.heap.size,0,none⟩) (n+1) G) (w.drew.alloc (.cells ROW 62)):=fun ty=>by
  have h:=Lib.run_append_grow_zeros w 26 3 ty 62 i0 _ .i64 .i64 Tryz.underlying26 Tryz.underlying3 cu hz0 (some ⟨g,0,none⟩) i cap ((ekV β).flat (l.take i)) hold (n+1-i) (by omega) (by omega) (by omega) (by omega) (by rw[hzb];omega) (by rw[hzb,hik];exact growslice_fits hroom bq)
  rw[hik] at h
  rw[cw,ac,hG]
  exact h
 have dp:n+1≤G:=by rw[hG];exact grownCap_ge w _ _ _
 have ak:G≤maxLen:=by rw[hG];exact grownCap_le_maxLen w (n+1) cap _ (by unfold maxLen;omega)
 have bw:ROW.size=G*4:=by
  rw[ac,Array.size_append,Array.size_append,B9m,B9m,List.size_toArray,bh]
  omega
 have bv:∀ j v,((ekV β).flat (l.take i))[j]?=some v→ROW[j]?=some v:=fun j v hj=>by
  have dy:=(List.getElem?_eq_some_iff.1 hj).1
  rw[ac,Array.getElem?_append_left (by rw[Array.size_append,List.size_toArray];omega),Array.getElem?_append_left (by rw[List.size_toArray];exact dy)]
  simpa using hj
 obtain⟨W1,hW1⟩:∃ W1,W1=w.drew.alloc (.cells ROW 62):=⟨_,rfl⟩
 have au:W1.heap[w.heap.size]?=some (.cells ROW 62 (0,0)):=by rw[hW1];exact heap_alloc_new w.drew _
 have hb1:Below w.heap.size w W1:=by rw[hW1];exact((Below.refl _ _).drew).alloc (Nat.le_refl _) _
 have bk:∀ j,j<G*4→(W1.cell? ⟨w.heap.size,j,none⟩).isSome=true:=fun j hj=>by
  rw[A0a au j _ (Array.getElem?_eq_getElem (by omega))];rfl
 have dt:∀ j v,w.cell? ⟨g,j,none⟩=some v→W1.cell? ⟨g,j,none⟩=some v:=fun j v h=>A0c hb1 h
 have dg:∀ j v,([x0,x1,x2,x3]:List Value)[j]?=some v→W1.cell? ⟨vb,j,none⟩=some v:=fun j v hj=>A0c hb1 (A0a hv j v (by simpa using hj))
 have ba:∀ (W:World),(∀ x,W.cell? x=W1.cell? x)→(∀ x,W.frozen? x=W1.frozen? x)→∀ ty dc,(Builtin.copy_ #[26,26] ty #[.slice (some ⟨w.heap.size,i*4,none⟩) (n+1-i) dc,.slice (some ⟨vb,0,none⟩) 1 1]).run Tryz.prog W = .ok (goInt 1) (W.setCells w.heap.size (i*4) [x0,x1,x2,x3]):=fun W ag bp ty dc=>
  A9v (g:=w.heap.size) (o:=i*4) (dLen:=n+1-i) (sLen:=1) (m:=1) (by simp only[Nat.min_def];split <;> omega) rfl (fun j v hj=>by rw[A0e,Nat.zero_add,ag];exact dg j v hj)
   (fun j hj=>by have hj:j<4:=hj;rw[ag];exact bk _ (by omega)) (fun j _=>by rw[bp];exact A0b au _)
   (fun v hv=>by rw[←he] at hv;exact(ekV β).one a v hv)
 obtain⟨W2,hW2⟩:∃ W2,W2=W1.setCells w.heap.size (i*4) [x0,x1,x2,x3]:=⟨_,rfl⟩
 obtain⟨aj,aw,bg⟩:=A2q [x0,x1,x2,x3] (i*4) W1 ROW au
 rw[←hW2] at aw
 have hb2:Below w.heap.size w W2:=by rw[hW2];exact B2d (Nat.le_refl _) _ _ hb1
 have bn:∀ j,j<G*4→(W2.cell? ⟨w.heap.size,j,none⟩).isSome=true:=fun j hj=>by
  rw[A0a aw j _ (Array.getElem?_eq_getElem (by omega))];rfl
 have bc:∀ (W:World),(∀ x,W.cell? x=W2.cell? x)→(∀ x,W.frozen? x=W2.frozen? x)→∀ ty dc sc,(Builtin.copy_ #[26,26] ty #[.slice (some ⟨w.heap.size,(i+1)*4,none⟩) (n-i) dc,.slice (some ⟨g,i*4,none⟩) (n-i) sc]).run Tryz.prog W = .ok (goInt ((n-i:Nat):Int)) (W.setCells w.heap.size ((i+1)*4) ((ekV β).flat (l.drop i))):=fun W ag bp ty dc sc=>
  A9v (g:=w.heap.size) (o:=(i+1)*4) (dLen:=n-i) (sLen:=n-i) (m:=n-i) (by simp only[Nat.min_def];split <;> omega) cj (fun j v hj=>by rw[A0e,ag];exact A0c hb2 (hcs j v hj))
   (fun j hj=>by rw[ag];exact bn _ (by omega)) (fun j _=>by rw[bp];exact A0b aw _) (C1w _ _)
 have ah:∀ W:World,(∀ x,W.cell? x=W2.cell? x)→W.heap=W2.heap→Hid (Row (ekV β) (W.setCells w.heap.size ((i+1)*4) ((ekV β).flat (l.drop i))) base (.slice (some ⟨w.heap.size,0,none⟩) (n+1) G) (l.take i++[a]++l.drop i)):=fun W ag dv=>by
  obtain⟨dl,dr,bt⟩:=A2q ((ekV β).flat (l.drop i)) ((i+1)*4) W aj (by rw[dv];exact aw)
  refine C9o hB dr (by rw[bt,bg,bw,e4]) hl (by omega) dp ak ?_ ?_ ?_
  ·intro k y hk hy j u hu
   have hj:j<4:=by have:=(List.getElem?_eq_some_iff.1 hu).1;rw[(ekV β).len] at this;exact this
   rw[e4,World.cell?_setCells_out _ _ _ _ _ (fun _ _=>by left;show k*4+j<(i+1)*4;omega),ag,hW2,World.cell?_setCells_out _ _ _ _ _ (fun _ _=>by left;show k*4+j<i*4;omega)]
   refine A0a au _ _ (bv _ _ ?_)
   have:=(ekV β).flat_at (l.take i) k j y (by rw[List.getElem?_take,if_pos hk];exact hy) hj
   rw[e4] at this
   rw[this];exact hu
  ·intro j u hu
   rw[he] at hu
   have hj:j<4:=(List.getElem?_eq_some_iff.1 hu).1
   rw[e4,World.cell?_setCells_out _ _ _ _ _ (fun _ _=>by left;show i*4+j<(i+1)*4;omega),ag,hW2]
   exact B5l (w:=W1) (g:=w.heap.size) (o:=i*4) (vs:=[x0,x1,x2,x3]) (fun j hj=>bk _ (by have hj:j<4:=hj;omega)) hu
  ·intro j u hu
   rw[e4]
   exact B5l (w:=W) (g:=w.heap.size) (o:=(i+1)*4) (fun j hj=>by rw[ag];exact bn _ (by omega)) hu
 have bu:∀ W:World,W.heap=W2.heap→W.os=W2.os→W.tape=W2.tape→W.output=W2.output→Hid (Below w.heap.size w (W.setCells w.heap.size ((i+1)*4) ((ekV β).flat (l.drop i)))):=fun W e1 e2 e3 e4=>
  B2d (Nat.le_refl _) _ _ ⟨e2.trans hb2.os,e3.trans hb2.tape,e4.trans hb2.output,by rw[e1];exact hb2.size,fun k hk=>by rw[e1];exact hb2.block k hk⟩
 have mixed:Tryz.prog.follows Departure.mixedOrders=true:=by kernel_rfl
 have hz2:¬ ((i:Int)=(n:Int)):=by omega
 have hz3:(cap:Int)<(n:Int)+1:=by omega
 unfold maxLen at hcm ak
 have eo:IntKind.i64.wrap ((i:Int)+1)=(i:Int)+1:=by rw[IntKind.wrap_i64];omega
 have dw:(0:Int)≤(i:Int)+1:=by omega
 have eh:i≤n:=by omega
 have ej:((i:Int)+1).toNat=i+1:=by omega
 have hb3:(i:Int)≤(n:Int):=by omega
 have d9:¬ (G=i):=by omega
 have dn:¬ (G=i+1):=by omega
 have ee:¬ (cap=i):=by omega
 have hA:∀ ty dc,(Builtin.copy_ #[26,26] ty #[.slice (some ⟨w.heap.size,i*4,none⟩) (n+1-i) dc,.slice (some ⟨vb,0,none⟩) 1 1]).run Tryz.prog W1 = .ok (goInt 1) W2:=fun ty dc=>by rw[hW2];exact ba W1 (fun _=>rfl) (fun _=>rfl) ty dc
 have dm:∀ ty dc sc,(Builtin.copy_ #[26,26] ty #[.slice (some ⟨w.heap.size,(i+1)*4,none⟩) (n-i) dc,.slice (some ⟨g,i*4,none⟩) (n-i) sc]).run Tryz.prog W2.drew = .ok (goInt ((n-i:Nat):Int)) (W2.drew.setCells w.heap.size ((i+1)*4) ((ekV β).flat (l.drop i))):=bc W2.drew (fun _=>rfl) (fun _=>rfl)
 have dh:=ah W2.drew (fun _=>rfl) rfl
 have di:=bu W2.drew rfl rfl rfl rfl
 rw[←hW1] at df
 clear ah bu ba bc hW1 hW2
 clear hsz hg hold ac hG bw bv au aw bk bn dt dg hb1 hb2 cg hcs br hsp bh cj h hl hbg he hv cw hik cu hz0 hzs hzb bg e4 dx dz cur aj ROW
 go_enter Tryz.func71,Tryz.ntmps71
 go_wp2_with (first
  | (at_builtin;refine Lib.wpList_append_run _ rfl _ _ _ _ rfl _ _ rfl rfl _ _ (df _) ?_)
  | (at_builtin;refine wpList_copy_runI _ rfl _ _ 26 26 rfl _ _ rfl rfl (hA _ _) ?_))
 go_region_law_o (refine step_copy_runI rfl _ _ 26 26 rfl _ _ (by simp[Act.eval,Act.put]) (by simp[Act.eval,Act.put]) (dm _ _ _) ?_)
 go_wp2
 go_ret
 exact⟨G,rfl,dh.out,di.out⟩
theorem D5v {β:Type}{w:World}{base:Nat}{ao:Option Addr}{n cap vb i:Nat}{l:List (VL β)}{a:VL β}{x0 x1 x2 x3:Value}(h:Row (ekV β) w base (.slice ao n cap) l)(he:(ekV β).enc a = [x0,x1,x2,x3])(hv:w.heap[vb]?=some (.cells #[x0,x1,x2,x3] 62 (0,0)))
  (ac:(Value.slice ao n cap).ownBlock≠some vb) (hi:i≤l.length) (hlen:(l.length+1)*80≤140737488355328) (hb:base≤w.heap.size) :
  Calls Tryz.prog 71 #[.slice ao n cap,.int .i64 (i:Int),.slice (some ⟨vb,0,none⟩) 1 1] w fun e w'=>∃ q:PV,e = .returned q.v∧(∀ k,q.v.ownBlock=some k→(Value.slice ao n cap).ownBlock=some k∨w.heap.size≤k)∧Row (ekV β) w' base q.v (l.take i++[a]++l.drop i)∧FrB (Value.slice ao n cap).ownBlock.toList w w':=by
 have hn:l.length=n:=by
  obtain⟨ag,cap',e⟩:=h.shape
  cases e;rfl
 rw[hn] at hi hlen
 by_cases he1:i=n
 ·subst he1
  refine(C4t h he hv hlen hb).mono fun e w' ⟨q,h1,h2,h3,h4⟩=>⟨q,h1,h2,?_,h4⟩
  rw[List.take_of_length_le (by omega),List.drop_of_length_le (by omega),List.append_nil]
  exact h3
 ·have hi':i<n:=by omega
  obtain⟨g,rfl⟩:∃ g,ao=some ⟨g,0,none⟩:=by
   rcases h.2 with⟨e,hn0⟩|⟨g,cap',cur,e,_⟩
   ·omega
   ·cases e;exact⟨g,rfl⟩
  by_cases hr:n+1≤cap
  ·exact(B8a h he hv (fun e=>ac (by rw[e];rfl)) hi' hr).mono fun e w' ⟨h1,h2,h3⟩=>⟨(some ⟨g,0,none⟩,n+1,cap),h1,fun k hk=>.inl hk,h2,h3⟩
  ·refine(C0m h he hv hi' (by omega) hlen hb).mono fun e w' ⟨G,h1,h2,h3⟩=>⟨(some ⟨w.heap.size,0,none⟩,n+1,G),h1,fun k hk=>.inr ?_,h2,.of_below h3⟩
   have hk:w.heap.size=k:=by simpa [PV.v,Value.ownBlock] using hk
   omega
end L
end Go.Proofs.YtgaoojpakjjdnaaGreatDoor
