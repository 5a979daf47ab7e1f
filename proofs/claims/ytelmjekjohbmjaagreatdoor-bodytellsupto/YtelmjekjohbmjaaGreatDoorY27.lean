import Derived.Test.YtelmjekjohbmjaaGreatDoorY19
import Derived.Test.YtelmjekjohbmjaaGreatDoorY26
import Derived.Test.YtelmjekjohbmjaaGreatDoorY04
import Derived.Test.YtelmjekjohbmjaaGreatDoorY15
import Derived.Test.YtelmjekjohbmjaaGreatDoorY14
import Derived.Test.YtelmjekjohbmjaaGreatDoorY11
import Derived.Test.YtelmjekjohbmjaaGreatDoorY12
import Derived.Deep.LoopGhost
namespace Go.Proofs.YtelmjekjohbmjaaGreatDoor
namespace L
open Go.RowKit
set_option linter.unusedVariables false
structure WIn (g:GI) (am:Option Addr) (nm cm:Nat) (ae:Option Addr) (ne ce:Nat) (msg:Int) (w:World):Prop where
 hg:GRd w (.slice am nm cm) (.slice ae ne ce) g
 n1:g.msgs.length≤140737488355328
 n2:g.enums.length≤140737488355328
 fit:Fits g
 fok:∀ M∈g.msgs,(∀ f∈M.fields,I64 f.number∧I64 f.choice)∧M.fields.length≤140737488355328
 tabs:Tabs w
 m1 : -9223372036854775808≤msg
 m2:msg≤9223372036854775807
theorem WIn.below {g:GI}{am:Option Addr}{nm cm:Nat}{ae:Option Addr}{ne ce:Nat}{msg:Int}{w w':World}(h:WIn g am nm cm ae ne ce msg w) (hb:Below w.heap.size w w'):WIn g am nm cm ae ne ce msg w':=⟨h.hg.below hb,h.n1,h.n2,h.fit,h.fok,h.tabs.below hb,h.m1,h.m2⟩
theorem WIn.wrong {g:GI}{am:Option Addr}{nm cm:Nat}{ae:Option Addr}{ne ce:Nat}{msg:Int}{w:World}(h:WIn g am nm cm ae ne ce msg w){d:Nat}{v0 v1:Value}{x:BI (d+1)}(hq:BRd d w v0 v1 x) (hok:BOk (d+1) x) :
  Calls Tryz.prog 8 #[.agg #[.slice am nm cm,.slice ae ne ce],.int .i64 msg,.agg #[v0,v1]] w fun r w'=>r = .returned (.int .i64 (A0z g d msg x))∧Below w.heap.size w w':=A8u h.hg h.n1 h.n2 h.fit hq hok h.tabs h.m1 h.m2
set_option maxHeartbeats 1000000 in
set_option maxRecDepth 100000 in
theorem A8i {g:GI}{am:Option Addr}{nm cm:Nat}{ae:Option Addr}{ne ce:Nat}{msg:Int}{w:World}(hI:WIn g am nm cm ae ne ce msg w){c cx:Nat}(hc:w.heap[c]?=some (.cells #[.slice am nm cm,.slice ae ne ce] 25 (0,0))) (hx:w.heap[cx]?=some (.cells #[.int .i64 msg] 3 (0,0))){d:Nat}{a0 a1:Option Addr}{n0 c0 n1 c1:Nat}{x:BI (d+1)}(hq:BRd d w (.slice a0 n0 c0) (.slice a1 n1 c1) x) (hok:BOk (d+1) x) :
  Calls Tryz.prog 33 #[.agg #[.slice a0 n0 c0,.slice a1 n1 c1],.pointer (some ⟨c,0,none⟩),.pointer (some ⟨cx,0,none⟩)] w fun e w'=>e = .returned (.int .i64 (A0z g d msg x))∧Below w.heap.size w w':=by
 have hb1:Below w.heap.size w (w.alloc (.cells #[.slice a0 n0 c0,.slice a1 n1 c1] 29)):=(Below.refl _ _).alloc (Nat.le_refl _) _
 have hcl:=(Array.getElem?_eq_some_iff.1 hc).1
 have hxl:=(Array.getElem?_eq_some_iff.1 hx).1
 obtain⟨k0,k1⟩:=A0x ((hb1.block c hcl).trans hc)
 have k3:(w.alloc (.cells #[.slice a0 n0 c0,.slice a1 n1 c1] 29)).cell? ⟨cx,0,none⟩=some (.int .i64 msg):=A0a ((hb1.block cx hxl).trans hx) 0 _ rfl
 have hd:=(hI.below hb1).wrong (hq.below hb1) hok
 clear hq hc hx hI
 go_enter Tryz.func33,Tryz.ntmps33
 go_wp2_with fail
 refine hd.mono ?_
 rintro e w1 ⟨rfl,hb2⟩
 go_wp2
 go_ret
 exact⟨rfl,hb1.trans (hb2.mono hb1.size)⟩
set_option maxHeartbeats 1000000 in
set_option maxRecDepth 100000 in
theorem B6d {g:GI}{am:Option Addr}{nm cm:Nat}{ae:Option Addr}{ne ce:Nat}{msg:Int}{w:World}(hI:WIn g am nm cm ae ne ce msg w){c cx:Nat}(hc:w.heap[c]?=some (.cells #[.slice am nm cm,.slice ae ne ce] 25 (0,0))) (hx:w.heap[cx]?=some (.cells #[.int .i64 msg] 3 (0,0))){d:Nat}{v:Value}{l:List (BI (d+1))}(h:RdL 2 (BAt (d+1)) w v l) (hok:∀ s∈l,BOk (d+1) s) :
  Calls Tryz.prog 34 #[v,.func (.func 33) #[] #[.pointer (some ⟨c,0,none⟩),.pointer (some ⟨cx,0,none⟩)]] w fun e w'=>e = .returned (.int .i64 (A0g (A0z g d msg) l))∧Below w.heap.size w w':=by
 obtain⟨ao,n,cap,rfl,Hn,hcap⟩:=h.shape
 obtain⟨R,HR⟩:∃ R,Hid (R=A0g (A0z g d msg) l):=⟨_,rfl⟩
 rw[←HR.out]
 go_enter Tryz.func34,Tryz.ntmps34
 go_wp2_with fail
 go_loopg [10] n (fun m i wr=>∃ k:Nat,k+m=n∧i = .int .i64 k∧Hid (R=A0g (A0z g d msg) (l.drop k))∧Below w.heap.size w wr)
 case atStart=>exact⟨0,by omega,rfl,HR,Below.refl _ _⟩
 case round=>
  obtain⟨k,hk,rfl,HK,hb⟩:=hrel
  have hcr:=(hb.block c (Array.getElem?_eq_some_iff.1 hc).1).trans hc
  have hxr:=(hb.block cx (Array.getElem?_eq_some_iff.1 hx).1).trans hx
  by_cases hlt:k < n
  ·obtain⟨a,Ha⟩:∃ a,Hid (l[k]?=some a):=⟨l[k]'(by rw[←Hn.out];exact hlt),List.getElem?_eq_getElem (by rw[←Hn.out];exact hlt)⟩
   obtain⟨b,off,rfl,hat⟩:=(h.below (BAt.stays (d+1)) hb).get (BAt.plain (d+1)) Ha.out
   obtain⟨v0,v1,s0,s1,hq⟩:=BQ.of (d+1) hat
   obtain⟨a0,n0,c0,a1,n1,c1,rfl,rfl⟩:=hq.shape
   have hki:(k:Int) < (n:Int):=by omega
   obtain⟨W1,HW1⟩:∃ W1,Hid (W1=wr.alloc (.cells #[.slice a0 n0 c0,.slice a1 n1 c1] 29)):=⟨_,rfl⟩
   have hb1:Below wr.heap.size wr W1:=by rw[HW1.out];exact(Below.refl _ _).alloc (Nat.le_refl _) _
   have hbw1:Below w.heap.size w W1:=hb.trans (hb1.mono hb.size)
   have hcall:=A8i (hI.below hbw1) ((hb1.block c (Array.getElem?_eq_some_iff.1 hcr).1).trans hcr) ((hb1.block cx (Array.getElem?_eq_some_iff.1 hxr).1).trans hxr) (show BRd d W1 _ _ a from hq.below hb1) (hok a (A1m Ha.out))
   have hst:=A2r (f:=A0z g d msg) Ha.out
   generalize hF:A0z g d msg a=F at hcall hst
   clear hq
   by_cases hz:F=0
   ·have HX:Hid (R=A0g (A0z g d msg) (l.drop (k+1))):=by
     show _=_
     rw[HK.out,hst,if_pos hz]
    have ez:(F != 0)=false:=by simp[hz]
    clear hst hF hz hat
    go_wp2_with fail
    rw[←HW1.out]
    refine hcall.mono ?_
    rintro e w1 ⟨rfl,hb2⟩
    go_wp2_with fail
    go_roundg (n - (k+1))
    case measure=>omega
    case rel=>exact⟨k+1,by omega,by go_num,HX,hbw1.trans (hb2.mono hbw1.size)⟩
   ·have HX:Hid (R=F):=by
     show _=_
     rw[HK.out,hst,if_neg hz]
    have ez:(F != 0)=true:=by simpa using hz
    clear hst hF hz hat
    go_wp2_with fail
    rw[←HW1.out]
    refine hcall.mono ?_
    rintro e w1 ⟨rfl,hb2⟩
    go_wp2
    go_ret
    exact⟨by rw[HX.out];rfl,hbw1.trans (hb2.mono hbw1.size)⟩
  ·have HX:Hid (R=0):=by
    show _=_
    rw[HK.out]
    exact A2b (by rw[←Hn.out];omega)
   go_wp2
   go_ret
   exact⟨by rw[HX.out];rfl,hb⟩
end L
end Go.Proofs.YtelmjekjohbmjaaGreatDoor
namespace Go.Proofs.YtelmjekjohbmjaaGreatDoor
open Go.RowKit
theorem C1q {W:World}{am:Option Addr}{nm cm:Nat}{ae:Option Addr}{ne ce:Nat}{g:L.GI}(hg:L.GRd W (.slice am nm cm) (.slice ae ne ce) g) (hok:L.GOk g) (hT:L.Tabs W){msg:Int}(z:L.I64 msg):L.WIn g am nm cm ae ne ce msg W:=by
 obtain⟨h1,h2,h3,h4⟩:=hok
 refine⟨hg,by unfold reachBytes at h3;omega,by unfold reachBytes at h4;omega,L.GOk.fits ⟨h1,h2,h3,h4⟩,fun M hM=>?_,hT,z.1,z.2⟩
 obtain⟨_,hf,_,hl,_⟩:=h1 M hM
 exact⟨fun f hff=>⟨(hf f hff).2.2.1,(hf f hff).2.2.2.2⟩,by unfold reachBytes at hl;omega⟩
end Go.Proofs.YtelmjekjohbmjaaGreatDoor
namespace Go.Proofs.YtelmjekjohbmjaaGreatDoor
namespace L
open Go.RowKit
set_option linter.unusedVariables false
section
variable {β:Type}
def A3l (fs:List FI) (x:FI) (y:VI β):Bool→List (VI β)→List (VI β)
 | put,[]=>if put then [y] else []
 | put,a::l=>(if put&&decide (y.number < a.number) then [y] else [])++((if A0m fs x a.number then [] else [a])++A3l fs x y (put&&!decide (y.number < a.number)) l)
theorem A5c {fs:List FI}{x:FI}{y:VI β}:∀ l:List (VI β),A3l fs x y false l=l.filter fun a=>!A0m fs x a.number
 | []=>rfl
 | a::l=>by
  unfold A3l
  rw[Bool.false_and,Bool.false_and,A5c l,List.filter_cons]
  cases A0m fs x a.number <;> rfl
theorem B6s {y:VI β}{l:List (VI β)}(h:∀ a∈l,y.number < a.number):A0w y.number l=0:=by
 cases l with
 | nil=>rfl
 | cons a l=>
  unfold A0w
  rw[List.findIdx?_cons,if_pos (by simpa using h a (List.mem_cons_self ..))]
  rfl
theorem B4j {y a:VI β}{l:List (VI β)}(h:¬ y.number < a.number):A0w y.number (a::l)=A0w y.number l+1:=by
 unfold A0w
 rw[List.findIdx?_cons,if_neg (by simpa using h)]
 cases l.findIdx? fun v=>decide (y.number < v.number) with
 | none=>rfl
 | some k=>rfl
theorem A8q {fs:List FI}{x:FI}{y:VI β}:∀ {l:List (VI β)},(l.Pairwise fun a b=>a.number < b.number)→
  A3l fs x y true l=(l.filter fun a=>!A0m fs x a.number).take (A0w y.number (l.filter fun a=>!A0m fs x a.number))++[y]++(l.filter fun a=>!A0m fs x a.number).drop (A0w y.number (l.filter fun a=>!A0m fs x a.number))
 | [],_=>rfl
 | a::l,h=>by
  have h1:=(List.pairwise_cons.1 h).1
  have h2:=(List.pairwise_cons.1 h).2
  by_cases hlt:y.number < a.number
  ·have hall:∀ b∈(a::l).filter (fun a=>!A0m fs x a.number),y.number < b.number:=by
    intro b hb
    rcases List.mem_cons.1 (List.mem_filter.1 hb).1 with rfl|hb
    ·exact hlt
    ·have:=h1 b hb;omega
   rw[B6s hall]
   unfold A3l
   rw[decide_eq_true hlt,Bool.true_and,if_pos rfl,Bool.not_true,Bool.and_false,A5c,List.filter_cons]
   cases A0m fs x a.number <;> rfl
  ·unfold A3l
   rw[decide_eq_false hlt,Bool.and_false,Bool.not_false,Bool.and_true,A8q h2,List.filter_cons]
   cases A0m fs x a.number with
   | true=>rfl
   | false=>
    simp only[Bool.not_false,if_true,Bool.false_eq_true,if_false,List.nil_append]
    rw[B4j hlt,List.take_succ_cons,List.drop_succ_cons]
    rfl
theorem B0p {fs:List FI}{x:FI}{y:VI β}{l:List (VI β)}(h:l.Pairwise fun a b=>a.number < b.number):A3l fs x y (!A0u x y) l=A6d fs x l y:=by
 unfold A6d
 cases A0u x y with
 | true=>rw[if_pos rfl];exact A5c l
 | false=>rw[if_neg (by simp)];exact A8q h
theorem B9m {fs:List FI}{x:FI}{y a:VI β}{l:List (VI β)}{k:Nat}(p:Bool) (h:l[k]?=some a):A3l fs x y p (l.drop k)=(if p&&decide (y.number < a.number) then [y] else [])++((if A0m fs x a.number then [] else [a])++A3l fs x y (p&&!decide (y.number < a.number)) (l.drop (k+1))):=by
 obtain⟨hk,rfl⟩:=List.getElem?_eq_some_iff.1 h
 rw[List.drop_eq_getElem_cons hk]
 rfl
theorem B0o {fs:List FI}{x:FI}{y:VI β}:∀ (p:Bool) (l:List (VI β)),(A3l fs x y p l).length≤l.length+if p then 1 else 0
 | p,[]=>by cases p <;> simp[A3l]
 | p,a::l=>by
  have:=B0o (fs:=fs) (x:=x) (y:=y) (p&&!decide (y.number < a.number)) l
  unfold A3l
  revert this
  generalize decide (y.number < a.number)=D
  intro this
  cases p <;> cases D <;> cases A0m fs x a.number <;> simp at this ⊢ <;> omega
theorem B9f {fs:List FI}{x:FI}{n m:Int}(hx:fs.find? (isF n)=some x):A0m fs x m=(decide (m=n)||(decide (0 < x.choice)&&match fs.find? (fun f=>decide (f.number=m)) with|some z=>decide (z.choice=x.choice)|none=>false)):=by
 have hn:=A6p hx
 unfold A0m
 by_cases hc:x.choice≤0
 ·rw[if_pos hc,hn,decide_eq_false (by omega:¬ 0 < x.choice),Bool.false_and,Bool.or_false]
 ·rw[if_neg hc,decide_eq_true (by omega:0 < x.choice),Bool.true_and]
  by_cases e:m=n
  ·subst e
   have:fs.find? (fun f=>decide (f.number=m))=some x:=hx
   unfold A1o
   rw[this]
   simp
  ·rw[decide_eq_false e,Bool.false_or]
   unfold A1o
   cases fs.find? (fun f=>decide (f.number=m)) with
   | none=>exact decide_eq_false fun e=>by have e:(0:Int)=x.choice:=e;omega
   | some z=>rfl
end
end L
end Go.Proofs.YtelmjekjohbmjaaGreatDoor
namespace Go.Proofs.YtelmjekjohbmjaaGreatDoor
namespace L
open Go.RowKit
set_option linter.unusedVariables false
def A1s {β:Type}(x:FI) (v:VI β):Bool:=
 if x.many=true∨0 < x.choice∨x.kind=10 then false
 else decide (v.bits = [0])||decide (v.bytes = [[]])
theorem A4a {β:Type}{x:FI}{v:VI β}(h:x.many=false→A4j v=1):A1s x v=A0u x v:=by
 unfold A1s A0u
 by_cases c:x.many=true∨0 < x.choice∨x.kind=10
 ·rw[if_pos c,if_pos c]
 ·rw[if_neg c,if_neg c,if_neg]
  have:x.many=false:=by
   cases hm:x.many with
   | false=>rfl
   | true=>exact absurd (.inl hm) c
  simp[h this]
set_option maxHeartbeats 2000000 in
set_option maxRecDepth 100000 in
theorem A8n {β:Type}{P:World→Addr→β→Prop}{w:World}{bx ox:Nat}{x:FI}(hx:FAt w ⟨bx,ox,none⟩ x) (v:VI β){a1 a2 a3:Option Addr}{n1 n2 n3 c1 c2 c3:Nat}(h1:RdL 1 UAt w (.slice a1 n1 c1) v.bits) (h2:RdL 1 ZAt w (.slice a2 n2 c2) v.bytes) :
  Calls Tryz.prog 40 #[.pointer (some ⟨bx,ox,none⟩),.agg #[.int .i64 v.number,.slice a1 n1 c1,.slice a2 n2 c2,.slice a3 n3 c3]] w fun e w'=>e = .returned (.bool (A1s x v))∧Below w.heap.size w w':=by
 have hb:Below w.heap.size w (w.alloc (.cells #[.int .i64 v.number,.slice a1 n1 c1,.slice a2 n2 c2,.slice a3 n3 c3] 34)):=(Below.refl _ _).alloc (Nat.le_refl _) _
 obtain⟨y0,y1,y2,y3,y4,y5⟩:=FAt.stays _ _ _ _ hb hx
 rw[A0j] at y1 y2 y3 y4 y5
 have r1:=h1.below UAt.stays hb
 have r2:=h2.below ZAt.stays hb
 have l1:n1=v.bits.length:=h1.len.1
 have l2:n2=v.bytes.length:=h2.len.1
 cases hm:x.many with
 | true=>
  have HR:Hid (A1s x v=false):=by show _=_;unfold A1s;rw[if_pos (.inl hm)]
  rw[hm] at y4
  clear l1 l2 r1 r2
  go_enter Tryz.func40,Tryz.ntmps40
  go_wp2
  go_ret
  exact⟨by rw[HR.out];rfl,hb⟩
 | false=>
  rw[hm] at y4
  by_cases hc:0 < x.choice
  ·have e1:decide (0 < x.choice)=true:=decide_eq_true hc
   have HR:Hid (A1s x v=false):=by show _=_;unfold A1s;rw[if_pos (.inr (.inl hc))]
   clear l1 l2 r1 r2 hc
   go_enter Tryz.func40,Tryz.ntmps40
   go_wp2
   go_ret
   exact⟨by rw[HR.out];rfl,hb⟩
  ·have e1:decide (0 < x.choice)=false:=decide_eq_false hc
   by_cases hk:x.kind=10
   ·have e2:(x.kind == 10)=true:=beq_iff_eq.2 hk
    have HR:Hid (A1s x v=false):=by show _=_;unfold A1s;rw[if_pos (.inr (.inr hk))]
    clear l1 l2 r1 r2 hc hk
    go_enter Tryz.func40,Tryz.ntmps40
    go_wp2
    go_ret
    exact⟨by rw[HR.out];rfl,hb⟩
   ·have e2:(x.kind == 10)=false:=beq_eq_false_iff_ne.2 hk
    have HE:Hid (A1s x v=(decide (v.bits = [0])||decide (v.bytes = [[]]))):=by
     show _=_
     unfold A1s
     rw[if_neg]
     rintro(h|h|h)
     ·rw[hm] at h;cases h
     ·exact hc h
     ·exact hk h
    clear hc hk
    have hbits:(n1=1∧∃ (b:Nat) (o u:Nat),a1=some ⟨b,o,none⟩∧v.bits = [u]∧(w.alloc (.cells #[.int .i64 v.number,.slice a1 n1 c1,.slice a2 n2 c2,.slice a3 n3 c3] 34)).cell? ⟨b,o,none⟩=some (.int .u64 (u:Int)))∨(n1≠1∧decide (v.bits = [0])=false):=by
     by_cases h:n1=1
     ·left
      obtain⟨u,hu⟩:=List.length_eq_one_iff.1 (by rw[←l1];exact h:v.bits.length=1)
      obtain⟨b,o,e,hy⟩:=r1.get UAt.plain (k:=0) (a:=u) (by rw[hu];rfl)
      exact⟨h,b,o,u,e,hu,by simpa [UAt] using hy⟩
     ·refine .inr ⟨h,decide_eq_false fun e=>h ?_⟩
      rw[l1,e];rfl
    have hbyts:(n2=1∧∃ (b o:Nat) (ay:Option Addr) (ny cy:Nat) (z:List UInt8),a2=some ⟨b,o,none⟩∧v.bytes = [z]∧ny=z.length∧(w.alloc (.cells #[.int .i64 v.number,.slice a1 n1 c1,.slice a2 n2 c2,.slice a3 n3 c3] 34)).cell? ⟨b,o,none⟩=some (.slice ay ny cy))∨(n2≠1∧decide (v.bytes = [[]])=false):=by
     by_cases h:n2=1
     ·left
      obtain⟨z,hz⟩:=List.length_eq_one_iff.1 (by rw[←l2];exact h:v.bytes.length=1)
      obtain⟨b,o,e,vy,hy1,hy2⟩:=r2.get ZAt.plain (k:=0) (a:=z) (by rw[hz];rfl)
      obtain⟨ay,ny,cy,rfl,Hny,_⟩:=hy2.shape
      exact⟨h,b,o,ay,ny,cy,z,e,hz,Hny.out,by simpa using hy1⟩
     ·refine .inr ⟨h,decide_eq_false fun e=>h ?_⟩
      rw[l2,e];rfl
    clear l1 l2 r1 r2
    rcases hbits with⟨rfl,b1,o1,u,rfl,hu,hcu⟩|⟨hn1,hd1⟩
    ·by_cases hu0:u=0
     ·subst hu0
      have HR:Hid (A1s x v=true):=by
       show _=_
       rw[HE.out,hu]
       simp
      clear hbyts hu
      go_enter Tryz.func40,Tryz.ntmps40
      go_wp2
      go_ret
      exact⟨by rw[HR.out];rfl,hb⟩
     ·have e4:((u:Int) == 0)=false:=by simp;omega
      have hd1:decide (v.bits = [0])=false:=decide_eq_false fun e=>hu0 (by rw[hu] at e;simpa using e)
      clear hu hu0
      rcases hbyts with⟨rfl,b2,o2,ay,ny,cy,z,rfl,hz,hny,hcz⟩|⟨hn2,hd2⟩
      ·by_cases hz0:ny=0
       ·have e5:((ny:Int) == 0)=true:=by simp;omega
        have HR:Hid (A1s x v=true):=by
         show _=_
         have:z = []:=List.eq_nil_of_length_eq_zero (by omega)
         rw[HE.out,hz,this]
         simp
        clear hny hz hz0
        go_enter Tryz.func40,Tryz.ntmps40
        go_wp2
        go_ret
        exact⟨by rw[HR.out];rfl,hb⟩
       ·have e5:((ny:Int) == 0)=false:=by simp;omega
        have HR:Hid (A1s x v=false):=by
         show _=_
         rw[HE.out,hd1,hz,Bool.false_or]
         refine decide_eq_false fun e=>hz0 ?_
         have:z = []:=by simpa using e
         rw[hny,this]
         rfl
        clear hny hz hz0
        go_enter Tryz.func40,Tryz.ntmps40
        go_wp2
        go_ret
        exact⟨by rw[HR.out];rfl,hb⟩
      ·have e5:((n2:Int) == 1)=false:=by simp;omega
       have HR:Hid (A1s x v=false):=by
        show _=_
        rw[HE.out,hd1,hd2]
        rfl
       clear hn2
       go_enter Tryz.func40,Tryz.ntmps40
       go_wp2
       go_ret
       exact⟨by rw[HR.out];rfl,hb⟩
    ·have e3:((n1:Int) == 1)=false:=by simp;omega
     clear hn1
     rcases hbyts with⟨rfl,b2,o2,ay,ny,cy,z,rfl,hz,hny,hcz⟩|⟨hn2,hd2⟩
     ·by_cases hz0:ny=0
      ·have e5:((ny:Int) == 0)=true:=by simp;omega
       have HR:Hid (A1s x v=true):=by
        show _=_
        have:z = []:=List.eq_nil_of_length_eq_zero (by omega)
        rw[HE.out,hz,this]
        simp
       clear hny hz hz0
       go_enter Tryz.func40,Tryz.ntmps40
       go_wp2
       go_ret
       exact⟨by rw[HR.out];rfl,hb⟩
      ·have e5:((ny:Int) == 0)=false:=by simp;omega
       have HR:Hid (A1s x v=false):=by
        show _=_
        rw[HE.out,hd1,hz,Bool.false_or]
        refine decide_eq_false fun e=>hz0 ?_
        have:z = []:=by simpa using e
        rw[hny,this]
        rfl
       clear hny hz hz0
       go_enter Tryz.func40,Tryz.ntmps40
       go_wp2
       go_ret
       exact⟨by rw[HR.out];rfl,hb⟩
     ·have e5:((n2:Int) == 1)=false:=by simp;omega
      have HR:Hid (A1s x v=false):=by
       show _=_
       rw[HE.out,hd1,hd2]
       rfl
      clear hn2
      go_enter Tryz.func40,Tryz.ntmps40
      go_wp2
      go_ret
      exact⟨by rw[HR.out];rfl,hb⟩
set_option maxHeartbeats 2000000 in
set_option maxRecDepth 100000 in
theorem A4d {nm vb:Value}{ao:Option Addr}{n cap:Nat}{l:List FI}{w:World}(h:RdL 6 FAt w (.slice ao n cap) l) (hvb:∃ ao n cap,vb = .slice ao n cap) (hnm:∃ s:List UInt8,nm = .string (S s)) (num:Int) (hno:∀ a∈l,decide (a.number=num)=false) :
  Calls Tryz.prog 17 #[.agg #[nm,.slice ao n cap,vb],.int .i64 num] w fun e w'=>e = .returned (.pointer none)∧Below w.heap.size w w':=by
 obtain⟨_,_,_,e0,Hn,hcap⟩:=h.shape
 cases e0
 obtain⟨ae,ne,ce,rfl⟩:=hvb
 obtain⟨s,rfl⟩:=hnm
 obtain⟨W0,HW0⟩:∃ W0,Hid (W0=w.alloc (.cells #[.string (S s),.slice ao n cap,.slice ae ne ce] 48)):=⟨_,rfl⟩
 have hb0:Below w.heap.size w W0:=by rw[HW0.out];exact(Below.refl _ _).alloc (Nat.le_refl _) _
 have x0:W0.heap[w.heap.size]?=some (.cells #[.string (S s),.slice ao n cap,.slice ae ne ce] 48 (0,0)):=by rw[HW0.out];exact heap_alloc_new _ _
 obtain⟨t0,t1,t2⟩:=A6o x0
 go_enter Tryz.func17,Tryz.ntmps17
 go_wp2_with fail
 rw[←HW0.out]
 go_loopg [9] n (fun m i wr=>∃ k:Nat,k+m=n∧i = .int .i64 k∧W0=wr)
 case atStart=>exact⟨0,by omega,rfl,rfl⟩
 case round=>
  obtain⟨k,hk,rfl,rfl⟩:=hrel
  by_cases hlt:k < n
  ·obtain⟨a,Ha⟩:∃ a,Hid (l[k]?=some a):=⟨l[k]'(by rw[←Hn.out];exact hlt),List.getElem?_eq_getElem (by rw[←Hn.out];exact hlt)⟩
   obtain⟨b',off',e',hat⟩:=(h.below FAt.stays hb0).get FAt.plain Ha.out
   subst e'
   obtain⟨s0,s1,s2,s3,s4,s5⟩:=hat.at
   have hki:(k:Int) < (n:Int):=by omega
   clear hat
   have hqb:(a.number == num)=false:=by simpa using hno a (List.mem_of_getElem? Ha.out)
   go_wp2_with fail
   go_roundg (n - (k+1))
   case measure=>omega
   case rel=>exact⟨k+1,by omega,by go_num,rfl⟩
  ·go_wp2
   go_ret
   exact⟨rfl,hb0⟩
end L
end Go.Proofs.YtelmjekjohbmjaaGreatDoor
namespace Go.Proofs.YtelmjekjohbmjaaGreatDoor
namespace L
open Go.RowKit
set_option linter.unusedVariables false
theorem A3v {nm vb:Value}{ao:Option Addr}{n cap:Nat}{l:List FI}{w:World}(h:RdL 6 FAt w (.slice ao n cap) l) (hvb:∃ ao n cap,vb = .slice ao n cap) (hnm:∃ s:List UInt8,nm = .string (S s)) (num:Int){j:Nat}{f:FI}(hj:l[j]?=some f) (hf:f.number=num) (hno:∀ a∈l.take j,decide (a.number=num)=false) :
  Calls Tryz.prog 17 #[.agg #[nm,.slice ao n cap,vb],.int .i64 num] w fun e w'=>(∃ b off,ao=some ⟨b,off,none⟩∧e = .returned (.pointer (some ⟨b,off+j*6,none⟩)))∧Below w.heap.size w w':=by
 obtain⟨_,_,_,e0,Hn,hcap⟩:=h.shape
 cases e0
 obtain⟨ae,ne,ce,rfl⟩:=hvb
 obtain⟨s,rfl⟩:=hnm
 have hjl:j < n:=by rw[Hn.out];exact(List.getElem?_eq_some_iff.1 hj).1
 obtain⟨b,off,rfl,_⟩:=h.get FAt.plain hj
 obtain⟨W0,HW0⟩:∃ W0,Hid (W0=w.alloc (.cells #[.string (S s),.slice (some ⟨b,off,none⟩) n cap,.slice ae ne ce] 48)):=⟨_,rfl⟩
 have hb0:Below w.heap.size w W0:=by rw[HW0.out];exact(Below.refl _ _).alloc (Nat.le_refl _) _
 have x0:W0.heap[w.heap.size]?=some (.cells #[.string (S s),.slice (some ⟨b,off,none⟩) n cap,.slice ae ne ce] 48 (0,0)):=by rw[HW0.out];exact heap_alloc_new _ _
 obtain⟨t0,t1,t2⟩:=A6o x0
 go_enter Tryz.func17,Tryz.ntmps17
 go_wp2_with fail
 rw[←HW0.out]
 go_loopg [9] n (fun m i wr=>∃ k:Nat,k+m=n∧i = .int .i64 k∧k≤j∧W0=wr)
 case atStart=>exact⟨0,by omega,rfl,by omega,rfl⟩
 case round=>
  obtain⟨k,hk,rfl,hkj,rfl⟩:=hrel
  have hlt:k < n:=by omega
  obtain⟨a,Ha⟩:∃ a,Hid (l[k]?=some a):=⟨l[k]'(by rw[←Hn.out];exact hlt),List.getElem?_eq_getElem (by rw[←Hn.out];exact hlt)⟩
  obtain⟨b',off',e',hat⟩:=(h.below FAt.stays hb0).get FAt.plain Ha.out
  cases e'
  obtain⟨s0,s1,s2,s3,s4,s5⟩:=hat.at
  have hki:(k:Int) < (n:Int):=by omega
  clear hat
  by_cases hkj':k=j
  ·subst hkj'
   have hfa:a=f:=by have:=Ha.out.symm.trans hj;simpa using this
   have hqb:(a.number == num)=true:=by rw[hfa];simpa using hf
   clear hfa
   go_wp2
   go_ret
   exact⟨⟨b,off,rfl,rfl⟩,hb0⟩
  ·have hq:=hno a (List.mem_of_getElem? (i:=k) (by rw[List.getElem?_take,if_pos (by omega)];exact Ha.out))
   have hqb:(a.number == num)=false:=by simpa using hq
   clear hq
   go_wp2_with fail
   go_roundg (n - (k+1))
   case measure=>omega
   case rel=>exact⟨k+1,by omega,by go_num,by omega,rfl⟩
end L
end Go.Proofs.YtelmjekjohbmjaaGreatDoor
namespace Go.Proofs.YtelmjekjohbmjaaGreatDoor
namespace L
open Go.RowKit
set_option linter.unusedVariables false
def Sub (u w:World):Prop:=∀ x v,u.cell? x=some v→w.cell? x=some v
theorem Sub.refl (u:World):Sub u u:=fun _ _ h=>h
theorem Sub.trans {a b c:World}(h:Sub a b) (k:Sub b c):Sub a c:=fun x v e=>k x v (h x v e)
theorem Sub.of {w w':World}(h:Below w.heap.size w w'):Sub w w':=fun _ _ e=>A0c h e
def A9p {α:Type}(P:World→Addr→α→Prop):Prop:=∀ (w w':World) (x:Addr) (a : α),Sub w w'→P w x a→P w' x a
theorem RdL.sub {α:Type}{sz:Nat}{P:World→Addr→α→Prop}(hP:A9p P){w w':World}{v:Value}{l:List α}(h:RdL sz P w v l) (hb:Sub w w'):RdL sz P w' v l:=by
 obtain⟨ao,n,cap,rfl,h1,h2,h3,h4,h5⟩:=h
 exact⟨ao,n,cap,rfl,h1,h2,h3,h4,fun x hx k a ha=>hP w w' _ a hb (h5 x hx k a ha)⟩
theorem UAt.grows:A9p UAt:=fun _ _ _ _ hb h=>hb _ _ h
theorem YAt.grows:A9p YAt:=fun _ _ _ _ hb h=>hb _ _ h
theorem ZAt.grows:A9p ZAt:=fun _ _ _ _ hb ⟨v,h1,h2⟩=>⟨v,hb _ _ h1,h2.sub YAt.grows hb⟩
theorem RAt.grows:A9p RAt:=fun _ _ _ _ hb ⟨v,h1,h2,h3,h4,h5⟩=>⟨v,hb _ _ h1,hb _ _ h2,hb _ _ h3,hb _ _ h4,h5.sub YAt.grows hb⟩
theorem VAt.grows {β:Type}{P:World→Addr→β→Prop}(hP:A9p P):A9p (VAt P):=fun _ _ _ _ hb ⟨v1,v2,v3,h1,h2,h3,h4,h5,h6,h7⟩=>⟨v1,v2,v3,hb _ _ h1,hb _ _ h2,hb _ _ h3,hb _ _ h4,h5.sub UAt.grows hb,h6.sub ZAt.grows hb,h7.sub hP hb⟩
theorem BAt.grows:∀ d,A9p (BAt d)
 | 0=>fun _ _ _ _ _ h=>h
 | d+1=>fun _ _ _ _ hb ⟨v0,v1,h1,h2,h3,h4⟩=>⟨v0,v1,hb _ _ h1,hb _ _ h2,h3.sub (VAt.grows (BAt.grows d)) hb,h4.sub RAt.grows hb⟩
theorem BRd.sub {d:Nat}{w w':World}{v0 v1:Value}{b:BO (BI d)}(h:BRd d w v0 v1 b) (hb:Sub w w'):BRd d w' v0 v1 b:=⟨h.1.sub (VAt.grows (BAt.grows d)) hb,h.2.sub RAt.grows hb⟩
theorem BQ.sub:∀ (d:Nat){w w':World}{v0 v1:Value}{b:BI d},BQ d w v0 v1 b→Sub w w'→BQ d w' v0 v1 b
 | 0,_,_,_,_,_,h,_=>h
 | _+1,_,_,_,_,_,h,hb=>BRd.sub h hb
structure Over (u w w' u':World):Prop where
 sub:Sub u u'
 new:∀ k,w.heap.size≤k→k < w'.heap.size→u'.heap[k]?=w'.heap[k]?
theorem Over.self {w w':World}(h:Below w.heap.size w w'):Over w w w' w':=⟨Sub.of h,fun _ _ _=>rfl⟩
theorem Row.over {α:Type}{E:EK α}{u w w' u':World}{base:Nat}{v:Value}{l:List α}(h:Row E w' base v l) (ho:Over u w w' u') (hb:w.heap.size≤base):Row E u' base v l:=h.keep fun k hk hl=>ho.new k (Nat.le_trans hb hk) hl
theorem Over.back {u w w' u' v v':World}(h:Over u w w' u') (hv:w.heap.size≤v.heap.size) (hs:v'.heap.size≤w'.heap.size) (hb:∀ k,v.heap.size≤k→k < v'.heap.size→w'.heap[k]?=v'.heap[k]?):Over u v v' u':=
 ⟨h.sub,fun k h1 h2=>(h.new k (by omega) (by omega)).trans (hb k h1 h2)⟩
theorem BQ.at:∀ (d:Nat){w:World}{v0 v1:Value}{x:BI d}{g i:Nat},BQ d w v0 v1 x→w.cell? ⟨g,i,none⟩=some v0→w.cell? ⟨g,i+1,none⟩=some v1→BAt d w ⟨g,i,none⟩ x
 | 0,_,_,_,_,_,_,h,_,_=>h
 | _+1,_,_,_,_,_,_,h,h0,h1=>⟨_,_,h0,by rw[A0j];exact h1,h.1,h.2⟩
theorem BQ.shapeT:∀ (d:Nat){w:World}{v0 v1:Value}{x:BI d},BQ d w v0 v1 x→∃ a0 n0 c0 a1 n1 c1,v0 = .slice a0 n0 c0∧v1 = .slice a1 n1 c1
 | 0,_,_,_,_,h=>h.elim
 | _+1,_,_,_,_,h=>BRd.shape h
end L
end Go.Proofs.YtelmjekjohbmjaaGreatDoor
