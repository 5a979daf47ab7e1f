import Derived.Test.YtcagbdokbnpdfaaGreatDoorZ01
import Derived.Maps.OwnOps
import Derived.Maps.Views
import Derived.Maps.OwnSet
import Derived.Test.YtcagbdokbnpdfaaGreatDoorZ00
import Derived.Deep.RegionLaw
namespace Go.Proofs.YtcagbdokbnpdfaaGreatDoor
namespace L
open Go.RowKit Go.WideMaps Go.Maps
theorem C5c:Keyed Tryz.prog 3:=int_keyed Tryz.underlying3
theorem D4e (w:World):(zeroValue 3).run Tryz.prog w = .ok (.int .i64 0) w:=by kernel_rfl
abbrev OwnM (w:World) (b n:Nat) (D:DataW Unit):Prop:=w.ownsMap Tryz.prog 3 (plainElem (H:=Unit) Tryz.prog 3) b n D
theorem OwnM.below {w w':World}{b n:Nat}{D:DataW Unit}(h:OwnM w b n D) (hb:Below w.heap.size w w'):OwnM w' b n D:=by
 have hlt:=h.lt
 obtain⟨es,clock,h1,F,hs,hD⟩:=h
 exact⟨es,clock,(hb.block b hlt).trans h1,F,hs,hD⟩
theorem OwnM.block {w w':World}{b n:Nat}{D:DataW Unit}(h:OwnM w b n D) (hb:w'.heap[b]?=w.heap[b]?):OwnM w' b n D:=by
 obtain⟨es,clock,h1,F,hs,hD⟩:=h
 exact⟨es,clock,hb.trans h1,F,hs,hD⟩
def A0w (l:List FI) (x:Int):Int:=match l.find? (fun f=>decide (f.number=x)) with|some f=>f.choice|none=>0
def ChD (D:DataW Unit) (l:List FI):Prop:=∀ x:Int,D.atKey (.int .i64 x) (.lit (.int .i64 0)) = .lit (.int .i64 (A0w l x))∧Maps.has D (.int .i64 x)=l.any fun f=>decide (f.number=x)
theorem ChD.nil:ChD (.map []) []:=fun _=>⟨rfl,rfl⟩
theorem ChD.put {D:DataW Unit}{l:List FI}{f:FI}(h:ChD D l) (hD:IsMap D) (hf:(l.any fun g=>decide (g.number=f.number))=false):ChD (D.put (.int .i64 f.number) (.lit (.int .i64 f.choice))) (l++[f]):=by
 intro x
 by_cases e:x=f.number
 ·subst e
  rw[atKey_put_same hD (show WideAt.IsKeyLit (.int .i64 f.number) from trivial),has_put_same hD (show WideAt.IsKeyLit (.int .i64 f.number) from trivial)]
  have h1:l.find? (fun g=>decide (g.number=f.number))=none:=by
   rw[List.find?_eq_none]
   intro y hy
   rw[List.any_eq_false] at hf
   exact hf y hy
  refine⟨?_,by simp⟩
  unfold A0w
  rw[List.find?_append,h1]
  simp
 ·have e':¬ f.number=x:=fun h=>e h.symm
  rw[atKey_put_other (by simpa using e),has_put_other (by simpa using e),(h x).1,(h x).2]
  unfold A0w
  rw[List.find?_append,List.any_append]
  simp[e']
theorem ChD.skip {D:DataW Unit}{l:List FI}{f:FI}(h:ChD D l) (hf:(l.any fun g=>decide (g.number=f.number))=true):ChD D (l++[f]):=by
 intro x
 rw[(h x).1,(h x).2]
 unfold A0w
 rw[List.find?_append,List.any_append]
 by_cases e:f.number=x
 ·subst e
  rw[List.any_eq_true] at hf
  obtain⟨y,hy,hq⟩:=hf
  cases h1:l.find? (fun g=>decide (g.number=f.number)) with
  | none=>rw[List.find?_eq_none] at h1;exact absurd hq (h1 y hy)
  | some z=>exact⟨by simp,by simp;exact⟨y,hy,of_decide_eq_true hq⟩⟩
 ·simp[e]
theorem ChD.get {D:DataW Unit}{l:List FI}{x c:Int}(h:ChD D l) (hc:D.atKey (.int .i64 x) (.lit (.int .i64 0)) = .lit (.int .i64 c)):c=A0w l x:=by
 have:=(h x).1.symm.trans hc
 injection this with h1
 injection h1 with _ h2
 exact h2.symm
set_option maxHeartbeats 4000000 in
set_option maxRecDepth 100000 in
theorem B3i {nm vf vb:Value}{l:List FI}{w:World}(h:RdL 6 FAt w vf l) (hvb:∃ ao n cap,vb = .slice ao n cap) (hnm:∃ s:List UInt8,nm = .string (S s)) (hok:∀ f∈l,I64 f.number∧I64 f.choice) (hl:l.length≤140737488355328) :
  Calls Tryz.prog 216 #[.agg #[nm,vf,vb]] w fun e w'=>∃ b D,e = .returned (.map (some b))∧w.heap.size≤b∧OwnM w' b l.length D∧ChD D l∧Below w.heap.size w w':=by
 obtain⟨ao,n,cap,rfl,Hn,hcap⟩:=h.shape
 obtain⟨ae,ne,ce,rfl⟩:=hvb
 obtain⟨s,rfl⟩:=hnm
 have hmm:=@run_makeMap Tryz.prog
 have hn:n≤140737488355328:=by rw[Hn.out];exact hl
 obtain⟨W2,HW2⟩:∃ W2,Hid (W2=w.alloc (.cells #[.string (S s),.slice ao n cap,.slice ae ne ce] 35)):=⟨_,rfl⟩
 have hb2:Below w.heap.size w W2:=by rw[HW2.out];exact(Below.refl _ _).alloc (Nat.le_refl _) _
 have hz2:W2.heap.size=w.heap.size+1:=by rw[HW2.out];simp
 obtain⟨B,HB⟩:∃ B,Hid (B=w.heap.size+1):=⟨_,rfl⟩
 have hB1:B≤w.heap.size+1:=Nat.le_of_eq HB.out
 have hB2:w.heap.size+1≤B:=Nat.le_of_eq HB.out.symm
 have hM0:OwnM (W2.alloc (.map #[] 0)) B 0 (.map []):=by
  have:=World.ownsMap_made W2 Tryz.prog 3 (plainElem (H:=Unit) Tryz.prog 3)
  rw[hz2,←HB.out] at this
  exact this
 have hb3:Below B W2 (W2.alloc (.map #[] 0)):=(Below.refl _ _).alloc (by omega) _
 obtain⟨W3,HW3⟩:∃ W3,Hid (W3=W2.alloc (.map #[] 0)):=⟨_,rfl⟩
 rw[←HW3.out] at hM0 hb3
 have hcl:∀ V,Below B W2 V→Below w.heap.size w V:=fun V hV=>hb2.trans (hV.mono (by omega))
 have hz2':=Nat.le_of_eq hz2
 clear hz2
 go_enter Tryz.func216,Tryz.ntmps216
 go_wp2_with fail
 rw[←HW2.out,←HW3.out,←HB.out]
 go_loopg [12] n (fun gm i wr=>∃ (k:Nat) (D:DataW Unit),k+gm=n∧i = .int .i64 k∧OwnM wr B k D∧ChD D (l.take k)∧Below B W2 wr)
 case atStart=>exact⟨0,.map [],by omega,rfl,hM0,by rw[List.take_zero];exact ChD.nil,hb3⟩
 case round=>
  obtain⟨k,D,hk,rfl,hown,hch,hbr⟩:=hrel
  by_cases hlt:k < n
  ·obtain⟨a,Ha⟩:∃ a,Hid (l[k]?=some a):=⟨l[k]'(by rw[←Hn.out];exact hlt),List.getElem?_eq_getElem (by rw[←Hn.out];exact hlt)⟩
   obtain⟨b,off,rfl,hat⟩:=(h.below FAt.stays (hcl wr hbr)).get FAt.plain Ha.out
   obtain⟨s0,s1,s2,s3,s4,s5⟩:=hat.at
   have hki:(k:Int) < (n:Int):=by omega
   obtain⟨i1,i2⟩:=hok a (List.mem_of_getElem? Ha.out)
   have hkey:keyOf Tryz.prog 3 (.int .i64 a.number)=some (.int .i64 a.number):=keyOf_int_mk Tryz.underlying3 (WalkArith.wf_i64 i1)
   have hval:plainElem (H:=Unit) Tryz.prog 3 (.int .i64 a.choice)=some (.lit (.int .i64 a.choice),[]):=plainElem_int Tryz.underlying3 (WalkArith.wf_i64 i2)
   obtain⟨Wm,HWm⟩:∃ Wm,Hid (Wm=wr.alloc (.cells #[.string (S a.name),.int .i64 a.number,.int .i64 a.kind,.string (S a.type),.bool a.many,.int .i64 a.choice] 58)):=⟨_,rfl⟩
   have hbm:Below wr.heap.size wr Wm:=by rw[HWm.out];exact(Below.refl _ _).alloc (Nat.le_refl _) _
   have hzB:=hown.lt
   have hbrm:Below B W2 Wm:=hbr.trans (hbm.mono (by omega))
   have hownm:=hown.below hbm
   have hm1:=hownm.isMap
   obtain⟨v,ps,hrun,hv⟩:=hownm.look_ok C5c Tryz.underlying72 (D4e _) (plainElem_int Tryz.underlying3 (WalkArith.wf_i64 (by omega))) hkey
   obtain⟨c,rfl,_,_⟩:=plainElem_int_inv Tryz.underlying3 hv
   rw[(hch a.number).2] at hrun
   cases hq:(l.take k).any (fun f=>decide (f.number=a.number)) with
   | true=>
    have HX:ChD D (l.take (k+1)):=by rw[A1k Ha.out];exact hch.skip hq
    rw[hq,HWm.out] at hrun
    clear hq hat hch hv hown
    go_wp2_with fail
    rw[←HWm.out]
    go_roundg (n - (k+1))
    case measure=>omega
    case rel=>exact⟨k+1,D,by omega,by go_num,hownm.mono (by omega),HX,hbrm⟩
   | false=>
    have HX:ChD (D.put (.int .i64 a.number) (.lit (.int .i64 a.choice))) (l.take (k+1)):=by rw[A1k Ha.out];exact hch.put hm1 hq
    rw[hq,HWm.out] at hrun
    clear hq hat hch hv hown
    rw[HWm.out] at hownm
    go_wp2_with (at_mapUpdate;refine wpList_mapUpdate_own _ rfl _ _ _ 72 rfl 3 3 C5c Tryz.underlying72 _ B k _ rfl hownm (by unfold maxLen;omega) _ _ _ rfl rfl hkey _ [] hval ?_)
    intro w1 hown1 hg1
    rw[←HWm.out] at hg1
    have hB1w:Below B W2 w1:=hbrm.grown hg1 (by have:=hbm.size;omega) (fun j hj=>by cases hj;exact Nat.le_refl _)
    clear hrun hownm
    go_wp2_with fail
    go_roundg (n - (k+1))
    case measure=>omega
    case rel=>exact⟨k+1,_,by omega,by go_num,hown1,HX,hB1w⟩
  ·have HT:Hid (l.take k=l):=List.take_of_length_le (by rw[←Hn.out];omega)
   have hkl:Hid (k=l.length):=(show k=l.length by rw[←Hn.out];omega)
   go_wp2
   go_ret
   exact⟨B,D,rfl,by omega,by rw[←hkl.out];exact hown,by rw[HT.out] at hch;exact hch,hcl _ hbr⟩
end L
end Go.Proofs.YtcagbdokbnpdfaaGreatDoor
namespace Go.Proofs.YtcagbdokbnpdfaaGreatDoor
namespace L
open Go.RowKit
def C1u (n:Nat):Bool:=decide (n < 2147483648)||decide (18446744071562067968≤n)
def A2i (kind:Int) (n:Nat):Int:=
 if kind=1∨kind=2∨kind=3∨kind=6 then 0
 else if kind=4 then(if n≤1 then 0 else 3)
 else if kind=5 then(if C1u n then 0 else 3)
 else if kind=7 then(if n≤4294967295 then 0 else 3)
 else 1
theorem C4k (n:Nat) (hn:n < 18446744073709551616):(IntKind.u64.wrap (wrap32 (n:Int)) == (n:Int))=C1u n:=by
 have e:IntKind.u64.wrap (wrap32 (n:Int))=wrap32 (n:Int)%18446744073709551616:=by simp[IntKind.wrap,IntKind.bits,IntKind.signed]
 rw[e,Bool.eq_iff_iff]
 unfold wrap32 C1u
 simp
 omega
set_option maxHeartbeats 1000000 in
set_option maxRecDepth 100000 in
theorem C8u {w:World}(kind:Int) (n:Nat) (hn:n < 18446744073709551616) :
  Calls Tryz.prog 154 #[.int .i64 kind,.int .u64 (n:Int)] w fun e w'=>e = .returned (.int .i64 (A2i kind n))∧w=w':=by
 have hw:=C4k n hn
 by_cases h5:kind=5
 ·subst h5
  cases hq:C1u n with
  | true=>
   have HR:Hid (A2i 5 n=0):=by show _=_;unfold A2i;simp[hq]
   rw[hq] at hw
   clear hq
   go_enter Tryz.func154,Tryz.ntmps154
   go_wp2
   go_ret
   exact⟨by rw[HR.out];rfl,rfl⟩
  | false=>
   have HR:Hid (A2i 5 n=3):=by show _=_;unfold A2i;simp[hq]
   rw[hq] at hw
   clear hq
   go_enter Tryz.func154,Tryz.ntmps154
   go_wp2
   go_ret
   exact⟨by rw[HR.out];rfl,rfl⟩
 clear hw
 by_cases h4:kind=4
 ·subst h4
  by_cases hq:n≤1
  ·have HR:Hid (A2i 4 n=0):=by show _=_;unfold A2i;simp[hq]
   have hq':decide ((n:Int)≤1)=true:=by simp;omega
   clear hq
   go_enter Tryz.func154,Tryz.ntmps154
   go_wp2
   go_ret
   exact⟨by rw[HR.out];rfl,rfl⟩
  ·have HR:Hid (A2i 4 n=3):=by show _=_;unfold A2i;simp[hq]
   have hq':decide ((n:Int)≤1)=false:=by simp;omega
   clear hq
   go_enter Tryz.func154,Tryz.ntmps154
   go_wp2
   go_ret
   exact⟨by rw[HR.out];rfl,rfl⟩
 by_cases h7:kind=7
 ·subst h7
  by_cases hq:n≤4294967295
  ·have HR:Hid (A2i 7 n=0):=by show _=_;unfold A2i;simp[hq]
   have hq':decide ((n:Int)≤4294967295)=true:=by simp;omega
   clear hq
   go_enter Tryz.func154,Tryz.ntmps154
   go_wp2
   go_ret
   exact⟨by rw[HR.out];rfl,rfl⟩
  ·have HR:Hid (A2i 7 n=3):=by show _=_;unfold A2i;simp[hq]
   have hq':decide ((n:Int)≤4294967295)=false:=by simp;omega
   clear hq
   go_enter Tryz.func154,Tryz.ntmps154
   go_wp2
   go_ret
   exact⟨by rw[HR.out];rfl,rfl⟩
 by_cases h0:kind=1∨kind=2∨kind=3∨kind=6
 ·have HR:Hid (A2i kind n=0):=by show _=_;unfold A2i;rw[if_pos h0]
  clear h5 h4 h7
  rcases h0 with rfl|rfl|rfl|rfl
  all_goals
   go_enter Tryz.func154,Tryz.ntmps154
   go_wp2
   go_ret
   exact⟨by rw[HR.out];rfl,rfl⟩
 ·have HR:Hid (A2i kind n=1):=by show _=_;unfold A2i;rw[if_neg h0,if_neg h4,if_neg h5,if_neg h7]
  have e1:(kind == 1)=false:=by simp;omega
  have e2:(kind == 2)=false:=by simp;omega
  have e3:(kind == 3)=false:=by simp;omega
  have e4:(kind == 4)=false:=by simpa using h4
  have e5:(kind == 5)=false:=by simpa using h5
  have e6:(kind == 6)=false:=by simp;omega
  have e7:(kind == 7)=false:=by simpa using h7
  clear h0 h4 h5 h7
  go_enter Tryz.func154,Tryz.ntmps154
  go_wp2
  go_ret
  exact⟨by rw[HR.out];rfl,rfl⟩
def A1i {β:Type}(v:VI β):Nat:=v.bits.length+v.bytes.length+v.subs.length
def A0t {β:Type}(x:FI) (v:VI β):Bool:=
 if x.kind=8∨x.kind=9 then decide (0 < v.bits.length+v.subs.length)
 else if x.kind=10 then decide (0 < v.bits.length+v.bytes.length)
 else decide (0 < v.bytes.length+v.subs.length)
def A3p {β:Type}(x:FI) (v:VI β):Bool:=decide (A1i v < 1)||(decide (60 < A1i v)||(decide (1 < A1i v)&&!x.many))
end L
end Go.Proofs.YtcagbdokbnpdfaaGreatDoor
namespace Go.Proofs.YtcagbdokbnpdfaaGreatDoor
namespace L
open Go.RowKit
def vFI (x:FI):Value:=.agg #[.string (S x.name),.int .i64 x.number,.int .i64 x.kind,.string (S x.type),.bool x.many,.int .i64 x.choice]
set_option maxHeartbeats 1000000 in
set_option maxRecDepth 100000 in
theorem C2r {β:Type}{w:World}(x:FI) (v:VI β){a1 a2 a3:Option Addr}{n1 n2 n3 c1 c2 c3:Nat}(H1:Hid (n1=v.bits.length)) (H2:Hid (n2=v.bytes.length)) (H3:Hid (n3=v.subs.length)) (b1:n1≤140737488355328) (b2:n2≤140737488355328) (b3:n3≤140737488355328) :
  Calls Tryz.prog 148 #[vFI x,.agg #[.int .i64 v.number,.slice a1 n1 c1,.slice a2 n2 c2,.slice a3 n3 c3]] w fun e w'=>e = .returned (.bool (A0t x v))∧Below w.heap.size w w':=by
 have hb2:Below w.heap.size w ((w.alloc (.cells #[.string (S x.name),.int .i64 x.number,.int .i64 x.kind,.string (S x.type),.bool x.many,.int .i64 x.choice] 58)).alloc (.cells #[.int .i64 v.number,.slice a1 n1 c1,.slice a2 n2 c2,.slice a3 n3 c3] 54)):=((Below.refl _ _).alloc (Nat.le_refl _) _).alloc (by simp) _
 unfold vFI
 by_cases h8:x.kind=8
 ·have HR:Hid (A0t x v=decide ((0:Int) < (n1:Int)+(n3:Int))):=by
   show _=_;unfold A0t;rw[if_pos (Or.inl h8),H1.out,H3.out];exact decide_eq_decide.2 (by omega)
  have e8:(x.kind == 8)=true:=by simp[h8]
  clear h8
  go_enter Tryz.func148,Tryz.ntmps148
  go_wp2
  go_ret
  exact⟨by rw[HR.out];rfl,hb2⟩
 have e8:(x.kind == 8)=false:=by simpa using h8
 by_cases h9:x.kind=9
 ·have HR:Hid (A0t x v=decide ((0:Int) < (n1:Int)+(n3:Int))):=by
   show _=_;unfold A0t;rw[if_pos (Or.inr h9),H1.out,H3.out];exact decide_eq_decide.2 (by omega)
  have e9:(x.kind == 9)=true:=by simp[h9]
  clear h8 h9
  go_enter Tryz.func148,Tryz.ntmps148
  go_wp2
  go_ret
  exact⟨by rw[HR.out];rfl,hb2⟩
 have e9:(x.kind == 9)=false:=by simpa using h9
 by_cases h10:x.kind=10
 ·have HR:Hid (A0t x v=decide ((0:Int) < (n1:Int)+(n2:Int))):=by
   show _=_;unfold A0t;rw[if_neg (by omega),if_pos h10,H1.out,H2.out];exact decide_eq_decide.2 (by omega)
  have e10:(x.kind == 10)=true:=by simp[h10]
  clear h8 h9 h10
  go_enter Tryz.func148,Tryz.ntmps148
  go_wp2
  go_ret
  exact⟨by rw[HR.out];rfl,hb2⟩
 ·have HR:Hid (A0t x v=decide ((0:Int) < (n2:Int)+(n3:Int))):=by
   show _=_;unfold A0t;rw[if_neg (by omega),if_neg h10,H2.out,H3.out];exact decide_eq_decide.2 (by omega)
  have e10:(x.kind == 10)=false:=by simpa using h10
  clear h8 h9 h10
  go_enter Tryz.func148,Tryz.ntmps148
  go_wp2
  go_ret
  exact⟨by rw[HR.out];rfl,hb2⟩
set_option maxHeartbeats 1000000 in
set_option maxRecDepth 100000 in
theorem C9g {β:Type}{w:World}(x:FI) (v:VI β){a1 a2 a3:Option Addr}{n1 n2 n3 c1 c2 c3:Nat}(H1:Hid (n1=v.bits.length)) (H2:Hid (n2=v.bytes.length)) (H3:Hid (n3=v.subs.length)) (b1:n1≤140737488355328) (b2:n2≤140737488355328) (b3:n3≤140737488355328) :
  Calls Tryz.prog 149 #[vFI x,.agg #[.int .i64 v.number,.slice a1 n1 c1,.slice a2 n2 c2,.slice a3 n3 c3]] w fun e w'=>e = .returned (.bool (A3p x v))∧Below w.heap.size w w':=by
 have hb2:Below w.heap.size w ((w.alloc (.cells #[.string (S x.name),.int .i64 x.number,.int .i64 x.kind,.string (S x.type),.bool x.many,.int .i64 x.choice] 58)).alloc (.cells #[.int .i64 v.number,.slice a1 n1 c1,.slice a2 n2 c2,.slice a3 n3 c3] 54)):=((Below.refl _ _).alloc (Nat.le_refl _) _).alloc (by simp) _
 have hm:A1i v=n1+n2+n3:=by unfold A1i;rw[H1.out,H2.out,H3.out]
 unfold vFI
 by_cases h1:n1+n2+n3 < 1
 ·have HR:Hid (A3p x v=true):=by show _=_;unfold A3p;rw[hm];simp;omega
  have d1:decide ((n1:Int)+(n2:Int)+(n3:Int) < 1)=true:=by simp;omega
  clear hm h1
  go_enter Tryz.func149,Tryz.ntmps149
  go_wp2
  go_ret
  exact⟨by rw[HR.out];rfl,hb2⟩
 have d1:decide ((n1:Int)+(n2:Int)+(n3:Int) < 1)=false:=by simp;omega
 by_cases h2:60 < n1+n2+n3
 ·have HR:Hid (A3p x v=true):=by show _=_;unfold A3p;rw[hm];simp[h2]
  have d2:decide ((60:Int) < (n1:Int)+(n2:Int)+(n3:Int))=true:=by simp;omega
  clear hm h1 h2
  go_enter Tryz.func149,Tryz.ntmps149
  go_wp2
  go_ret
  exact⟨by rw[HR.out];rfl,hb2⟩
 have d2:decide ((60:Int) < (n1:Int)+(n2:Int)+(n3:Int))=false:=by simp;omega
 by_cases h3:1 < n1+n2+n3
 ·have d3:decide ((1:Int) < (n1:Int)+(n2:Int)+(n3:Int))=true:=by simp;omega
  have HR:Hid (A3p x v = !x.many):=by
   show _=_;unfold A3p;rw[hm,decide_eq_false h1,decide_eq_false h2,decide_eq_true h3];simp
  clear hm h1 h2 h3
  go_enter Tryz.func149,Tryz.ntmps149
  go_wp2
  go_ret
  exact⟨by rw[HR.out];rfl,hb2⟩
 ·have d3:decide ((1:Int) < (n1:Int)+(n2:Int)+(n3:Int))=false:=by simp;omega
  have HR:Hid (A3p x v=false):=by
   show _=_;unfold A3p;rw[hm,decide_eq_false h1,decide_eq_false h2,decide_eq_false h3];simp
  clear hm h1 h2 h3
  go_enter Tryz.func149,Tryz.ntmps149
  go_wp2
  go_ret
  exact⟨by rw[HR.out];rfl,hb2⟩
end L
end Go.Proofs.YtcagbdokbnpdfaaGreatDoor
namespace Go.Proofs.YtcagbdokbnpdfaaGreatDoor
namespace L
open Go.RowKit
section
variable {α:Type}{w:World}
theorem EK.flat_get (E:EK α){m:List α}{i:Nat}{u:Value}(h:(E.flat m)[i]?=some u):∃ y,m[i / E.size]?=some y∧(E.enc y)[i%E.size]?=some u:=by
 have hi:i < (E.flat m).length:=(List.getElem?_eq_some_iff.1 h).1
 rw[E.flat_len] at hi
 have hk:i / E.size < m.length:=by rw[Nat.div_lt_iff_lt_mul E.pos];exact hi
 refine⟨m[i / E.size],List.getElem?_eq_getElem hk,?_⟩
 have:=E.flat_at m (i / E.size) (i%E.size) _ (List.getElem?_eq_getElem hk) (Nat.mod_lt _ E.pos)
 rw[←this,Nat.mul_comm,Nat.div_add_mod]
 exact h
theorem C7s {o:Oper}{a:Act}{K:Act→World→Prop}{Q:Exit→Act→World→Prop}(E:EK α) (s x:Operand)
  (ho:o.op = .call { callee:=.builtin .append,args:=#[s,x],argTypes:=#[E.slice,E.slice] })
  (base:Nat) (v:Value) (l m:List α) (hs:a.eval s=v) (hown:Row E w base v l) (ao:Option Addr) (n cap:Nat) (hx:a.eval x = .slice ao n cap) (hm:m.length=n) (hnil:ao=none→n=0∧cap=0)
  (hcell:∀ ad,ao=some ad→∀ k y,m[k]?=some y→∀ j u,(E.enc y)[j]?=some u→w.cell? (ad.add (k*E.size+j))=some u)
  (hby:1≤E.bytes) (hlen:(l.length+m.length)*E.bytes≤140737488355328) (hb:base≤w.heap.size)
  (h:∀ v' w',Row E w' base v' (l++m)→w.grownBy w' v.ownBlock→K (a.put o.dst v') w'):o.wp Tryz.prog a w K Q:=by
 obtain⟨i0,hi,hz0,hz1,hz2⟩:=info_parts E.info
 have h63:l.length+m.length≤maxLen:=by
  have:l.length+m.length≤(l.length+m.length)*E.bytes:=Nat.le_mul_of_pos_right _ hby
  unfold maxLen;omega
 cases ao with
 | none=>
  obtain⟨rfl,rfl⟩:=hnil rfl
  have hqs:m = []:=List.eq_nil_of_length_eq_zero hm
  subst hqs
  have hrun:=run_append_owned_none (P:=Tryz.prog) (w:=w) base E.slice o.type E.elem i0 E.size E.under hi v l.length (E.flat l) hown
  unfold Oper.wp
  simp[execOp,ho,resolve,invoke,builtin,hs,hx,hrun,Result.andThen]
  exact h v w (by rw[List.append_nil];exact hown) ⟨rfl,rfl,rfl,Nat.le_refl _,fun _ _ _=>rfl⟩
 | some ad=>
  refine wp_append_own w s x E.slice ho base E.elem i0 _ E.size E.bytes E.under hi hz0 hz1 hz2 E.zs E.pos v l.length _ hs hown ad n cap
   (E.flat m) hx (by rw[E.flat_len,hm]) ?_ ?_ (by rw[←hm];exact h63) (by rw[←hm];exact hlen) hb ?_
  ·intro j u hu
   obtain⟨y,h1,h2⟩:=E.flat_get hu
   have:=hcell ad rfl _ y h1 _ u h2
   rwa [Nat.mul_comm,Nat.div_add_mod] at this
  ·intro y hy
   simp only[EK.flat,List.mem_flatMap] at hy
   obtain⟨p,hp,hy⟩:=hy
   exact E.one p y hy
  ·intro v' w' h1 h2 _
   refine h v' w' ?_ h2
   show w'.ownsRow base E.elem E.size v' (l++m).length (E.flat (l++m))
   rw[List.length_append,E.flat_append,hm]
   exact h1
theorem A4c {ops:Array Oper}{o:Oper}{a:Act}{K:Act→World→Prop}{Q:Exit→Act→World→Prop}{X:Prop}(hgd:o.guard=none) (E:EK α) (s x:Operand)
  (ho:o.op = .call { callee:=.builtin .append,args:=#[s,x],argTypes:=#[E.slice,E.slice] })
  (base:Nat) (v:Value) (l m:List α) (hs:a.eval s=v) (hown:Row E w base v l) (ao:Option Addr) (n cap:Nat) (hx:a.eval x = .slice ao n cap) (hm:m.length=n) (hnil:ao=none→n=0∧cap=0)
  (hcell:∀ ad,ao=some ad→∀ k y,m[k]?=some y→∀ j u,(E.enc y)[j]?=some u→w.cell? (ad.add (k*E.size+j))=some u)
  (hby:1≤E.bytes) (hlen:(l.length+m.length)*E.bytes≤140737488355328) (hb:base≤w.heap.size)
  (h:∀ v' w',Row E w' base v' (l++m)→w.grownBy w' v.ownBlock→K (a.put o.dst v') w') :
  if Region.wanted o (yielded ops a.tmps)=true then Oper.wp Tryz.prog o a w K Q else X:=by
 have hw:Region.wanted o (yielded ops a.tmps)=true:=by simp[Region.wanted,hgd]
 rw[if_pos hw]
 exact C7s E s x ho base v l m hs hown ao n cap hx hm hnil hcell hby hlen hb h
theorem A2b {ops:Array Oper}{rest:List Oper}{o:Oper}{a:Act}{Q:Exit→Act→World→Prop}(hgd:o.guard=none) (E:EK α) (s x:Operand)
  (ho:o.op = .call { callee:=.builtin .append,args:=#[s,x],argTypes:=#[E.slice,E.slice] })
  (base:Nat) (v:Value) (l m:List α) (hs:a.eval s=v) (hown:Row E w base v l) (ao:Option Addr) (n cap:Nat) (hx:a.eval x = .slice ao n cap) (hm:m.length=n) (hnil:ao=none→n=0∧cap=0)
  (hcell:∀ ad,ao=some ad→∀ k y,m[k]?=some y→∀ j u,(E.enc y)[j]?=some u→w.cell? (ad.add (k*E.size+j))=some u)
  (hby:1≤E.bytes) (hlen:(l.length+m.length)*E.bytes≤140737488355328) (hb:base≤w.heap.size)
  (h:∀ v' w',Row E w' base v' (l++m)→w.grownBy w' v.ownBlock→wpList Tryz.prog ops Q rest (a.put o.dst v') w'):wpList Tryz.prog ops Q (o::rest) a w:=
 wpList_plain hgd fun _ hK=>C7s E s x ho base v l m hs hown ao n cap hx hm hnil hcell hby hlen hb fun v' w' h2 h3=>hK _ _ (h v' w' h2 h3)
end
end L
end Go.Proofs.YtcagbdokbnpdfaaGreatDoor
namespace Go.Proofs.YtcagbdokbnpdfaaGreatDoor
namespace L
open Go.RowKit
abbrev PV:=Option Addr×Nat×Nat
def PV.v (p:PV):Value:=.slice p.1 p.2.1 p.2.2
def own1 (p:PV):List Nat:=p.v.ownBlock.toList
structure VL (β:Type) where
 number:Int
 bits:List Nat
 bytes:List (List UInt8×PV)
 subs:List β
 p1:PV
 p2:PV
 p3:PV
structure BL (β:Type) where
 vals:List (VL β)
 unk:List (RI×PV)
 q0:PV
 q1:PV
def LB:Nat→Type
 | 0=>Empty
 | d+1=>BL (LB d)
def VL.pl {β γ:Type}(f : β→γ) (v:VL β):VI γ:=⟨v.number,v.bits,v.bytes.map Prod.fst,v.subs.map f⟩
def LB.pl:(d:Nat)→LB d→BI d
 | 0=>fun b=>b
 | d+1=>fun b=>(⟨(BL.vals b).map (VL.pl (LB.pl d)),(BL.unk b).map Prod.fst⟩:BO (BI d))
def D4o (n:Nat):List Value:=[.int .u64 (n:Int)]
def D4i (b:UInt8):List Value:=[.int .u8 (b.toNat:Int)]
def D5d (z:List UInt8×PV):List Value:=[z.2.v]
def D0t (r:RI×PV):List Value:=[.int .i64 r.1.number,.int .i64 r.1.how,.int .u64 (r.1.bits:Int),r.2.v]
def D5c {β:Type}(v:VL β):List Value:=[.int .i64 v.number,v.p1.v,v.p2.v,v.p3.v]
def A6t:(d:Nat)→LB d→List Value
 | 0=>fun b=>nomatch (b:Empty)
 | _+1=>fun b=>[(BL.q0 b).v,(BL.q1 b).v]
def ekU:EK Nat where
 elem:=63
 slice:=50
 size:=1
 bytes:=8
 zero:=.int .u64 0
 enc:=D4o
 under:=Tryz.underlying50
 info:=by kernel_rfl
 zs:=rfl
 pos:=by decide
 small:=by decide
 len:=fun _=>rfl
 one:=by intro a u hu;simp only[D4o,List.mem_singleton] at hu;subst hu;rfl
def ekY:EK UInt8 where
 elem:=5
 slice:=30
 size:=1
 bytes:=1
 zero:=.int .u8 0
 enc:=D4i
 under:=Tryz.underlying30
 info:=by kernel_rfl
 zs:=rfl
 pos:=by decide
 small:=by decide
 len:=fun _=>rfl
 one:=by intro a u hu;simp only[D4i,List.mem_singleton] at hu;subst hu;rfl
def ekZ:EK (List UInt8×PV) where
 elem:=30
 slice:=51
 size:=1
 bytes:=24
 zero:=.slice none 0 0
 enc:=D5d
 under:=Tryz.underlying51
 info:=by kernel_rfl
 zs:=rfl
 pos:=by decide
 small:=by decide
 len:=fun _=>rfl
 one:=by intro a u hu;simp only[D5d,List.mem_singleton] at hu;subst hu;rfl
def ekR:EK (RI×PV) where
 elem:=65
 slice:=27
 size:=4
 bytes:=48
 zero:=.agg #[.int .i64 0,.int .i64 0,.int .u64 0,.slice none 0 0]
 enc:=D0t
 under:=Tryz.underlying27
 info:=by kernel_rfl
 zs:=rfl
 pos:=by decide
 small:=by decide
 len:=fun _=>rfl
 one:=by intro a u hu;simp only[D0t,List.mem_cons,List.mem_nil_iff,or_false] at hu;rcases hu with rfl|rfl|rfl|rfl <;> rfl
def ekV (β:Type):EK (VL β) where
 elem:=54
 slice:=26
 size:=4
 bytes:=80
 zero:=.agg #[.int .i64 0,.slice none 0 0,.slice none 0 0,.slice none 0 0]
 enc:=D5c
 under:=Tryz.underlying26
 info:=by kernel_rfl
 zs:=rfl
 pos:=by decide
 small:=by decide
 len:=fun _=>rfl
 one:=by intro a u hu;simp only[D5c,List.mem_cons,List.mem_nil_iff,or_false] at hu;rcases hu with rfl|rfl|rfl|rfl <;> rfl
theorem C8o:∀ (d:Nat) (b:LB d),(A6t d b).length=2
 | 0,b=>nomatch (b:Empty)
 | _+1,_=>rfl
theorem C8p:∀ (d:Nat) (b:LB d),∀ u∈A6t d b,u.oneCell'=true
 | 0,b=>nomatch (b:Empty)
 | _+1,b=>by intro u hu;simp only[A6t,List.mem_cons,List.mem_nil_iff,or_false] at hu;rcases hu with rfl|rfl <;> rfl
def ekB (d:Nat):EK (LB d) where
 elem:=29
 slice:=52
 size:=2
 bytes:=48
 zero:=.agg #[.slice none 0 0,.slice none 0 0]
 enc:=A6t d
 under:=Tryz.underlying52
 info:=by kernel_rfl
 zs:=rfl
 pos:=by decide
 small:=by decide
 len:=C8o d
 one:=C8p d
structure OwnV {β:Type}(E:EK β) (O:World→β→Prop) (w:World) (base:Nat) (v:VL β):Prop where
 r1:Row ekU w base v.p1.v v.bits
 r2:Row ekZ w base v.p2.v v.bytes
 r2y:∀ z∈v.bytes,Row ekY w base z.2.v z.1
 r3:Row E w base v.p3.v v.subs
 r3s:∀ s∈v.subs,O w s
structure OwnL {β:Type}(E:EK β) (O:World→β→Prop) (w:World) (base:Nat) (b:BL β):Prop where
 r0:Row (ekV β) w base b.q0.v b.vals
 r0v:∀ v∈b.vals,OwnV E O w base v
 r1:Row ekR w base b.q1.v b.unk
 r1y:∀ r∈b.unk,Row ekY w base r.2.v r.1.bytes
def OwnB (base:Nat):(d:Nat)→World→LB d→Prop
 | 0=>fun _ _=>False
 | d+1=>fun w b=>OwnL (ekB d) (OwnB base d) w base b
def VL.fp {β:Type}(f : β→List Nat) (v:VL β):List Nat:=own1 v.p1++own1 v.p2++own1 v.p3++v.subs.flatMap f
def BL.fp {β:Type}(f : β→List Nat) (b:BL β):List Nat:=own1 b.q0++own1 b.q1++b.vals.flatMap (VL.fp f)
def LB.fp:(d:Nat)→LB d→List Nat
 | 0=>fun _=>[]
 | d+1=>fun b=>BL.fp (LB.fp d) b
structure FrB (F:List Nat) (w w':World):Prop where
 os:w'.os=w.os
 tape:w'.tape=w.tape
 output:w'.output=w.output
 size:w.heap.size≤w'.heap.size
 block:∀ k,k < w.heap.size→(k∉F∨∃ cs fr,w.heap[k]?=some (.cells cs 5 fr))→w'.heap[k]?=w.heap[k]?
theorem FrB.refl (F:List Nat) (w:World):FrB F w w:=⟨rfl,rfl,rfl,Nat.le_refl _,fun _ _ _=>rfl⟩
theorem FrB.of_below {F:List Nat}{w w':World}(h:Below w.heap.size w w'):FrB F w w':=⟨h.os,h.tape,h.output,h.size,fun k hk _=>h.block k hk⟩
theorem FrB.mono {F G:List Nat}{w w':World}(h:FrB F w w') (hs:∀ k∈F,k∈G):FrB G w w':=⟨h.os,h.tape,h.output,h.size,fun k hk hc=>h.block k hk (hc.imp (fun h1 h2=>h1 (hs k h2)) id)⟩
theorem FrB.trans {F G H:List Nat}{a b c:World}(h:FrB F a b) (k:FrB G b c) (hF:∀ i∈F,i∈H) (hG:∀ i∈G,i∈H∨a.heap.size≤i):FrB H a c:=
 ⟨k.os.trans h.os,k.tape.trans h.tape,k.output.trans h.output,Nat.le_trans h.size k.size,fun i hi hc=>by
  have e:=h.block i hi (hc.imp (fun h1 h2=>h1 (hF i h2)) id)
  rw[k.block i (Nat.lt_of_lt_of_le hi h.size) ?_,e]
  rcases hc with hc|⟨cs,fr,hc⟩
  ·left;intro hi';rcases hG i hi' with h1|h1
   ·exact hc h1
   ·omega
  ·right;exact⟨cs,fr,by rw[e];exact hc⟩⟩
theorem FrB.below {F:List Nat}{w w':World}{B:Nat}(h:FrB F w w') (hB:B≤w.heap.size) (hF:∀ k∈F,B≤k):Below B w w':=
 ⟨h.os,h.tape,h.output,h.size,fun k hk=>h.block k (by omega) (.inl fun hk'=>by have:=hF k hk';omega)⟩
theorem A0q {p:PV}{k:Nat}:k∈own1 p↔p.v.ownBlock=some k:=by unfold own1;simp
theorem Row.frB {α:Type}{E:EK α}{F:List Nat}{w w':World}{base:Nat}{p:PV}{l:List α}(h:Row E w base p.v l) (hf:FrB F w w') (hd:∀ k∈own1 p,k∉F):Row E w' base p.v l:=by
 refine⟨h.1,?_⟩
 rcases h.2 with hn|⟨g,cap,cur,hv,hbg,hg,r⟩
 ·exact .inl hn
 ·refine .inr ⟨g,cap,cur,hv,hbg,?_,r⟩
  rw[hf.block g (Array.getElem?_eq_some_iff.1 hg).1 (.inl (hd g (A0q.2 (by rw[hv];rfl))))]
  exact hg
theorem Row.frY {F:List Nat}{w w':World}{base:Nat}{v:Value}{l:List UInt8}(h:Row ekY w base v l) (hf:FrB F w w'):Row ekY w' base v l:=by
 refine⟨h.1,?_⟩
 rcases h.2 with hn|⟨g,cap,cur,hv,hbg,hg,r⟩
 ·exact .inl hn
 ·refine .inr ⟨g,cap,cur,hv,hbg,?_,r⟩
  rw[hf.block g (Array.getElem?_eq_some_iff.1 hg).1 (.inr ⟨cur,_,hg⟩)]
  exact hg
theorem OwnV.fr {β:Type}{E:EK β}{O:World→β→Prop}{f : β→List Nat}(hO:∀ (F:List Nat) (w w':World) b,O w b→FrB F w w'→(∀ k∈f b,k∉F)→O w' b){F:List Nat}{w w':World}{base:Nat}{v:VL β}(h:OwnV E O w base v) (hf:FrB F w w') (hd:∀ k∈VL.fp f v,k∉F):OwnV E O w' base v where
 r1:=h.r1.frB hf fun k hk=>hd k (by unfold VL.fp;simp[hk])
 r2:=h.r2.frB hf fun k hk=>hd k (by unfold VL.fp;simp[hk])
 r2y:=fun z hz=>(h.r2y z hz).frY hf
 r3:=h.r3.frB hf fun k hk=>hd k (by unfold VL.fp;simp[hk])
 r3s:=fun s hs=>hO F w w' s (h.r3s s hs) hf fun k hk=>hd k (by unfold VL.fp;simp only[List.mem_append,List.mem_flatMap];exact .inr ⟨s,hs,hk⟩)
theorem OwnL.fr {β:Type}{E:EK β}{O:World→β→Prop}{f : β→List Nat}(hO:∀ (F:List Nat) (w w':World) b,O w b→FrB F w w'→(∀ k∈f b,k∉F)→O w' b){F:List Nat}{w w':World}{base:Nat}{b:BL β}(h:OwnL E O w base b) (hf:FrB F w w') (hd:∀ k∈BL.fp f b,k∉F):OwnL E O w' base b where
 r0:=h.r0.frB hf fun k hk=>hd k (by unfold BL.fp;simp[hk])
 r0v:=fun v hv=>(h.r0v v hv).fr hO hf fun k hk=>hd k (by unfold BL.fp;simp only[List.mem_append,List.mem_flatMap];exact .inr ⟨v,hv,hk⟩)
 r1:=h.r1.frB hf fun k hk=>hd k (by unfold BL.fp;simp[hk])
 r1y:=fun r hr=>(h.r1y r hr).frY hf
theorem OwnB.fr {base:Nat}:∀ (d:Nat) (F:List Nat) (w w':World) (b:LB d),OwnB base d w b→FrB F w w'→(∀ k∈LB.fp d b,k∉F)→OwnB base d w' b
 | 0,_,_,_,_,h,_,_=>h
 | d+1,_,_,_,_,h,hf,hd=>OwnL.fr (fun F w w' b=>OwnB.fr d F w w' b) h hf hd
theorem OwnB.below {base d:Nat}{w w':World}{b:LB d}(h:OwnB base d w b) (hb:Below w.heap.size w w'):OwnB base d w' b:=OwnB.fr d [] w w' b h (.of_below hb) (fun _ _=>List.not_mem_nil)
theorem OwnV.below {base d:Nat}{w w':World}{v:VL (LB d)}(h:OwnV (ekB d) (OwnB base d) w base v) (hb:Below w.heap.size w w'):OwnV (ekB d) (OwnB base d) w' base v:=OwnV.fr (F:=[]) (OwnB.fr d) h (.of_below hb) (fun _ _=>List.not_mem_nil)
theorem Row.own1 {α:Type}{E:EK α}{w:World}{base:Nat}{p:PV}{l:List α}(h:Row E w base p.v l):∀ k∈own1 p,base≤k∧k < w.heap.size:=fun k hk=>h.own k (A0q.1 hk)
theorem OwnV.inB {β:Type}{E:EK β}{O:World→β→Prop}{f : β→List Nat}{w:World}{base:Nat}{v:VL β}(hO:∀ s∈v.subs,O w s→∀ k∈f s,base≤k∧k < w.heap.size) (h:OwnV E O w base v):∀ k∈VL.fp f v,base≤k∧k < w.heap.size:=by
 intro k hk
 unfold VL.fp at hk
 simp only[List.mem_append,List.mem_flatMap] at hk
 rcases hk with((hk|hk)|hk)|⟨s,hs,hk⟩
 ·exact h.r1.own1 k hk
 ·exact h.r2.own1 k hk
 ·exact h.r3.own1 k hk
 ·exact hO s hs (h.r3s s hs) k hk
theorem OwnB.inB {base:Nat}:∀ (d:Nat){w:World}{b:LB d},OwnB base d w b→∀ k∈LB.fp d b,base≤k∧k < w.heap.size
 | 0,_,_,h=>h.elim
 | d+1,w,b,h=>by
  intro k hk
  have hk:k∈BL.fp (LB.fp d) b:=hk
  have h:OwnL (ekB d) (OwnB base d) w base b:=h
  unfold BL.fp at hk
  simp only[List.mem_append,List.mem_flatMap] at hk
  rcases hk with(hk|hk)|⟨v,hv,hk⟩
  ·exact h.r0.own1 k hk
  ·exact h.r1.own1 k hk
  ·exact(h.r0v v hv).inB (fun s _ hs=>OwnB.inB d hs) k hk
theorem RdL.mapB {α β:Type}{sz:Nat}{P:World→Addr→α→Prop}{R:World→Addr→β→Prop}{w:World}{v:Value}{l:List α}(f : α→β) (h:RdL sz P w v l) (hf:∀ x a,a∈l→P w x a→R w x (f a)):RdL sz R w v (l.map f):=by
 obtain⟨ao,n,cap,e,h1,h2,h3,h4,h5⟩:=h
 refine⟨ao,n,cap,e,by simpa using h1,h2,h3,h4,fun x hx k b hb=>?_⟩
 rw[List.getElem?_map] at hb
 cases ha:l[k]? with
 | none=>rw[ha] at hb;simp at hb
 | some a=>
  rw[ha] at hb
  simp at hb
  subst hb
  exact hf _ a (List.mem_of_getElem? ha) (h5 x hx k a ha)
theorem Row.rdU {w:World}{base:Nat}{v:Value}{l:List Nat}(h:Row ekU w base v l):RdL 1 UAt w v l:=h.rd UAt fun g i a hc=>by have:=hc 0 _ rfl;simpa [UAt] using this
theorem Row.rdY {w:World}{base:Nat}{v:Value}{l:List UInt8}(h:Row ekY w base v l):RdL 1 YAt w v l:=h.rd YAt fun g i a hc=>by have:=hc 0 _ rfl;simpa [YAt] using this
theorem Row.rdZ {w:World}{base:Nat}{v:Value}{l:List (List UInt8×PV)}(h:Row ekZ w base v l) (hy:∀ z∈l,Row ekY w base z.2.v z.1):RdL 1 ZAt w v (l.map Prod.fst):=
 RdL.mapB Prod.fst (h.rd (fun w x (z:List UInt8×PV)=>w.cell? x=some z.2.v) fun g i a hc=>by have:=hc 0 _ rfl;simpa using this) fun _ z hz hc=>⟨z.2.v,hc,(hy z hz).rdY⟩
theorem Row.rdR {w:World}{base:Nat}{v:Value}{l:List (RI×PV)}(h:Row ekR w base v l) (hy:∀ r∈l,Row ekY w base r.2.v r.1.bytes):RdL 4 RAt w v (l.map Prod.fst):=
 RdL.mapB Prod.fst (h.rd (fun w x (r:RI×PV)=>w.cell? x=some (.int .i64 r.1.number)∧w.cell? (x.add 1)=some (.int .i64 r.1.how)∧w.cell? (x.add 2)=some (.int .u64 (r.1.bits:Int))∧w.cell? (x.add 3)=some r.2.v) fun g i a hc=>by
  refine⟨by simpa using hc 0 _ rfl,?_,?_,?_⟩ <;> rw[A0f]
  ·exact hc 1 _ rfl
  ·exact hc 2 _ rfl
  ·exact hc 3 _ rfl) fun _ r hr ⟨h0,h1,h2,h3⟩=>⟨r.2.v,h0,h1,h2,h3,(hy r hr).rdY⟩
theorem OwnL.rdV {d:Nat}{w:World}{base:Nat}{b:BL (LB d)}(hs:∀ (s:LB d) (g i:Nat),OwnB base d w s→(∀ j u,(A6t d s)[j]?=some u→w.cell? ⟨g,i+j,none⟩=some u)→BAt d w ⟨g,i,none⟩ (LB.pl d s)) (h:OwnL (ekB d) (OwnB base d) w base b):RdL 4 (VAt (BAt d)) w b.q0.v (b.vals.map (VL.pl (LB.pl d))):=by
 refine RdL.mapB _ (h.r0.rd (fun w x (v:VL (LB d))=>w.cell? x=some (.int .i64 v.number)∧w.cell? (x.add 1)=some v.p1.v∧w.cell? (x.add 2)=some v.p2.v∧w.cell? (x.add 3)=some v.p3.v) fun g i a hc=>?_) ?_
 ·refine⟨by simpa using hc 0 _ rfl,?_,?_,?_⟩ <;> rw[A0f]
  ·exact hc 1 _ rfl
  ·exact hc 2 _ rfl
  ·exact hc 3 _ rfl
 ·rintro x v hv ⟨h0,h1,h2,h3⟩
  have ho:=h.r0v v hv
  refine⟨v.p1.v,v.p2.v,v.p3.v,h0,h1,h2,h3,ho.r1.rdU,ho.r2.rdZ ho.r2y,?_⟩
  exact RdL.mapB (P:=fun w (x:Addr) (s:LB d)=>∃ g i,x=⟨g,i,none⟩∧∀ j u,(A6t d s)[j]?=some u→w.cell? ⟨g,i+j,none⟩=some u) _ (ho.r3.rd _ fun g i a hc=>⟨g,i,rfl,hc⟩) fun _ s hs' ⟨g,i,e,hc⟩=>by rw[e];exact hs s g i (ho.r3s s hs') hc
theorem OwnB.at {base:Nat}:∀ (d:Nat){w:World}(s:LB d) (g i:Nat),OwnB base d w s→(∀ j u,(A6t d s)[j]?=some u→w.cell? ⟨g,i+j,none⟩=some u)→BAt d w ⟨g,i,none⟩ (LB.pl d s)
 | 0,_,_,_,_,h,_=>h.elim
 | d+1,w,s,g,i,h,hc=>by
  have h:OwnL (ekB d) (OwnB base d) w base s:=h
  refine⟨(BL.q0 s).v,(BL.q1 s).v,by simpa using hc 0 _ rfl,by rw[A0f];exact hc 1 _ rfl,h.rdV (fun s g i=>OwnB.at d s g i),h.r1.rdR h.r1y⟩
theorem OwnB.rd {d:Nat}{w:World}{base:Nat}{b:BL (LB d)}(h:OwnB base (d+1) w b):BRd d w b.q0.v b.q1.v (LB.pl (d+1) b):=
 have h:OwnL (ekB d) (OwnB base d) w base b:=h
 ⟨h.rdV (fun s g i=>OwnB.at d s g i),h.r1.rdR h.r1y⟩
end L
end Go.Proofs.YtcagbdokbnpdfaaGreatDoor
