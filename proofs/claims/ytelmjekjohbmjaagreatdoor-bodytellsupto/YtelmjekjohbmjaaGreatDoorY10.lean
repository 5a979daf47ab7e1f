import Derived.Test.YtelmjekjohbmjaaGreatDoorY02
import Derived.Test.YtelmjekjohbmjaaGreatDoorY01
import Derived.Maps.OwnOps
import Derived.Maps.Views
import Derived.Maps.OwnSet
import Derived.Test.YtelmjekjohbmjaaGreatDoorY00
import Derived.Deep.RegionLaw
namespace Go.Proofs.YtelmjekjohbmjaaGreatDoor
namespace L
open Go.RowKit
set_option maxHeartbeats 1000000 in
set_option maxRecDepth 100000 in
theorem B5r {w:World}{c:Nat}{x:Int}(hc:w.heap[c]?=some (.cells #[.int .i64 x] 3 (0,0))) (f:FI) :
  Calls Tryz.prog 39 #[.agg #[.string (S f.name),.int .i64 f.number,.int .i64 f.kind,.string (S f.type),.bool f.many,.int .i64 f.choice],.pointer (some ⟨c,0,none⟩)] w fun e w'=>e = .returned (.bool (decide (f.number=x)))∧Below w.heap.size w w':=by
 have c0:w.cell? ⟨c,0,none⟩=some (.int .i64 x):=A0a hc 0 _ rfl
 have hcl:c < w.heap.size:=(Array.getElem?_eq_some_iff.1 hc).1
 have hba:=(Below.refl w.heap.size w).alloc (Nat.le_refl _) (.cells #[.string (S f.name),.int .i64 f.number,.int .i64 f.kind,.string (S f.type),.bool f.many,.int .i64 f.choice] 53)
 obtain⟨q,Hq⟩:∃ q,Hid (q=decide (f.number=x)):=⟨_,rfl⟩
 have hq:(f.number == x)=q:=by rw[Hq.out,Bool.eq_iff_iff];simp
 rw[←Hq.out]
 go_enter Tryz.func39,Tryz.ntmps39
 go_wp2
 go_ret
 exact⟨rfl,hba⟩
set_option maxHeartbeats 1000000 in
set_option maxRecDepth 100000 in
theorem B3s {v:Value}{l:List FI}{w:World}{c:Nat}{x:Int}(h:RdL 6 FAt w v l) (hc:w.heap[c]?=some (.cells #[.int .i64 x] 3 (0,0))) :
  Calls Tryz.prog 38 #[v,.func (.func 39) #[] #[.pointer (some ⟨c,0,none⟩)]] w fun e w'=>e = .returned (.int .i64 (A0i (fun f=>decide (f.number=x)) l))∧Below w.heap.size w w':=by
 obtain⟨ao,n,cap,rfl,Hn,hcap⟩:=h.shape
 go_enter Tryz.func38,Tryz.ntmps38
 go_wp2_with fail
 go_loopg [8] n (fun m i wr=>∃ k:Nat,k+m=n∧i = .int .i64 k∧Hid (∀ a∈l.take k,decide (a.number=x)=false)∧Below w.heap.size w wr)
 case atStart=>exact⟨0,by omega,rfl,by show ∀ a∈_,_;simp,Below.refl _ _⟩
 case round=>
  obtain⟨k,hk,rfl,HK,hb⟩:=hrel
  have hcr:=(hb.block c (Array.getElem?_eq_some_iff.1 hc).1).trans hc
  by_cases hlt:k < n
  ·obtain⟨a,Ha⟩:∃ a,Hid (l[k]?=some a):=⟨l[k]'(by rw[←Hn.out];exact hlt),List.getElem?_eq_getElem (by rw[←Hn.out];exact hlt)⟩
   obtain⟨b,off,rfl,hat⟩:=(h.below FAt.stays hb).get FAt.plain Ha.out
   obtain⟨s0,s1,s2,s3,s4,s5⟩:=hat.at
   have hki:(k:Int) < (n:Int):=by omega
   have hcall:=B5r hcr a
   cases hq:decide (a.number=x) with
   | true=>
    have HF:Hid (A0i (fun f=>decide (f.number=x)) l=(k:Int)):=A2v Ha.out HK.out hq
    rw[hq] at hcall
    clear hq hat
    go_wp2_with fail
    refine hcall.mono ?_
    rintro e w1 ⟨rfl,hb1⟩
    go_wp2
    go_ret
    exact⟨by rw[HF.out];rfl,hb.trans (hb1.mono hb.size)⟩
   | false=>
    have HX:Hid (∀ a∈l.take (k+1),decide (a.number=x)=false):=by
     show ∀ a∈_,_
     rw[A0s Ha.out]
     intro y hy
     rcases List.mem_append.1 hy with hy|hy
     ·exact HK.out y hy
     ·rw[List.mem_singleton] at hy;rw[hy];exact hq
    rw[hq] at hcall
    clear hq hat
    go_wp2_with fail
    refine hcall.mono ?_
    rintro e w1 ⟨rfl,hb1⟩
    go_wp2_with fail
    go_roundg (n - (k+1))
    case measure=>omega
    case rel=>exact⟨k+1,by omega,by go_num,HX,hb.trans (hb1.mono hb.size)⟩
  ·have HF:Hid (A0i (fun f=>decide (f.number=x)) l = -1):=by
    have:=HK.out
    rw[List.take_of_length_le (by rw[←Hn.out];omega)] at this
    exact A1p this
   go_wp2
   go_ret
   exact⟨by rw[HF.out];rfl,hb⟩
set_option maxHeartbeats 1000000 in
set_option maxRecDepth 100000 in
theorem A4h {nm vf vb:Value}{l:List FI}{w:World}(h:RdL 6 FAt w vf l) (hvb:∃ ao n cap,vb = .slice ao n cap) (hnm:∃ s:List UInt8,nm = .string (S s)) (x:Int) :
  Calls Tryz.prog 16 #[.agg #[nm,vf,vb],.int .i64 x] w fun e w'=>e = .returned (.int .i64 (A0i (fun f=>decide (f.number=x)) l))∧Below w.heap.size w w':=by
 obtain⟨ao,n,cap,rfl,Hn,hcap⟩:=h.shape
 obtain⟨ae,ne,ce,rfl⟩:=hvb
 obtain⟨s,rfl⟩:=hnm
 have hb2:Below w.heap.size w ((w.alloc (.cells #[.string (S s),.slice ao n cap,.slice ae ne ce] 48)).alloc (.cells #[.int .i64 x] 3)):=((Below.refl _ _).alloc (Nat.le_refl _) _).alloc (by simp) _
 have hi:=B3s (h.below FAt.stays hb2) (A0o w _ _)
 have hmf:=A2y
 go_enter Tryz.func16,Tryz.ntmps16
 go_wp2_with fail
 refine hi.mono ?_
 rintro e w1 ⟨rfl,hb1⟩
 go_wp2
 go_ret
 exact⟨rfl,hb2.trans (hb1.mono hb2.size)⟩
set_option maxHeartbeats 1000000 in
set_option maxRecDepth 100000 in
theorem B7q {β:Type}{w:World}{c:Nat}{x:Int}(hc:w.heap[c]?=some (.cells #[.int .i64 x] 3 (0,0))) (v:VI β) (a1:Option Addr) (n1 c1:Nat) (a2:Option Addr) (n2 c2:Nat) (a3:Option Addr) (n3 c3:Nat) :
  Calls Tryz.prog 69 #[.agg #[.int .i64 v.number,.slice a1 n1 c1,.slice a2 n2 c2,.slice a3 n3 c3],.pointer (some ⟨c,0,none⟩)] w fun e w'=>e = .returned (.bool (decide (v.number=x)))∧Below w.heap.size w w':=by
 have c0:w.cell? ⟨c,0,none⟩=some (.int .i64 x):=A0a hc 0 _ rfl
 have hcl:c < w.heap.size:=(Array.getElem?_eq_some_iff.1 hc).1
 have hba:=(Below.refl w.heap.size w).alloc (Nat.le_refl _) (.cells #[.int .i64 v.number,.slice a1 n1 c1,.slice a2 n2 c2,.slice a3 n3 c3] 34)
 obtain⟨q,Hq⟩:∃ q,Hid (q=decide (v.number=x)):=⟨_,rfl⟩
 have hq:(v.number == x)=q:=by rw[Hq.out,Bool.eq_iff_iff];simp
 rw[←Hq.out]
 go_enter Tryz.func69,Tryz.ntmps69
 go_wp2
 go_ret
 exact⟨rfl,hba⟩
set_option maxHeartbeats 1000000 in
set_option maxRecDepth 100000 in
theorem B4u {β:Type}{P:World→Addr→β→Prop}(hP:A3p P){v:Value}{l:List (VI β)}{w:World}{c:Nat}{x:Int}(h:RdL 4 (VAt P) w v l) (hc:w.heap[c]?=some (.cells #[.int .i64 x] 3 (0,0))) :
  Calls Tryz.prog 68 #[v,.func (.func 69) #[] #[.pointer (some ⟨c,0,none⟩)]] w fun e w'=>e = .returned (.int .i64 (A0i (fun v=>decide (v.number=x)) l))∧Below w.heap.size w w':=by
 obtain⟨ao,n,cap,rfl,Hn,hcap⟩:=h.shape
 go_enter Tryz.func68,Tryz.ntmps68
 go_wp2_with fail
 go_loopg [8] n (fun m i wr=>∃ k:Nat,k+m=n∧i = .int .i64 k∧Hid (∀ a∈l.take k,decide (a.number=x)=false)∧Below w.heap.size w wr)
 case atStart=>exact⟨0,by omega,rfl,by show ∀ a∈_,_;simp,Below.refl _ _⟩
 case round=>
  obtain⟨k,hk,rfl,HK,hb⟩:=hrel
  have hcr:=(hb.block c (Array.getElem?_eq_some_iff.1 hc).1).trans hc
  by_cases hlt:k < n
  ·obtain⟨a,Ha⟩:∃ a,Hid (l[k]?=some a):=⟨l[k]'(by rw[←Hn.out];exact hlt),List.getElem?_eq_getElem (by rw[←Hn.out];exact hlt)⟩
   obtain⟨b,off,rfl,hat⟩:=(h.below (VAt.stays hP) hb).get VAt.plain Ha.out
   obtain⟨v1,v2,v3,s0,s1,s2,s3,r1,r2,r3⟩:=hat.at
   obtain⟨a1,n1,c1,rfl,_,_⟩:=r1.shape
   obtain⟨a2,n2,c2,rfl,_,_⟩:=r2.shape
   obtain⟨a3,n3,c3,rfl,_,_⟩:=r3.shape
   have hki:(k:Int) < (n:Int):=by omega
   have hcall:=B7q hcr a a1 n1 c1 a2 n2 c2 a3 n3 c3
   cases hq:decide (a.number=x) with
   | true=>
    have HF:Hid (A0i (fun v=>decide (v.number=x)) l=(k:Int)):=A2v Ha.out HK.out hq
    rw[hq] at hcall
    clear hq hat r1 r2 r3
    go_wp2_with fail
    refine hcall.mono ?_
    rintro e w1 ⟨rfl,hb1⟩
    go_wp2
    go_ret
    exact⟨by rw[HF.out];rfl,hb.trans (hb1.mono hb.size)⟩
   | false=>
    have HX:Hid (∀ a∈l.take (k+1),decide (a.number=x)=false):=by
     show ∀ a∈_,_
     rw[A0s Ha.out]
     intro y hy
     rcases List.mem_append.1 hy with hy|hy
     ·exact HK.out y hy
     ·rw[List.mem_singleton] at hy;rw[hy];exact hq
    rw[hq] at hcall
    clear hq hat r1 r2 r3
    go_wp2_with fail
    refine hcall.mono ?_
    rintro e w1 ⟨rfl,hb1⟩
    go_wp2_with fail
    go_roundg (n - (k+1))
    case measure=>omega
    case rel=>exact⟨k+1,by omega,by go_num,HX,hb.trans (hb1.mono hb.size)⟩
  ·have HF:Hid (A0i (fun v=>decide (v.number=x)) l = -1):=by
    have:=HK.out
    rw[List.take_of_length_le (by rw[←Hn.out];omega)] at this
    exact A1p this
   go_wp2
   go_ret
   exact⟨by rw[HF.out];rfl,hb⟩
set_option maxHeartbeats 1000000 in
set_option maxRecDepth 100000 in
theorem A7r {β:Type}{P:World→Addr→β→Prop}(hP:A3p P){v0 v1:Value}{l:List (VI β)}{w:World}(h:RdL 4 (VAt P) w v0 l) (hv1:∃ ao n cap,v1 = .slice ao n cap) (x:Int) :
  Calls Tryz.prog 37 #[.agg #[v0,v1],.int .i64 x] w fun e w'=>e = .returned (.int .i64 (A0i (fun v=>decide (v.number=x)) l))∧Below w.heap.size w w':=by
 obtain⟨ao,n,cap,rfl,Hn,hcap⟩:=h.shape
 obtain⟨ae,ne,ce,rfl⟩:=hv1
 have hb2:Below w.heap.size w ((w.alloc (.cells #[.slice ao n cap,.slice ae ne ce] 29)).alloc (.cells #[.int .i64 x] 3)):=((Below.refl _ _).alloc (Nat.le_refl _) _).alloc (by simp) _
 have hi:=B4u hP (h.below (VAt.stays hP) hb2) (A0o w _ _)
 have hmf:=A2y
 go_enter Tryz.func37,Tryz.ntmps37
 go_wp2_with fail
 refine hi.mono ?_
 rintro e w1 ⟨rfl,hb1⟩
 go_wp2
 go_ret
 exact⟨rfl,hb2.trans (hb1.mono hb2.size)⟩
end L
end Go.Proofs.YtelmjekjohbmjaaGreatDoor
namespace Go.Proofs.YtelmjekjohbmjaaGreatDoor
namespace L
open Go.RowKit Go.WideMaps Go.Maps
theorem B6e:Keyed Tryz.prog 3:=int_keyed Tryz.underlying3
theorem C1t (w:World):(zeroValue 3).run Tryz.prog w = .ok (.int .i64 0) w:=by kernel_rfl
abbrev OwnM (w:World) (b n:Nat) (D:DataW Unit):Prop:=w.ownsMap Tryz.prog 3 (plainElem (H:=Unit) Tryz.prog 3) b n D
theorem OwnM.below {w w':World}{b n:Nat}{D:DataW Unit}(h:OwnM w b n D) (hb:Below w.heap.size w w'):OwnM w' b n D:=by
 have hlt:=h.lt
 obtain⟨es,clock,h1,F,hs,hD⟩:=h
 exact⟨es,clock,(hb.block b hlt).trans h1,F,hs,hD⟩
theorem OwnM.block {w w':World}{b n:Nat}{D:DataW Unit}(h:OwnM w b n D) (hb:w'.heap[b]?=w.heap[b]?):OwnM w' b n D:=by
 obtain⟨es,clock,h1,F,hs,hD⟩:=h
 exact⟨es,clock,hb.trans h1,F,hs,hD⟩
def A1o (l:List FI) (x:Int):Int:=match l.find? (fun f=>decide (f.number=x)) with|some f=>f.choice|none=>0
def ChD (D:DataW Unit) (l:List FI):Prop:=∀ x:Int,D.atKey (.int .i64 x) (.lit (.int .i64 0)) = .lit (.int .i64 (A1o l x))∧Maps.has D (.int .i64 x)=l.any fun f=>decide (f.number=x)
theorem ChD.nil:ChD (.map []) []:=fun _=>⟨rfl,rfl⟩
theorem ChD.put {D:DataW Unit}{l:List FI}{f:FI}(h:ChD D l) (hD:IsMap D) (hf:(l.any fun g=>decide (g.number=f.number))=false):ChD (D.put (.int .i64 f.number) (.lit (.int .i64 f.choice))) (l++[f]):=by
 intro x
 by_cases e:x=f.number
 ·subst e
  rw[atKey_put_same hD (show WideAt.IsKeyLit (.int .i64 f.number) from trivial),has_put_same hD (show WideAt.IsKeyLit (.int .i64 f.number) from trivial)]
  have h1:l.find? (fun g=>decide (g.number=f.number))=none:=by
   rw[List.find?_eq_none]
   intro y hy
   rw[List.any_eq_false] at hf
   exact hf y hy
  refine⟨?_,by simp⟩
  unfold A1o
  rw[List.find?_append,h1]
  simp
 ·have e':¬ f.number=x:=fun h=>e h.symm
  rw[atKey_put_other (by simpa using e),has_put_other (by simpa using e),(h x).1,(h x).2]
  unfold A1o
  rw[List.find?_append,List.any_append]
  simp[e']
theorem ChD.skip {D:DataW Unit}{l:List FI}{f:FI}(h:ChD D l) (hf:(l.any fun g=>decide (g.number=f.number))=true):ChD D (l++[f]):=by
 intro x
 rw[(h x).1,(h x).2]
 unfold A1o
 rw[List.find?_append,List.any_append]
 by_cases e:f.number=x
 ·subst e
  rw[List.any_eq_true] at hf
  obtain⟨y,hy,hq⟩:=hf
  cases h1:l.find? (fun g=>decide (g.number=f.number)) with
  | none=>rw[List.find?_eq_none] at h1;exact absurd hq (h1 y hy)
  | some z=>exact⟨by simp,by simp;exact⟨y,hy,of_decide_eq_true hq⟩⟩
 ·simp[e]
theorem ChD.get {D:DataW Unit}{l:List FI}{x c:Int}(h:ChD D l) (hc:D.atKey (.int .i64 x) (.lit (.int .i64 0)) = .lit (.int .i64 c)):c=A1o l x:=by
 have:=(h x).1.symm.trans hc
 injection this with h1
 injection h1 with _ h2
 exact h2.symm
set_option maxHeartbeats 4000000 in
set_option maxRecDepth 100000 in
theorem A8x {nm vf vb:Value}{l:List FI}{w:World}(h:RdL 6 FAt w vf l) (hvb:∃ ao n cap,vb = .slice ao n cap) (hnm:∃ s:List UInt8,nm = .string (S s)) (hok:∀ f∈l,I64 f.number∧I64 f.choice) (hl:l.length≤140737488355328) :
  Calls Tryz.prog 111 #[.agg #[nm,vf,vb]] w fun e w'=>∃ b D,e = .returned (.map (some b))∧w.heap.size≤b∧OwnM w' b l.length D∧ChD D l∧Below w.heap.size w w':=by
 obtain⟨ao,n,cap,rfl,Hn,hcap⟩:=h.shape
 obtain⟨ae,ne,ce,rfl⟩:=hvb
 obtain⟨s,rfl⟩:=hnm
 have hmm:=@run_makeMap Tryz.prog
 have hn:n≤140737488355328:=by rw[Hn.out];exact hl
 obtain⟨W2,HW2⟩:∃ W2,Hid (W2=w.alloc (.cells #[.string (S s),.slice ao n cap,.slice ae ne ce] 48)):=⟨_,rfl⟩
 have hb2:Below w.heap.size w W2:=by rw[HW2.out];exact(Below.refl _ _).alloc (Nat.le_refl _) _
 have hz2:W2.heap.size=w.heap.size+1:=by rw[HW2.out];simp
 obtain⟨B,HB⟩:∃ B,Hid (B=w.heap.size+1):=⟨_,rfl⟩
 have hB1:B≤w.heap.size+1:=Nat.le_of_eq HB.out
 have hB2:w.heap.size+1≤B:=Nat.le_of_eq HB.out.symm
 have hM0:OwnM (W2.alloc (.map #[] 0)) B 0 (.map []):=by
  have:=World.ownsMap_made W2 Tryz.prog 3 (plainElem (H:=Unit) Tryz.prog 3)
  rw[hz2,←HB.out] at this
  exact this
 have hb3:Below B W2 (W2.alloc (.map #[] 0)):=(Below.refl _ _).alloc (by omega) _
 obtain⟨W3,HW3⟩:∃ W3,Hid (W3=W2.alloc (.map #[] 0)):=⟨_,rfl⟩
 rw[←HW3.out] at hM0 hb3
 have hcl:∀ V,Below B W2 V→Below w.heap.size w V:=fun V hV=>hb2.trans (hV.mono (by omega))
 have hz2':=Nat.le_of_eq hz2
 clear hz2
 go_enter Tryz.func111,Tryz.ntmps111
 go_wp2_with fail
 rw[←HW2.out,←HW3.out,←HB.out]
 go_loopg [12] n (fun gm i wr=>∃ (k:Nat) (D:DataW Unit),k+gm=n∧i = .int .i64 k∧OwnM wr B k D∧ChD D (l.take k)∧Below B W2 wr)
 case atStart=>exact⟨0,.map [],by omega,rfl,hM0,by rw[List.take_zero];exact ChD.nil,hb3⟩
 case round=>
  obtain⟨k,D,hk,rfl,hown,hch,hbr⟩:=hrel
  by_cases hlt:k < n
  ·obtain⟨a,Ha⟩:∃ a,Hid (l[k]?=some a):=⟨l[k]'(by rw[←Hn.out];exact hlt),List.getElem?_eq_getElem (by rw[←Hn.out];exact hlt)⟩
   obtain⟨b,off,rfl,hat⟩:=(h.below FAt.stays (hcl wr hbr)).get FAt.plain Ha.out
   obtain⟨s0,s1,s2,s3,s4,s5⟩:=hat.at
   have hki:(k:Int) < (n:Int):=by omega
   obtain⟨i1,i2⟩:=hok a (List.mem_of_getElem? Ha.out)
   have hkey:keyOf Tryz.prog 3 (.int .i64 a.number)=some (.int .i64 a.number):=keyOf_int_mk Tryz.underlying3 (WalkArith.wf_i64 i1)
   have hval:plainElem (H:=Unit) Tryz.prog 3 (.int .i64 a.choice)=some (.lit (.int .i64 a.choice),[]):=plainElem_int Tryz.underlying3 (WalkArith.wf_i64 i2)
   obtain⟨Wm,HWm⟩:∃ Wm,Hid (Wm=wr.alloc (.cells #[.string (S a.name),.int .i64 a.number,.int .i64 a.kind,.string (S a.type),.bool a.many,.int .i64 a.choice] 53)):=⟨_,rfl⟩
   have hbm:Below wr.heap.size wr Wm:=by rw[HWm.out];exact(Below.refl _ _).alloc (Nat.le_refl _) _
   have hzB:=hown.lt
   have hbrm:Below B W2 Wm:=hbr.trans (hbm.mono (by omega))
   have hownm:=hown.below hbm
   have hm1:=hownm.isMap
   obtain⟨v,ps,hrun,hv⟩:=hownm.look_ok B6e Tryz.underlying150 (C1t _) (plainElem_int Tryz.underlying3 (WalkArith.wf_i64 (by omega))) hkey
   obtain⟨c,rfl,_,_⟩:=plainElem_int_inv Tryz.underlying3 hv
   rw[(hch a.number).2] at hrun
   cases hq:(l.take k).any (fun f=>decide (f.number=a.number)) with
   | true=>
    have HX:ChD D (l.take (k+1)):=by rw[A0s Ha.out];exact hch.skip hq
    rw[hq,HWm.out] at hrun
    clear hq hat hch hv hown
    go_wp2_with fail
    rw[←HWm.out]
    go_roundg (n - (k+1))
    case measure=>omega
    case rel=>exact⟨k+1,D,by omega,by go_num,hownm.mono (by omega),HX,hbrm⟩
   | false=>
    have HX:ChD (D.put (.int .i64 a.number) (.lit (.int .i64 a.choice))) (l.take (k+1)):=by rw[A0s Ha.out];exact hch.put hm1 hq
    rw[hq,HWm.out] at hrun
    clear hq hat hch hv hown
    rw[HWm.out] at hownm
    go_wp2_with (at_mapUpdate;refine wpList_mapUpdate_own _ rfl _ _ _ 150 rfl 3 3 B6e Tryz.underlying150 _ B k _ rfl hownm (by unfold maxLen;omega) _ _ _ rfl rfl hkey _ [] hval ?_)
    intro w1 hown1 hg1
    rw[←HWm.out] at hg1
    have hB1w:Below B W2 w1:=hbrm.grown hg1 (by have:=hbm.size;omega) (fun j hj=>by cases hj;exact Nat.le_refl _)
    clear hrun hownm
    go_wp2_with fail
    go_roundg (n - (k+1))
    case measure=>omega
    case rel=>exact⟨k+1,_,by omega,by go_num,hown1,HX,hB1w⟩
  ·have HT:Hid (l.take k=l):=List.take_of_length_le (by rw[←Hn.out];omega)
   have hkl:Hid (k=l.length):=(show k=l.length by rw[←Hn.out];omega)
   go_wp2
   go_ret
   exact⟨B,D,rfl,by omega,by rw[←hkl.out];exact hown,by rw[HT.out] at hch;exact hch,hcl _ hbr⟩
end L
end Go.Proofs.YtelmjekjohbmjaaGreatDoor
namespace Go.Proofs.YtelmjekjohbmjaaGreatDoor
namespace L
open Go.RowKit
def B1h (n:Nat):Bool:=decide (n < 2147483648)||decide (18446744071562067968≤n)
def A1c (kind:Int) (n:Nat):Int:=
 if kind=1∨kind=2∨kind=3∨kind=6 then 0
 else if kind=4 then(if n≤1 then 0 else 3)
 else if kind=5 then(if B1h n then 0 else 3)
 else if kind=7 then(if n≤4294967295 then 0 else 3)
 else 1
theorem B5p (n:Nat) (hn:n < 18446744073709551616):(IntKind.u64.wrap (wrap32 (n:Int)) == (n:Int))=B1h n:=by
 have e:IntKind.u64.wrap (wrap32 (n:Int))=wrap32 (n:Int)%18446744073709551616:=by simp[IntKind.wrap,IntKind.bits,IntKind.signed]
 rw[e,Bool.eq_iff_iff]
 unfold wrap32 B1h
 simp
 omega
set_option maxHeartbeats 1000000 in
set_option maxRecDepth 100000 in
theorem B2g {w:World}(kind:Int) (n:Nat) (hn:n < 18446744073709551616) :
  Calls Tryz.prog 6 #[.int .i64 kind,.int .u64 (n:Int)] w fun e w'=>e = .returned (.int .i64 (A1c kind n))∧w=w':=by
 have hw:=B5p n hn
 by_cases h5:kind=5
 ·subst h5
  cases hq:B1h n with
  | true=>
   have HR:Hid (A1c 5 n=0):=by show _=_;unfold A1c;simp[hq]
   rw[hq] at hw
   clear hq
   go_enter Tryz.func6,Tryz.ntmps6
   go_wp2
   go_ret
   exact⟨by rw[HR.out];rfl,rfl⟩
  | false=>
   have HR:Hid (A1c 5 n=3):=by show _=_;unfold A1c;simp[hq]
   rw[hq] at hw
   clear hq
   go_enter Tryz.func6,Tryz.ntmps6
   go_wp2
   go_ret
   exact⟨by rw[HR.out];rfl,rfl⟩
 clear hw
 by_cases h4:kind=4
 ·subst h4
  by_cases hq:n≤1
  ·have HR:Hid (A1c 4 n=0):=by show _=_;unfold A1c;simp[hq]
   have hq':decide ((n:Int)≤1)=true:=by simp;omega
   clear hq
   go_enter Tryz.func6,Tryz.ntmps6
   go_wp2
   go_ret
   exact⟨by rw[HR.out];rfl,rfl⟩
  ·have HR:Hid (A1c 4 n=3):=by show _=_;unfold A1c;simp[hq]
   have hq':decide ((n:Int)≤1)=false:=by simp;omega
   clear hq
   go_enter Tryz.func6,Tryz.ntmps6
   go_wp2
   go_ret
   exact⟨by rw[HR.out];rfl,rfl⟩
 by_cases h7:kind=7
 ·subst h7
  by_cases hq:n≤4294967295
  ·have HR:Hid (A1c 7 n=0):=by show _=_;unfold A1c;simp[hq]
   have hq':decide ((n:Int)≤4294967295)=true:=by simp;omega
   clear hq
   go_enter Tryz.func6,Tryz.ntmps6
   go_wp2
   go_ret
   exact⟨by rw[HR.out];rfl,rfl⟩
  ·have HR:Hid (A1c 7 n=3):=by show _=_;unfold A1c;simp[hq]
   have hq':decide ((n:Int)≤4294967295)=false:=by simp;omega
   clear hq
   go_enter Tryz.func6,Tryz.ntmps6
   go_wp2
   go_ret
   exact⟨by rw[HR.out];rfl,rfl⟩
 by_cases h0:kind=1∨kind=2∨kind=3∨kind=6
 ·have HR:Hid (A1c kind n=0):=by show _=_;unfold A1c;rw[if_pos h0]
  clear h5 h4 h7
  rcases h0 with rfl|rfl|rfl|rfl
  all_goals
   go_enter Tryz.func6,Tryz.ntmps6
   go_wp2
   go_ret
   exact⟨by rw[HR.out];rfl,rfl⟩
 ·have HR:Hid (A1c kind n=1):=by show _=_;unfold A1c;rw[if_neg h0,if_neg h4,if_neg h5,if_neg h7]
  have e1:(kind == 1)=false:=by simp;omega
  have e2:(kind == 2)=false:=by simp;omega
  have e3:(kind == 3)=false:=by simp;omega
  have e4:(kind == 4)=false:=by simpa using h4
  have e5:(kind == 5)=false:=by simpa using h5
  have e6:(kind == 6)=false:=by simp;omega
  have e7:(kind == 7)=false:=by simpa using h7
  clear h0 h4 h5 h7
  go_enter Tryz.func6,Tryz.ntmps6
  go_wp2
  go_ret
  exact⟨by rw[HR.out];rfl,rfl⟩
def A4j {β:Type}(v:VI β):Nat:=v.bits.length+v.bytes.length+v.subs.length
def A1d {β:Type}(x:FI) (v:VI β):Bool:=
 if x.kind=8∨x.kind=9 then decide (0 < v.bits.length+v.subs.length)
 else if x.kind=10 then decide (0 < v.bits.length+v.bytes.length)
 else decide (0 < v.bytes.length+v.subs.length)
def A2z {β:Type}(x:FI) (v:VI β):Bool:=decide (A4j v < 1)||(decide (60 < A4j v)||(decide (1 < A4j v)&&!x.many))
end L
end Go.Proofs.YtelmjekjohbmjaaGreatDoor
namespace Go.Proofs.YtelmjekjohbmjaaGreatDoor
namespace L
open Go.RowKit
def vFI (x:FI):Value:=.agg #[.string (S x.name),.int .i64 x.number,.int .i64 x.kind,.string (S x.type),.bool x.many,.int .i64 x.choice]
set_option maxHeartbeats 1000000 in
set_option maxRecDepth 100000 in
theorem B4d {β:Type}{w:World}(x:FI) (v:VI β){a1 a2 a3:Option Addr}{n1 n2 n3 c1 c2 c3:Nat}(H1:Hid (n1=v.bits.length)) (H2:Hid (n2=v.bytes.length)) (H3:Hid (n3=v.subs.length)) (b1:n1≤140737488355328) (b2:n2≤140737488355328) (b3:n3≤140737488355328) :
  Calls Tryz.prog 93 #[vFI x,.agg #[.int .i64 v.number,.slice a1 n1 c1,.slice a2 n2 c2,.slice a3 n3 c3]] w fun e w'=>e = .returned (.bool (A1d x v))∧Below w.heap.size w w':=by
 have hb2:Below w.heap.size w ((w.alloc (.cells #[.string (S x.name),.int .i64 x.number,.int .i64 x.kind,.string (S x.type),.bool x.many,.int .i64 x.choice] 53)).alloc (.cells #[.int .i64 v.number,.slice a1 n1 c1,.slice a2 n2 c2,.slice a3 n3 c3] 34)):=((Below.refl _ _).alloc (Nat.le_refl _) _).alloc (by simp) _
 unfold vFI
 by_cases h8:x.kind=8
 ·have HR:Hid (A1d x v=decide ((0:Int) < (n1:Int)+(n3:Int))):=by
   show _=_;unfold A1d;rw[if_pos (Or.inl h8),H1.out,H3.out];exact decide_eq_decide.2 (by omega)
  have e8:(x.kind == 8)=true:=by simp[h8]
  clear h8
  go_enter Tryz.func93,Tryz.ntmps93
  go_wp2
  go_ret
  exact⟨by rw[HR.out];rfl,hb2⟩
 have e8:(x.kind == 8)=false:=by simpa using h8
 by_cases h9:x.kind=9
 ·have HR:Hid (A1d x v=decide ((0:Int) < (n1:Int)+(n3:Int))):=by
   show _=_;unfold A1d;rw[if_pos (Or.inr h9),H1.out,H3.out];exact decide_eq_decide.2 (by omega)
  have e9:(x.kind == 9)=true:=by simp[h9]
  clear h8 h9
  go_enter Tryz.func93,Tryz.ntmps93
  go_wp2
  go_ret
  exact⟨by rw[HR.out];rfl,hb2⟩
 have e9:(x.kind == 9)=false:=by simpa using h9
 by_cases h10:x.kind=10
 ·have HR:Hid (A1d x v=decide ((0:Int) < (n1:Int)+(n2:Int))):=by
   show _=_;unfold A1d;rw[if_neg (by omega),if_pos h10,H1.out,H2.out];exact decide_eq_decide.2 (by omega)
  have e10:(x.kind == 10)=true:=by simp[h10]
  clear h8 h9 h10
  go_enter Tryz.func93,Tryz.ntmps93
  go_wp2
  go_ret
  exact⟨by rw[HR.out];rfl,hb2⟩
 ·have HR:Hid (A1d x v=decide ((0:Int) < (n2:Int)+(n3:Int))):=by
   show _=_;unfold A1d;rw[if_neg (by omega),if_neg h10,H2.out,H3.out];exact decide_eq_decide.2 (by omega)
  have e10:(x.kind == 10)=false:=by simpa using h10
  clear h8 h9 h10
  go_enter Tryz.func93,Tryz.ntmps93
  go_wp2
  go_ret
  exact⟨by rw[HR.out];rfl,hb2⟩
set_option maxHeartbeats 1000000 in
set_option maxRecDepth 100000 in
theorem B8z {β:Type}{w:World}(x:FI) (v:VI β){a1 a2 a3:Option Addr}{n1 n2 n3 c1 c2 c3:Nat}(H1:Hid (n1=v.bits.length)) (H2:Hid (n2=v.bytes.length)) (H3:Hid (n3=v.subs.length)) (b1:n1≤140737488355328) (b2:n2≤140737488355328) (b3:n3≤140737488355328) :
  Calls Tryz.prog 94 #[vFI x,.agg #[.int .i64 v.number,.slice a1 n1 c1,.slice a2 n2 c2,.slice a3 n3 c3]] w fun e w'=>e = .returned (.bool (A2z x v))∧Below w.heap.size w w':=by
 have hb2:Below w.heap.size w ((w.alloc (.cells #[.string (S x.name),.int .i64 x.number,.int .i64 x.kind,.string (S x.type),.bool x.many,.int .i64 x.choice] 53)).alloc (.cells #[.int .i64 v.number,.slice a1 n1 c1,.slice a2 n2 c2,.slice a3 n3 c3] 34)):=((Below.refl _ _).alloc (Nat.le_refl _) _).alloc (by simp) _
 have hm:A4j v=n1+n2+n3:=by unfold A4j;rw[H1.out,H2.out,H3.out]
 unfold vFI
 by_cases h1:n1+n2+n3 < 1
 ·have HR:Hid (A2z x v=true):=by show _=_;unfold A2z;rw[hm];simp;omega
  have d1:decide ((n1:Int)+(n2:Int)+(n3:Int) < 1)=true:=by simp;omega
  clear hm h1
  go_enter Tryz.func94,Tryz.ntmps94
  go_wp2
  go_ret
  exact⟨by rw[HR.out];rfl,hb2⟩
 have d1:decide ((n1:Int)+(n2:Int)+(n3:Int) < 1)=false:=by simp;omega
 by_cases h2:60 < n1+n2+n3
 ·have HR:Hid (A2z x v=true):=by show _=_;unfold A2z;rw[hm];simp[h2]
  have d2:decide ((60:Int) < (n1:Int)+(n2:Int)+(n3:Int))=true:=by simp;omega
  clear hm h1 h2
  go_enter Tryz.func94,Tryz.ntmps94
  go_wp2
  go_ret
  exact⟨by rw[HR.out];rfl,hb2⟩
 have d2:decide ((60:Int) < (n1:Int)+(n2:Int)+(n3:Int))=false:=by simp;omega
 by_cases h3:1 < n1+n2+n3
 ·have d3:decide ((1:Int) < (n1:Int)+(n2:Int)+(n3:Int))=true:=by simp;omega
  have HR:Hid (A2z x v = !x.many):=by
   show _=_;unfold A2z;rw[hm,decide_eq_false h1,decide_eq_false h2,decide_eq_true h3];simp
  clear hm h1 h2 h3
  go_enter Tryz.func94,Tryz.ntmps94
  go_wp2
  go_ret
  exact⟨by rw[HR.out];rfl,hb2⟩
 ·have d3:decide ((1:Int) < (n1:Int)+(n2:Int)+(n3:Int))=false:=by simp;omega
  have HR:Hid (A2z x v=false):=by
   show _=_;unfold A2z;rw[hm,decide_eq_false h1,decide_eq_false h2,decide_eq_false h3];simp
  clear hm h1 h2 h3
  go_enter Tryz.func94,Tryz.ntmps94
  go_wp2
  go_ret
  exact⟨by rw[HR.out];rfl,hb2⟩
end L
end Go.Proofs.YtelmjekjohbmjaaGreatDoor
namespace Go.Proofs.YtelmjekjohbmjaaGreatDoor
namespace L
open Go.RowKit
section
variable {α:Type}{w:World}
theorem EK.flat_get (E:EK α){m:List α}{i:Nat}{u:Value}(h:(E.flat m)[i]?=some u):∃ y,m[i / E.size]?=some y∧(E.enc y)[i%E.size]?=some u:=by
 have hi:i < (E.flat m).length:=(List.getElem?_eq_some_iff.1 h).1
 rw[E.flat_len] at hi
 have hk:i / E.size < m.length:=by rw[Nat.div_lt_iff_lt_mul E.pos];exact hi
 refine⟨m[i / E.size],List.getElem?_eq_getElem hk,?_⟩
 have:=E.flat_at m (i / E.size) (i%E.size) _ (List.getElem?_eq_getElem hk) (Nat.mod_lt _ E.pos)
 rw[←this,Nat.mul_comm,Nat.div_add_mod]
 exact h
theorem B7x {o:Oper}{a:Act}{K:Act→World→Prop}{Q:Exit→Act→World→Prop}(E:EK α) (s x:Operand)
  (ho:o.op = .call { callee:=.builtin .append,args:=#[s,x],argTypes:=#[E.slice,E.slice] })
  (base:Nat) (v:Value) (l m:List α) (hs:a.eval s=v) (hown:Row E w base v l) (ao:Option Addr) (n cap:Nat) (hx:a.eval x = .slice ao n cap) (hm:m.length=n) (hnil:ao=none→n=0∧cap=0)
  (hcell:∀ ad,ao=some ad→∀ k y,m[k]?=some y→∀ j u,(E.enc y)[j]?=some u→w.cell? (ad.add (k*E.size+j))=some u)
  (hby:1≤E.bytes) (hlen:(l.length+m.length)*E.bytes≤140737488355328) (hb:base≤w.heap.size)
  (h:∀ v' w',Row E w' base v' (l++m)→w.grownBy w' v.ownBlock→K (a.put o.dst v') w'):o.wp Tryz.prog a w K Q:=by
 obtain⟨i0,hi,hz0,hz1,hz2⟩:=info_parts E.info
 have h63:l.length+m.length≤maxLen:=by
  have:l.length+m.length≤(l.length+m.length)*E.bytes:=Nat.le_mul_of_pos_right _ hby
  unfold maxLen;omega
 cases ao with
 | none=>
  obtain⟨rfl,rfl⟩:=hnil rfl
  have hqs:m = []:=List.eq_nil_of_length_eq_zero hm
  subst hqs
  have hrun:=run_append_owned_none (P:=Tryz.prog) (w:=w) base E.slice o.type E.elem i0 E.size E.under hi v l.length (E.flat l) hown
  unfold Oper.wp
  simp[execOp,ho,resolve,invoke,builtin,hs,hx,hrun,Result.andThen]
  exact h v w (by rw[List.append_nil];exact hown) ⟨rfl,rfl,rfl,Nat.le_refl _,fun _ _ _=>rfl⟩
 | some ad=>
  refine wp_append_own w s x E.slice ho base E.elem i0 _ E.size E.bytes E.under hi hz0 hz1 hz2 E.zs E.pos v l.length _ hs hown ad n cap
   (E.flat m) hx (by rw[E.flat_len,hm]) ?_ ?_ (by rw[←hm];exact h63) (by rw[←hm];exact hlen) hb ?_
  ·intro j u hu
   obtain⟨y,h1,h2⟩:=E.flat_get hu
   have:=hcell ad rfl _ y h1 _ u h2
   rwa [Nat.mul_comm,Nat.div_add_mod] at this
  ·intro y hy
   simp only[EK.flat,List.mem_flatMap] at hy
   obtain⟨p,hp,hy⟩:=hy
   exact E.one p y hy
  ·intro v' w' h1 h2 _
   refine h v' w' ?_ h2
   show w'.ownsRow base E.elem E.size v' (l++m).length (E.flat (l++m))
   rw[List.length_append,E.flat_append,hm]
   exact h1
theorem A0d {ops:Array Oper}{o:Oper}{a:Act}{K:Act→World→Prop}{Q:Exit→Act→World→Prop}{X:Prop}(hgd:o.guard=none) (E:EK α) (s x:Operand)
  (ho:o.op = .call { callee:=.builtin .append,args:=#[s,x],argTypes:=#[E.slice,E.slice] })
  (base:Nat) (v:Value) (l m:List α) (hs:a.eval s=v) (hown:Row E w base v l) (ao:Option Addr) (n cap:Nat) (hx:a.eval x = .slice ao n cap) (hm:m.length=n) (hnil:ao=none→n=0∧cap=0)
  (hcell:∀ ad,ao=some ad→∀ k y,m[k]?=some y→∀ j u,(E.enc y)[j]?=some u→w.cell? (ad.add (k*E.size+j))=some u)
  (hby:1≤E.bytes) (hlen:(l.length+m.length)*E.bytes≤140737488355328) (hb:base≤w.heap.size)
  (h:∀ v' w',Row E w' base v' (l++m)→w.grownBy w' v.ownBlock→K (a.put o.dst v') w') :
  if Region.wanted o (yielded ops a.tmps)=true then Oper.wp Tryz.prog o a w K Q else X:=by
 have hw:Region.wanted o (yielded ops a.tmps)=true:=by simp[Region.wanted,hgd]
 rw[if_pos hw]
 exact B7x E s x ho base v l m hs hown ao n cap hx hm hnil hcell hby hlen hb h
theorem A5d {ops:Array Oper}{rest:List Oper}{o:Oper}{a:Act}{Q:Exit→Act→World→Prop}(hgd:o.guard=none) (E:EK α) (s x:Operand)
  (ho:o.op = .call { callee:=.builtin .append,args:=#[s,x],argTypes:=#[E.slice,E.slice] })
  (base:Nat) (v:Value) (l m:List α) (hs:a.eval s=v) (hown:Row E w base v l) (ao:Option Addr) (n cap:Nat) (hx:a.eval x = .slice ao n cap) (hm:m.length=n) (hnil:ao=none→n=0∧cap=0)
  (hcell:∀ ad,ao=some ad→∀ k y,m[k]?=some y→∀ j u,(E.enc y)[j]?=some u→w.cell? (ad.add (k*E.size+j))=some u)
  (hby:1≤E.bytes) (hlen:(l.length+m.length)*E.bytes≤140737488355328) (hb:base≤w.heap.size)
  (h:∀ v' w',Row E w' base v' (l++m)→w.grownBy w' v.ownBlock→wpList Tryz.prog ops Q rest (a.put o.dst v') w'):wpList Tryz.prog ops Q (o::rest) a w:=
 wpList_plain hgd fun _ hK=>B7x E s x ho base v l m hs hown ao n cap hx hm hnil hcell hby hlen hb fun v' w' h2 h3=>hK _ _ (h v' w' h2 h3)
end
end L
end Go.Proofs.YtelmjekjohbmjaaGreatDoor
