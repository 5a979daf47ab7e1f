import Derived.Test.YtcagbdokbnpdfaaGreatDoorZ18
import Derived.Test.YtcagbdokbnpdfaaGreatDoorZ05
import Derived.Deep.LoopGhost
namespace Go.Proofs.YtcagbdokbnpdfaaGreatDoor
namespace L
open Go.RowKit
set_option linter.unusedVariables false
def C9h (x:FI):Bool:=decide (x.kind=10)&&decide (0 < x.choice)
def C9i (m:MI):Bool:=m.fields.any C9h
def D4s (g:GI):Bool:=g.msgs.any C9i
theorem B9h {α:Type}{p : α→Bool}{l:List α}{k:Nat}{a : α}(h:l[k]?=some a):(l.drop k).any p=(p a||(l.drop (k+1)).any p):=by
 obtain⟨hk,e⟩:=List.getElem?_eq_some_iff.1 h
 rw[List.drop_eq_getElem_cons hk,e,List.any_cons]
set_option maxHeartbeats 2000000 in
set_option maxRecDepth 100000 in
theorem C5l {w:World}{vm ve:Value}{g:GI}(hg:GRd w vm ve g):Calls Tryz.prog 19 #[.agg #[vm,ve]] w fun e w'=>e = .returned (.bool (D4s g))∧Below w.heap.size w w':=by
 obtain⟨am,nm,cm,rfl,Hnm,_⟩:=hg.1.shape
 obtain⟨ae,ne,ce,rfl,_,_⟩:=hg.2.shape
 obtain⟨R,HR⟩:∃ R,Hid (R=D4s g):=⟨_,rfl⟩
 rw[←HR.out]
 obtain⟨W1,HW1⟩:∃ W1,Hid (W1=w.alloc (.cells #[.slice am nm cm,.slice ae ne ce] 25)):=⟨_,rfl⟩
 have hb1:Below w.heap.size w W1:=by rw[HW1.out];exact(Below.refl _ _).alloc (Nat.le_refl _) _
 have HG:Hid _:=hg.1
 clear hg
 go_enter Tryz.func19,Tryz.ntmps19
 go_wp2_with fail
 rw[←HW1.out]
 go_loopg [10] nm (fun gm i wr=>∃ k:Nat,k+gm=nm∧i = .int .i64 k∧Hid (R=(g.msgs.drop k).any C9i)∧Below w.heap.size w wr)
 case atStart=>exact⟨0,by omega,rfl,HR,hb1⟩
 case round=>
  obtain⟨k,hk,rfl,HK,hb⟩:=hrel
  by_cases hlt:k < nm
  ·obtain⟨m,Hm⟩:∃ m,Hid (g.msgs[k]?=some m):=⟨g.msgs[k]'(by rw[←Hnm.out];exact hlt),List.getElem?_eq_getElem _⟩
   have hki:(k:Int) < (nm:Int):=by omega
   obtain⟨bm,om,rfl,hmat⟩:=(RdL.below MAt.stays HG.out hb).get MAt.plain Hm.out
   obtain⟨vf,vb,hn0,hn1,hn2,hfs,hbs⟩:=hmat
   rw[A0f] at hn1 hn2
   obtain⟨af,nf,cf,rfl,Hnf,_⟩:=hfs.shape
   obtain⟨ab,nb,cb,rfl,_,_⟩:=hbs.shape
   obtain⟨W2,HW2⟩:∃ W2,Hid (W2=wr.alloc (.cells #[.string (S m.name),.slice af nf cf,.slice ab nb cb] 35)):=⟨_,rfl⟩
   have hb2:Below wr.heap.size wr W2:=by rw[HW2.out];exact(Below.refl _ _).alloc (Nat.le_refl _) _
   have hbw2:Below w.heap.size w W2:=hb.trans (hb2.mono hb.size)
   have HFS:Hid (RdL 6 FAt W2 (.slice af nf cf) m.fields):=hfs.below FAt.stays hb2
   have HK2:Hid (R=(C9i m||(g.msgs.drop (k+1)).any C9i)):=by
    show _=_
    rw[HK.out,B9h Hm.out]
   clear hfs hbs
   obtain⟨wo,Hwo⟩:∃ wo,wo=wr:=⟨_,rfl⟩
   subst Hwo
   go_wp2_with fail
   rw[←HW2.out]
   go_loopg [17] nf (fun gm i wr=>∃ j:Nat,j+gm=nf∧i = .int .i64 j∧Hid (C9i m=(m.fields.drop j).any C9h)∧Below W2.heap.size W2 wr)
   case atStart=>exact⟨0,by omega,rfl,rfl,Below.refl _ _⟩
   case round=>
    obtain⟨j,hj,rfl,HJ,hbj⟩:=hrel
    by_cases hlj:j < nf
    ·obtain⟨x,Hx⟩:∃ x,Hid (m.fields[j]?=some x):=⟨m.fields[j]'(by rw[←Hnf.out];exact hlj),List.getElem?_eq_getElem _⟩
     have hji:(j:Int) < (nf:Int):=by omega
     obtain⟨bf,of,rfl,hfat⟩:=(RdL.below FAt.stays HFS.out hbj).get FAt.plain Hx.out
     obtain⟨y0,y1,y2,y3,y4,y5⟩:=hfat
     rw[A0f] at y1 y2 y3 y4 y5
     have HJ2:Hid (C9i m=(C9h x||(m.fields.drop (j+1)).any C9h)):=by
      show _=_
      rw[HJ.out,B9h Hx.out]
     have hb3:Below wr.heap.size wr (wr.alloc (.cells #[.string (S x.name),.int .i64 x.number,.int .i64 x.kind,.string (S x.type),.bool x.many,.int .i64 x.choice] 58)):=(Below.refl _ _).alloc (Nat.le_refl _) _
     have hbf:=BTr hbj hb3
     by_cases hk10:x.kind=10
     ·have e1:(x.kind == 10)=true:=beq_iff_eq.2 hk10
      by_cases hc:0 < x.choice
      ·have e2:decide (0 < x.choice)=true:=decide_eq_true hc
       have HX:Hid (R=true):=by
        show _=_
        rw[HK2.out,HJ2.out]
        unfold C9h
        rw[decide_eq_true hk10,e2]
        rfl
       clear hk10 hc
       go_wp2
       go_ret
       exact⟨by rw[HX.out];rfl,BTr hbw2 hbf⟩
      ·have e2:decide (0 < x.choice)=false:=decide_eq_false hc
       have HX:Hid (C9i m=(m.fields.drop (j+1)).any C9h):=by
        show _=_
        rw[HJ2.out]
        unfold C9h
        rw[e2,Bool.and_false,Bool.false_or]
       clear hk10 hc
       go_wp2_with fail
       go_roundg (nf - (j+1))
       case measure=>omega
       case rel=>exact⟨j+1,by omega,by go_num,HX,hbf⟩
     ·have e1:(x.kind == 10)=false:=beq_eq_false_iff_ne.2 hk10
      have HX:Hid (C9i m=(m.fields.drop (j+1)).any C9h):=by
       show _=_
       rw[HJ2.out]
       unfold C9h
       rw[decide_eq_false hk10,Bool.false_and,Bool.false_or]
      clear hk10
      go_wp2_with fail
      go_roundg (nf - (j+1))
      case measure=>omega
      case rel=>exact⟨j+1,by omega,by go_num,HX,hbf⟩
    ·have HX:Hid (R=(g.msgs.drop (k+1)).any C9i):=by
      show _=_
      rw[HK2.out,HJ.out,List.drop_eq_nil_of_le (by rw[←Hnf.out];omega)]
      rfl
     go_wp2_with fail
     go_roundg (nm - (k+1))
     case measure=>omega
     case rel=>exact⟨k+1,by omega,by go_num,HX,BTr hbw2 hbj⟩
  ·have HX:Hid (R=false):=by
    show _=_
    rw[HK.out,List.drop_eq_nil_of_le (by rw[←Hnm.out];omega)]
    rfl
   go_wp2
   go_ret
   exact⟨by rw[HX.out];rfl,hb⟩
end L
end Go.Proofs.YtcagbdokbnpdfaaGreatDoor
