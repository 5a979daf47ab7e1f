import Derived.Test.YtelmjekjohbmjaaGreatDoorY18
import Derived.Test.YtelmjekjohbmjaaGreatDoorY38
import Derived.Test.YtelmjekjohbmjaaGreatDoorY27
import Derived.Maps.OwnOps
import Derived.Maps.Views
import Derived.Maps.OwnSet
import Derived.BigQuiet
import Derived.Deep.QuietTactic
import Derived.Deep.LoopGhost
import Derived.Deep.CutRange
import Derived.Deep.DeepCutAuto
namespace Go.Proofs.YtelmjekjohbmjaaGreatDoor
namespace L
open Go.RowKit
set_option linter.unusedVariables false
set_option maxHeartbeats 4000000 in
set_option maxRecDepth 100000 in
theorem A9i (num how:Int) (bits:Nat) (ao:Option Addr) (len cap:Nat) (w:World) (hlm:len≤9223372036854775807) :
  Calls Tryz.prog 62 #[.agg #[.int .i64 num,.int .i64 how,.int .u64 (bits:Int),.slice ao len cap]] w fun e w'=>e = .returned (.int .i64 (A1k num how bits len))∧Below w.heap.size w w':=by
 have fin:∀ (o:Obj),Below w.heap.size w (w.alloc o):=fun o=>(Below.refl _ _).alloc (Nat.le_refl _) o
 obtain⟨E,HE⟩:∃ E,Hid (E=A1k num how bits len):=⟨_,rfl⟩
 rw[←HE.out]
 by_cases hk:how=0∨how=1∨how=2∨how=5
 ·rcases hk with rfl|rfl|rfl|rfl
  ·by_cases h3:num < 1
   ·have HF:Hid (E=3):=by show _=_;rw[HE.out,A1k,if_neg (A1g (by omega)),if_neg (by omega),if_pos (by omega)]
    clear HE
    go_enter Tryz.func62,Tryz.ntmps62
    go_wp2
    go_ret
    exact⟨A0n HF.out.symm,fin _⟩
   ·by_cases h2:536870912≤num
    ·have HF:Hid (E=3):=by show _=_;rw[HE.out,A1k,if_neg (A1g (by omega)),if_neg (by omega),if_pos (by omega)]
     clear HE
     go_enter Tryz.func62,Tryz.ntmps62
     go_wp2
     go_ret
     exact⟨A0n HF.out.symm,fin _⟩
    ·by_cases h1:0 < len
     ·have HF:Hid (E=8):=by show _=_;rw[HE.out,A1k,if_neg (A1g (by omega)),if_neg (by omega),if_neg (by omega),if_neg (by omega),if_neg (by omega),if_pos (by omega)]
      clear HE
      go_enter Tryz.func62,Tryz.ntmps62
      go_wp2
      go_ret
      exact⟨A0n HF.out.symm,fin _⟩
     ·have HF:Hid (E=0):=by show _=_;rw[HE.out,A1k,if_neg (A1g (by omega)),if_neg (by omega),if_neg (by omega),if_neg (by omega),if_neg (by omega),if_neg (by omega)]
      clear HE
      go_enter Tryz.func62,Tryz.ntmps62
      go_wp2
      go_ret
      exact⟨A0n HF.out.symm,fin _⟩
  ·by_cases h3:num < 1
   ·have HF:Hid (E=3):=by show _=_;rw[HE.out,A1k,if_neg (A1g (by omega)),if_neg (by omega),if_pos (by omega)]
    clear HE
    go_enter Tryz.func62,Tryz.ntmps62
    go_wp2
    go_ret
    exact⟨A0n HF.out.symm,fin _⟩
   ·by_cases h2:536870912≤num
    ·have HF:Hid (E=3):=by show _=_;rw[HE.out,A1k,if_neg (A1g (by omega)),if_neg (by omega),if_pos (by omega)]
     clear HE
     go_enter Tryz.func62,Tryz.ntmps62
     go_wp2
     go_ret
     exact⟨A0n HF.out.symm,fin _⟩
    ·by_cases h1:0 < len
     ·have HF:Hid (E=8):=by show _=_;rw[HE.out,A1k,if_neg (A1g (by omega)),if_neg (by omega),if_neg (by omega),if_neg (by omega),if_neg (by omega),if_pos (by omega)]
      clear HE
      go_enter Tryz.func62,Tryz.ntmps62
      go_wp2
      go_ret
      exact⟨A0n HF.out.symm,fin _⟩
     ·have HF:Hid (E=0):=by show _=_;rw[HE.out,A1k,if_neg (A1g (by omega)),if_neg (by omega),if_neg (by omega),if_neg (by omega),if_neg (by omega),if_neg (by omega)]
      clear HE
      go_enter Tryz.func62,Tryz.ntmps62
      go_wp2
      go_ret
      exact⟨A0n HF.out.symm,fin _⟩
  ·by_cases h4:4000 < len
   ·have HF:Hid (E=4):=by show _=_;rw[HE.out,A1k,if_neg (A1g (by omega)),if_pos (by omega)]
    clear HE
    go_enter Tryz.func62,Tryz.ntmps62
    go_wp2
    go_ret
    exact⟨A0n HF.out.symm,fin _⟩
   ·by_cases h3:num < 1
    ·have HF:Hid (E=3):=by show _=_;rw[HE.out,A1k,if_neg (A1g (by omega)),if_neg (by omega),if_pos (by omega)]
     clear HE
     go_enter Tryz.func62,Tryz.ntmps62
     go_wp2
     go_ret
     exact⟨A0n HF.out.symm,fin _⟩
    ·by_cases h2:536870912≤num
     ·have HF:Hid (E=3):=by show _=_;rw[HE.out,A1k,if_neg (A1g (by omega)),if_neg (by omega),if_pos (by omega)]
      clear HE
      go_enter Tryz.func62,Tryz.ntmps62
      go_wp2
      go_ret
      exact⟨A0n HF.out.symm,fin _⟩
     ·by_cases h1:0 < bits
      ·have HF:Hid (E=8):=by show _=_;rw[HE.out,A1k,if_neg (A1g (by omega)),if_neg (by omega),if_neg (by omega),if_neg (by omega),if_pos (by omega)]
       clear HE
       go_enter Tryz.func62,Tryz.ntmps62
       go_wp2
       go_ret
       exact⟨A0n HF.out.symm,fin _⟩
      ·have HF:Hid (E=0):=by show _=_;rw[HE.out,A1k,if_neg (A1g (by omega)),if_neg (by omega),if_neg (by omega),if_neg (by omega),if_neg (by omega),if_neg (by omega)]
       clear HE
       go_enter Tryz.func62,Tryz.ntmps62
       go_wp2
       go_ret
       exact⟨A0n HF.out.symm,fin _⟩
  ·by_cases h3:num < 1
   ·have HF:Hid (E=3):=by show _=_;rw[HE.out,A1k,if_neg (A1g (by omega)),if_neg (by omega),if_pos (by omega)]
    clear HE
    go_enter Tryz.func62,Tryz.ntmps62
    go_wp2
    go_ret
    exact⟨A0n HF.out.symm,fin _⟩
   ·by_cases h2:536870912≤num
    ·have HF:Hid (E=3):=by show _=_;rw[HE.out,A1k,if_neg (A1g (by omega)),if_neg (by omega),if_pos (by omega)]
     clear HE
     go_enter Tryz.func62,Tryz.ntmps62
     go_wp2
     go_ret
     exact⟨A0n HF.out.symm,fin _⟩
    ·by_cases h5:4294967295 < bits
     ·have HF:Hid (E=3):=by show _=_;rw[HE.out,A1k,if_neg (A1g (by omega)),if_neg (by omega),if_neg (by omega),if_pos (by omega)]
      clear HE
      go_enter Tryz.func62,Tryz.ntmps62
      go_wp2
      go_ret
      exact⟨A0n HF.out.symm,fin _⟩
     ·by_cases h1:0 < len
      ·have HF:Hid (E=8):=by show _=_;rw[HE.out,A1k,if_neg (A1g (by omega)),if_neg (by omega),if_neg (by omega),if_neg (by omega),if_neg (by omega),if_pos (by omega)]
       clear HE
       go_enter Tryz.func62,Tryz.ntmps62
       go_wp2
       go_ret
       exact⟨A0n HF.out.symm,fin _⟩
      ·have HF:Hid (E=0):=by show _=_;rw[HE.out,A1k,if_neg (A1g (by omega)),if_neg (by omega),if_neg (by omega),if_neg (by omega),if_neg (by omega),if_neg (by omega)]
       clear HE
       go_enter Tryz.func62,Tryz.ntmps62
       go_wp2
       go_ret
       exact⟨A0n HF.out.symm,fin _⟩
 ·have HF:Hid (E=1):=by show _=_;rw[HE.out,A8r (A7c hk).symm]
  have b0:(how == 0)=false:=by simp;omega
  have b1:(how == 1)=false:=by simp;omega
  have b2:(how == 2)=false:=by simp;omega
  have b5:(how == 5)=false:=by simp;omega
  have c0:(how != 0)=true:=by simp;omega
  have c1:(how != 1)=true:=by simp;omega
  have c2:(how != 2)=true:=by simp;omega
  have c5:(how != 5)=true:=by simp;omega
  clear HE hk
  go_enter Tryz.func62,Tryz.ntmps62
  go_wp2
  go_ret
  exact⟨A0n HF.out.symm,fin _⟩
end L
end Go.Proofs.YtelmjekjohbmjaaGreatDoor
namespace Go.Proofs.YtelmjekjohbmjaaGreatDoor
namespace L
open Go.RowKit Go.WideMaps Go.Maps
set_option linter.unusedVariables false
theorem B3a {P:Program}{e:TypeId}(he:P.underlying e=some .bool){v:Value}{z:DataW Unit×List MemPlace}(h:plainElem (H:=Unit) P e v=some z):∃ b,v = .bool b∧z=(.lit (.bool b),[]):=by
 unfold plainElem at h
 rw[he] at h
 cases v <;> simp at h
 exact⟨_,rfl,h.symm⟩
theorem B9y:Keyed Tryz.prog 3:=int_keyed Tryz.underlying3
theorem C2e (w:World):(zeroValue 4).run Tryz.prog w = .ok (.bool false) w:=by kernel_rfl
abbrev OwnH (w:World) (b n:Nat) (D:DataW Unit):Prop:=w.ownsMap Tryz.prog 3 (plainElem (H:=Unit) Tryz.prog 4) b n D
theorem OwnH.below {w w':World}{b n:Nat}{D:DataW Unit}(h:OwnH w b n D) (hb:Below w.heap.size w w'):OwnH w' b n D:=by
 have hlt:=h.lt
 obtain⟨es,clock,h1,F,hs,hD⟩:=h
 exact⟨es,clock,(hb.block b hlt).trans h1,F,hs,hD⟩
def HdD (D:DataW Unit) (l:List Int):Prop:=∀ c:Int,0 < c→D.atKey (.int .i64 c) (.lit (.bool false)) = .lit (.bool (decide (c∈l)))
theorem HdD.nil:HdD (.map []) []:=fun c _=>by simp;rfl
theorem HdD.put {D:DataW Unit}{l:List Int}(h:HdD D l) (hD:IsMap D) (x:FI):HdD (D.put (.int .i64 x.choice) (.lit (.bool true))) (A3i x l):=by
 intro c hc
 by_cases e:c=x.choice
 ·subst e
  rw[atKey_put_same hD (show WideAt.IsKeyLit (.int .i64 x.choice) from trivial)]
  unfold A3i
  rw[if_pos hc]
  simp
 ·rw[atKey_put_other (by simpa using e),h c hc]
  unfold A3i
  split
  ·simp[e]
  ·rfl
theorem A8f {α:Type}{p : α→Bool}{l:List α}{x : α}(h:l.find? p=some x):∃ j,l[j]?=some x∧p x=true∧∀ a∈l.take j,p a=false:=by
 obtain⟨h1,la,lb,e,h2⟩:=List.find?_eq_some_iff_append.1 h
 refine⟨la.length,by rw[e];simp,h1,fun a ha=>?_⟩
 rw[e,List.take_left'] at ha
 ·simpa using h2 a ha
 ·rfl
theorem B7r {β:Type}{fs:List FI}{f:List UInt8→β→Int}{v:VI β}{s:Int×List Int}(hx:fs.find? (fun y=>decide (y.number=v.number))=none):A5v fs f v s=6:=by
 unfold A5v
 rw[hx]
theorem B7s {β:Type}{fs:List FI}{f:List UInt8→β→Int}{v:VI β}{s:Int×List Int}{x:FI}(hx:fs.find? (fun y=>decide (y.number=v.number))=some x) :
  A5v fs f v s=if v.number≤s.1 then 2 else if wvE x v f≠0 then wvE x v f else if 0 < x.choice∧x.choice∈s.2 then 8 else 0:=by
 unfold A5v
 rw[hx]
 show A3m (eAt x v f s) 0 8=_
 unfold wvE
 simp only[A3m,eAt,decide_eq_true_eq]
 by_cases h0:v.number≤s.1
 ·simp[h0]
 by_cases h1:A1d x v=true
 ·simp[h0,h1]
 by_cases h2:A2z x v=true
 ·simp[h0,h1,h2]
 by_cases h3:A0u x v=true
 ·simp[h0,h1,h2,h3]
 by_cases h4:A0g (A1c x.kind) v.bits=0
 ·by_cases h5:A0g (A1e x.kind) v.bytes=0
  ·by_cases h6:A0g (f x.type) v.subs=0
   ·simp[h0,h1,h2,h3,h4,h5,h6]
   ·simp[h0,h1,h2,h3,h4,h5,h6]
  ·simp[h0,h1,h2,h3,h4,h5]
 ·simp[h0,h1,h2,h3,h4]
theorem B4b {β:Type}{fs:List FI}{v:VI β}{s:Int×List Int}{x:FI}(hx:fs.find? (fun y=>decide (y.number=v.number))=some x):A5m fs v s=(v.number,A3i x s.2):=by
 unfold A5m
 rw[hx]
end L
end Go.Proofs.YtelmjekjohbmjaaGreatDoor
