import Derived.Test.YtcagbdokbnpdfaaGreatDoorZ01
import Derived.Test.YtcagbdokbnpdfaaGreatDoorZ03
import Derived.Test.YtcagbdokbnpdfaaGreatDoorZ16
import Derived.Test.YtcagbdokbnpdfaaGreatDoorZ15
namespace Go.Proofs.YtcagbdokbnpdfaaGreatDoor
namespace L
open Go.RowKit
def A1y (h:Int):Bool:=decide (h=0∨h=1∨h=2∨h=5)
theorem A0e {h:Int}(k:h=0∨h=1∨h=2∨h=5):true=A1y h:=by unfold A1y;simp[k]
theorem A5i {h:Int}(k:¬ (h=0∨h=1∨h=2∨h=5)):false=A1y h:=by unfold A1y;simp only[k,decide_false]
set_option maxHeartbeats 400000 in
set_option maxRecDepth 100000 in
theorem A0h (h:Int) (w:World) :
  Calls Tryz.prog 89 #[.int .i64 h] w fun e w'=>e = .returned (.bool (A1y h))∧w=w':=by
 by_cases k:h=0∨h=1∨h=2∨h=5
 ·rw[←A0e k]
  rcases k with rfl|rfl|rfl|rfl
  all_goals
   go_enter Tryz.func89,Tryz.ntmps89
   go_wp2
   go_ret
   exact⟨rfl,rfl⟩
 ·rw[←A5i k]
  have b0:(h == 0)=false:=beq_eq_false_iff_ne.2 (by omega)
  have b1:(h == 1)=false:=beq_eq_false_iff_ne.2 (by omega)
  have b2:(h == 2)=false:=beq_eq_false_iff_ne.2 (by omega)
  have b5:(h == 5)=false:=beq_eq_false_iff_ne.2 (by omega)
  go_enter Tryz.func89,Tryz.ntmps89
  go_wp2
  go_ret
  exact⟨rfl,rfl⟩
def A0s (num how:Int) (bits len:Nat):Int:=
 if A1y how=false then 1
 else if how=2∧4000 < len then 4
 else if num < 1∨536870912≤num then 3
 else if how=5∧bits / 4294967296≠0 then 3
 else if how=2∧bits≠0 then 8
 else if how≠2∧0 < len then 8
 else 0
theorem A9e {num how:Int}{bits len:Nat}(h:A1y how=false):A0s num how bits len=1:=by
 unfold A0s;rw[if_pos h]
theorem B0o {how:Int}(h:how=0∨how=1∨how=2∨how=5):¬ A1y how=false:=by rw[←A0e h];decide
set_option maxHeartbeats 4000000 in
set_option maxRecDepth 100000 in
theorem A8h (num how:Int) (bits:Nat) (ao:Option Addr) (len cap:Nat) (w:World) (hlm:len≤9223372036854775807) :
  Calls Tryz.prog 42 #[.agg #[.int .i64 num,.int .i64 how,.int .u64 (bits:Int),.slice ao len cap]] w fun e w'=>e = .returned (.int .i64 (A0s num how bits len))∧Below w.heap.size w w':=by
 have fin:∀ (o:Obj),Below w.heap.size w (w.alloc o):=fun o=>(Below.refl _ _).alloc (Nat.le_refl _) o
 by_cases hk:A1y how=false
 ·rw[A9e hk]
  go_enter Tryz.func42,Tryz.ntmps42
  go_wp2_with (go_at_call 89;refine(A0h how _).mono ?_;rintro e w1 ⟨rfl,rfl⟩)
  go_ret
  exact⟨rfl,fin _⟩
 ·obtain⟨E,HE⟩:∃ E,Hid (E=A0s num how bits len):=⟨_,rfl⟩
  rw[←HE.out]
  have hh:how=0∨how=1∨how=2∨how=5:=by
   rcases Decidable.em (how=0∨how=1∨how=2∨how=5) with h|h
   ·exact h
   ·exact absurd (A5i h).symm hk
  have HE':Hid (E=(if how=2∧4000 < len then 4
   else if num < 1∨536870912≤num then 3
   else if how=5∧bits / 4294967296≠0 then 3
   else if how=2∧bits≠0 then 8
   else if how≠2∧0 < len then 8
   else 0)):=by
   show _=_
   rw[HE.out,A0s,if_neg hk]
  clear HE hk
  rcases hh with rfl|rfl|rfl|rfl
  ·by_cases h3:num < 1
   ·have HF:Hid (E=3):=by show _=_;rw[HE'.out,if_neg (by omega),if_pos (by omega)]
    clear HE'
    go_enter Tryz.func42,Tryz.ntmps42
    go_wp2_with (go_at_call 89;refine(A0h _ _).mono ?_;rintro e w1 ⟨rfl,rfl⟩;rw[←A0e (by omega)])
    go_ret
    exact⟨A0x HF.out.symm,fin _⟩
   ·by_cases h2:536870912≤num
    ·have HF:Hid (E=3):=by show _=_;rw[HE'.out,if_neg (by omega),if_pos (by omega)]
     clear HE'
     go_enter Tryz.func42,Tryz.ntmps42
     go_wp2_with (go_at_call 89;refine(A0h _ _).mono ?_;rintro e w1 ⟨rfl,rfl⟩;rw[←A0e (by omega)])
     go_ret
     exact⟨A0x HF.out.symm,fin _⟩
    ·by_cases h1:0 < len
     ·have HF:Hid (E=8):=by show _=_;rw[HE'.out,if_neg (by omega),if_neg (by omega),if_neg (by omega),if_neg (by omega),if_pos (by omega)]
      clear HE'
      go_enter Tryz.func42,Tryz.ntmps42
      go_wp2_with (go_at_call 89;refine(A0h _ _).mono ?_;rintro e w1 ⟨rfl,rfl⟩;rw[←A0e (by omega)])
      go_ret
      exact⟨A0x HF.out.symm,fin _⟩
     ·have HF:Hid (E=0):=by show _=_;rw[HE'.out,if_neg (by omega),if_neg (by omega),if_neg (by omega),if_neg (by omega),if_neg (by omega)]
      clear HE'
      go_enter Tryz.func42,Tryz.ntmps42
      go_wp2_with (go_at_call 89;refine(A0h _ _).mono ?_;rintro e w1 ⟨rfl,rfl⟩;rw[←A0e (by omega)])
      go_ret
      exact⟨A0x HF.out.symm,fin _⟩
  ·by_cases h3:num < 1
   ·have HF:Hid (E=3):=by show _=_;rw[HE'.out,if_neg (by omega),if_pos (by omega)]
    clear HE'
    go_enter Tryz.func42,Tryz.ntmps42
    go_wp2_with (go_at_call 89;refine(A0h _ _).mono ?_;rintro e w1 ⟨rfl,rfl⟩;rw[←A0e (by omega)])
    go_ret
    exact⟨A0x HF.out.symm,fin _⟩
   ·by_cases h2:536870912≤num
    ·have HF:Hid (E=3):=by show _=_;rw[HE'.out,if_neg (by omega),if_pos (by omega)]
     clear HE'
     go_enter Tryz.func42,Tryz.ntmps42
     go_wp2_with (go_at_call 89;refine(A0h _ _).mono ?_;rintro e w1 ⟨rfl,rfl⟩;rw[←A0e (by omega)])
     go_ret
     exact⟨A0x HF.out.symm,fin _⟩
    ·by_cases h1:0 < len
     ·have HF:Hid (E=8):=by show _=_;rw[HE'.out,if_neg (by omega),if_neg (by omega),if_neg (by omega),if_neg (by omega),if_pos (by omega)]
      clear HE'
      go_enter Tryz.func42,Tryz.ntmps42
      go_wp2_with (go_at_call 89;refine(A0h _ _).mono ?_;rintro e w1 ⟨rfl,rfl⟩;rw[←A0e (by omega)])
      go_ret
      exact⟨A0x HF.out.symm,fin _⟩
     ·have HF:Hid (E=0):=by show _=_;rw[HE'.out,if_neg (by omega),if_neg (by omega),if_neg (by omega),if_neg (by omega),if_neg (by omega)]
      clear HE'
      go_enter Tryz.func42,Tryz.ntmps42
      go_wp2_with (go_at_call 89;refine(A0h _ _).mono ?_;rintro e w1 ⟨rfl,rfl⟩;rw[←A0e (by omega)])
      go_ret
      exact⟨A0x HF.out.symm,fin _⟩
  ·by_cases h4:4000 < len
   ·have HF:Hid (E=4):=by show _=_;rw[HE'.out,if_pos (by omega)]
    clear HE'
    go_enter Tryz.func42,Tryz.ntmps42
    go_wp2_with (go_at_call 89;refine(A0h _ _).mono ?_;rintro e w1 ⟨rfl,rfl⟩;rw[←A0e (by omega)])
    go_ret
    exact⟨A0x HF.out.symm,fin _⟩
   ·by_cases h3:num < 1
    ·have HF:Hid (E=3):=by show _=_;rw[HE'.out,if_neg (by omega),if_pos (by omega)]
     clear HE'
     go_enter Tryz.func42,Tryz.ntmps42
     go_wp2_with (go_at_call 89;refine(A0h _ _).mono ?_;rintro e w1 ⟨rfl,rfl⟩;rw[←A0e (by omega)])
     go_ret
     exact⟨A0x HF.out.symm,fin _⟩
    ·by_cases h2:536870912≤num
     ·have HF:Hid (E=3):=by show _=_;rw[HE'.out,if_neg (by omega),if_pos (by omega)]
      clear HE'
      go_enter Tryz.func42,Tryz.ntmps42
      go_wp2_with (go_at_call 89;refine(A0h _ _).mono ?_;rintro e w1 ⟨rfl,rfl⟩;rw[←A0e (by omega)])
      go_ret
      exact⟨A0x HF.out.symm,fin _⟩
     ·by_cases h1:bits≠0
      ·have HF:Hid (E=8):=by show _=_;rw[HE'.out,if_neg (by omega),if_neg (by omega),if_neg (by omega),if_pos (by omega)]
       clear HE'
       have hx:((bits:Int) != 0)=true:=by rw[bne_iff_ne];omega
       go_enter Tryz.func42,Tryz.ntmps42
       go_wp2_with (go_at_call 89;refine(A0h _ _).mono ?_;rintro e w1 ⟨rfl,rfl⟩;rw[←A0e (by omega)])
       go_ret
       exact⟨A0x HF.out.symm,fin _⟩
      ·have hx:((bits:Int) != 0)=false:=by simp;omega
       have HF:Hid (E=0):=by show _=_;rw[HE'.out,if_neg (by omega),if_neg (by omega),if_neg (by omega),if_neg (by omega),if_neg (by omega)]
       clear HE'
       go_enter Tryz.func42,Tryz.ntmps42
       go_wp2_with (go_at_call 89;refine(A0h _ _).mono ?_;rintro e w1 ⟨rfl,rfl⟩;rw[←A0e (by omega)])
       go_ret
       exact⟨A0x HF.out.symm,fin _⟩
  ·by_cases h4:num < 1
   ·have HF:Hid (E=3):=by show _=_;rw[HE'.out,if_neg (by omega),if_pos (by omega)]
    clear HE'
    go_enter Tryz.func42,Tryz.ntmps42
    go_wp2_with (go_at_call 89;refine(A0h _ _).mono ?_;rintro e w1 ⟨rfl,rfl⟩;rw[←A0e (by omega)])
    go_ret
    exact⟨A0x HF.out.symm,fin _⟩
   ·by_cases h3:536870912≤num
    ·have HF:Hid (E=3):=by show _=_;rw[HE'.out,if_neg (by omega),if_pos (by omega)]
     clear HE'
     go_enter Tryz.func42,Tryz.ntmps42
     go_wp2_with (go_at_call 89;refine(A0h _ _).mono ?_;rintro e w1 ⟨rfl,rfl⟩;rw[←A0e (by omega)])
     go_ret
     exact⟨A0x HF.out.symm,fin _⟩
    ·by_cases h2:bits / 4294967296≠0
     ·have HF:Hid (E=3):=by show _=_;rw[HE'.out,if_neg (by omega),if_neg (by omega),if_pos (by omega)]
      clear HE'
      have hx:((bits:Int) / 4294967296 != 0)=true:=by rw[bne_iff_ne];omega
      go_enter Tryz.func42,Tryz.ntmps42
      go_wp2_with (go_at_call 89;refine(A0h _ _).mono ?_;rintro e w1 ⟨rfl,rfl⟩;rw[←A0e (by omega)])
      go_ret
      exact⟨A0x HF.out.symm,fin _⟩
     ·have hx:((bits:Int) / 4294967296 != 0)=false:=by simp;omega
      by_cases h1:0 < len
      ·have HF:Hid (E=8):=by show _=_;rw[HE'.out,if_neg (by omega),if_neg (by omega),if_neg (by omega),if_neg (by omega),if_pos (by omega)]
       clear HE'
       go_enter Tryz.func42,Tryz.ntmps42
       go_wp2_with (go_at_call 89;refine(A0h _ _).mono ?_;rintro e w1 ⟨rfl,rfl⟩;rw[←A0e (by omega)])
       go_ret
       exact⟨A0x HF.out.symm,fin _⟩
      ·have HF:Hid (E=0):=by show _=_;rw[HE'.out,if_neg (by omega),if_neg (by omega),if_neg (by omega),if_neg (by omega),if_neg (by omega)]
       clear HE'
       go_enter Tryz.func42,Tryz.ntmps42
       go_wp2_with (go_at_call 89;refine(A0h _ _).mono ?_;rintro e w1 ⟨rfl,rfl⟩;rw[←A0e (by omega)])
       go_ret
       exact⟨A0x HF.out.symm,fin _⟩
end L
end Go.Proofs.YtcagbdokbnpdfaaGreatDoor
namespace Go.Proofs.YtcagbdokbnpdfaaGreatDoor
namespace L
open Go.RowKit
def A7l (fs:List FI) (r:RI):Int:=
 if A0s r.number r.how r.bits r.bytes.length=0 then(if 0≤A0k (fun f:FI=>decide (f.number=r.number)) fs then 7 else 0) else A0s r.number r.how r.bits r.bytes.length
set_option maxHeartbeats 1000000 in
set_option maxRecDepth 100000 in
theorem B9a {w:World}{nm:List UInt8}{af ab:Option Addr}{nf cf nb cb:Nat}{fs:List FI}(hf:RdL 6 FAt w (.slice af nf cf) fs) (r:RI){ao:Option Addr}{n cap:Nat}(Hn:Hid (n=r.bytes.length)) (hn:n≤9223372036854775807) :
  Calls Tryz.prog 78 #[.agg #[.string (S nm),.slice af nf cf,.slice ab nb cb],.agg #[.int .i64 r.number,.int .i64 r.how,.int .u64 (r.bits:Int),.slice ao n cap]] w fun e w'=>e = .returned (.int .i64 (A7l fs r))∧Below w.heap.size w w':=by
 obtain⟨W2,HW2⟩:∃ W2,Hid (W2=(w.alloc (.cells #[.string (S nm),.slice af nf cf,.slice ab nb cb] 35)).alloc (.cells #[.int .i64 r.number,.int .i64 r.how,.int .u64 (r.bits:Int),.slice ao n cap] 65)):=⟨_,rfl⟩
 have hb2:Below w.heap.size w W2:=by rw[HW2.out];exact((Below.refl _ _).alloc (Nat.le_refl _) _).alloc (by simp) _
 have x1:W2.heap[w.heap.size]?=some (.cells #[.string (S nm),.slice af nf cf,.slice ab nb cb] 35 (0,0)):=by rw[HW2.out];exact A0u _ _ _
 have x2:W2.heap[w.heap.size+1]?=some (.cells #[.int .i64 r.number,.int .i64 r.how,.int .u64 (r.bits:Int),.slice ao n cap] 65 (0,0)):=by rw[HW2.out];exact A0r _ _ _
 have hz2:w.heap.size+2≤W2.heap.size:=by rw[HW2.out];simp
 have hw:=A8h r.number r.how r.bits ao n cap W2 hn
 obtain⟨E,HE⟩:∃ E,Hid (E=A0s r.number r.how r.bits n):=⟨_,rfl⟩
 rw[←HE.out] at hw
 go_enter Tryz.func78,Tryz.ntmps78
 go_wp2_with fail
 rw[←HW2.out]
 refine hw.mono ?_
 rintro e w3 ⟨rfl,hb3⟩
 have hbw3:Below w.heap.size w w3:=hb2.trans (hb3.mono hb2.size)
 clear hw
 by_cases hz:E=0
 ·have ez:(E != 0)=false:=by simp[hz]
  have y1:=(hb3.block w.heap.size (by omega)).trans x1
  have y2:=(hb3.block (w.heap.size+1) (by omega)).trans x2
  have m0:w3.cell? ⟨w.heap.size,0,none⟩=some (.string (S nm)):=A0a y1 0 _ rfl
  have m1:w3.cell? ⟨w.heap.size,1,none⟩=some (.slice af nf cf):=A0a y1 1 _ rfl
  have m2:w3.cell? ⟨w.heap.size,2,none⟩=some (.slice ab nb cb):=A0a y1 2 _ rfl
  have m3:w3.cell? ⟨w.heap.size+1,0,none⟩=some (.int .i64 r.number):=A0a y2 0 _ rfl
  have hfd:=A4n (hf.below FAt.stays hbw3) ⟨ab,nb,cb,rfl⟩ ⟨nm,rfl⟩ r.number
  obtain⟨k,Hk⟩:∃ k,Hid (k=A0k (fun f:FI=>decide (f.number=r.number)) fs):=⟨_,rfl⟩
  rw[←Hk.out] at hfd
  by_cases hk:0≤k
  ·have HR:Hid (A7l fs r=7):=by
    show _=_
    unfold A7l
    rw[←Hn.out,←HE.out,if_pos hz,←Hk.out,if_pos hk]
   have dk:decide (0≤k)=true:=decide_eq_true hk
   clear hz hk
   go_wp2_with fail
   refine hfd.mono ?_
   rintro e w4 ⟨rfl,hb4⟩
   go_wp2
   go_ret
   exact⟨by rw[HR.out];rfl,hbw3.trans (hb4.mono hbw3.size)⟩
  ·have HR:Hid (A7l fs r=0):=by
    show _=_
    unfold A7l
    rw[←Hn.out,←HE.out,if_pos hz,←Hk.out,if_neg hk]
   have dk:decide (0≤k)=false:=decide_eq_false hk
   clear hz hk
   go_wp2_with fail
   refine hfd.mono ?_
   rintro e w4 ⟨rfl,hb4⟩
   go_wp2
   go_ret
   exact⟨by rw[HR.out];rfl,hbw3.trans (hb4.mono hbw3.size)⟩
 ·have ez:(E != 0)=true:=by simpa using hz
  have HR:Hid (A7l fs r=E):=by
   show _=_
   unfold A7l
   rw[←Hn.out,←HE.out,if_neg hz]
  clear hz
  go_wp2
  go_ret
  exact⟨by rw[HR.out];rfl,hbw3⟩
end L
end Go.Proofs.YtcagbdokbnpdfaaGreatDoor
namespace Go.Proofs.YtcagbdokbnpdfaaGreatDoor
namespace L
open Go.RowKit
set_option maxHeartbeats 1000000 in
set_option maxRecDepth 100000 in
theorem C7h {w:World}{c:Nat}{nm:List UInt8}{af ab:Option Addr}{nf cf nb cb:Nat}{fs:List FI}(hc:w.heap[c]?=some (.cells #[.string (S nm),.slice af nf cf,.slice ab nb cb] 35 (0,0))) (hf:RdL 6 FAt w (.slice af nf cf) fs) (r:RI){ao:Option Addr}{n cap:Nat}(Hn:Hid (n=r.bytes.length)) (hn:n≤9223372036854775807) :
  Calls Tryz.prog 77 #[.agg #[.int .i64 r.number,.int .i64 r.how,.int .u64 (r.bits:Int),.slice ao n cap],.pointer (some ⟨c,0,none⟩)] w fun e w'=>e = .returned (.int .i64 (A7l fs r))∧Below w.heap.size w w':=by
 have c0:w.cell? ⟨c,0,none⟩=some (.string (S nm)):=A0a hc 0 _ rfl
 have c1:w.cell? ⟨c,1,none⟩=some (.slice af nf cf):=A0a hc 1 _ rfl
 have c2:w.cell? ⟨c,2,none⟩=some (.slice ab nb cb):=A0a hc 2 _ rfl
 have hcl:c < w.heap.size:=(Array.getElem?_eq_some_iff.1 hc).1
 have hb1:Below w.heap.size w (w.alloc (.cells #[.int .i64 r.number,.int .i64 r.how,.int .u64 (r.bits:Int),.slice ao n cap] 65)):=(Below.refl _ _).alloc (Nat.le_refl _) _
 have hu:=B9a (nm:=nm) (ab:=ab) (nb:=nb) (cb:=cb) (hf.below FAt.stays hb1) r (ao:=ao) (cap:=cap) Hn hn
 go_enter Tryz.func77,Tryz.ntmps77
 go_wp2_with fail
 refine hu.mono ?_
 rintro e w1 ⟨rfl,hb2⟩
 go_wp2
 go_ret
 exact⟨rfl,hb1.trans (hb2.mono hb1.size)⟩
set_option maxHeartbeats 1000000 in
set_option maxRecDepth 100000 in
theorem D0k {v:Value}{l:List RI}{w:World}{c:Nat}{nm:List UInt8}{af ab:Option Addr}{nf cf nb cb:Nat}{fs:List FI}(h:RdL 4 RAt w v l) (hc:w.heap[c]?=some (.cells #[.string (S nm),.slice af nf cf,.slice ab nb cb] 35 (0,0))) (hf:RdL 6 FAt w (.slice af nf cf) fs) :
  Calls Tryz.prog 76 #[v,.func (.func 77) #[] #[.pointer (some ⟨c,0,none⟩)]] w fun e w'=>e = .returned (.int .i64 (A0y (A7l fs) l))∧Below w.heap.size w w':=by
 obtain⟨ao,n,cap,rfl,Hn,hcap⟩:=h.shape
 obtain⟨R,HR⟩:∃ R,Hid (R=A0y (A7l fs) l):=⟨_,rfl⟩
 rw[←HR.out]
 go_enter Tryz.func76,Tryz.ntmps76
 go_wp2_with fail
 go_loopg [10] n (fun m i wr=>∃ k:Nat,k+m=n∧i = .int .i64 k∧Hid (R=A0y (A7l fs) (l.drop k))∧Below w.heap.size w wr)
 case atStart=>exact⟨0,by omega,rfl,HR,Below.refl _ _⟩
 case round=>
  obtain⟨k,hk,rfl,HK,hb⟩:=hrel
  have hcr:=(hb.block c (Array.getElem?_eq_some_iff.1 hc).1).trans hc
  by_cases hlt:k < n
  ·obtain⟨a,Ha⟩:∃ a,Hid (l[k]?=some a):=⟨l[k]'(by rw[←Hn.out];exact hlt),List.getElem?_eq_getElem (by rw[←Hn.out];exact hlt)⟩
   obtain⟨b,off,rfl,hat⟩:=(h.below RAt.stays hb).get RAt.plain Ha.out
   obtain⟨vy,s0,s1,s2,s3,hry⟩:=hat.at
   obtain⟨ay,ny,cy,rfl,Hny,hny⟩:=hry.shape
   have hki:(k:Int) < (n:Int):=by omega
   obtain⟨W1,HW1⟩:∃ W1,Hid (W1=wr.alloc (.cells #[.int .i64 a.number,.int .i64 a.how,.int .u64 (a.bits:Int),.slice ay ny cy] 65)):=⟨_,rfl⟩
   have hb1:Below wr.heap.size wr W1:=by rw[HW1.out];exact(Below.refl _ _).alloc (Nat.le_refl _) _
   have hbw1:Below w.heap.size w W1:=hb.trans (hb1.mono hb.size)
   have hcall:=C7h ((hb1.block c (Array.getElem?_eq_some_iff.1 hcr).1).trans hcr) (hf.below FAt.stays hbw1) a (ao:=ay) (cap:=cy) Hny hny
   have hst:=A5x (f:=A7l fs) Ha.out
   generalize hF:A7l fs a=F at hcall hst
   by_cases hz:F=0
   ·have HX:Hid (R=A0y (A7l fs) (l.drop (k+1))):=by
     show _=_
     rw[HK.out,hst,if_pos hz]
    have ez:(F != 0)=false:=by simp[hz]
    clear hst hF hz hat hry
    go_wp2_with fail
    rw[←HW1.out]
    refine hcall.mono ?_
    rintro e w1 ⟨rfl,hb2⟩
    go_wp2_with fail
    go_roundg (n - (k+1))
    case measure=>omega
    case rel=>exact⟨k+1,by omega,by go_num,HX,hbw1.trans (hb2.mono hbw1.size)⟩
   ·have HX:Hid (R=F):=by
     show _=_
     rw[HK.out,hst,if_neg hz]
    have ez:(F != 0)=true:=by simpa using hz
    clear hst hF hz hat hry
    go_wp2_with fail
    rw[←HW1.out]
    refine hcall.mono ?_
    rintro e w1 ⟨rfl,hb2⟩
    go_wp2
    go_ret
    exact⟨by rw[HX.out];rfl,hbw1.trans (hb2.mono hbw1.size)⟩
  ·have HX:Hid (R=0):=by
    show _=_
    rw[HK.out]
    exact A5h (by rw[←Hn.out];omega)
   go_wp2
   go_ret
   exact⟨by rw[HX.out];rfl,hb⟩
end L
end Go.Proofs.YtcagbdokbnpdfaaGreatDoor
namespace Go.Proofs.YtcagbdokbnpdfaaGreatDoor
namespace L
open Go.RowKit
set_option maxHeartbeats 2000000 in
set_option maxRecDepth 100000 in
theorem B1k {d:Nat}{wE:World}{c0 ca B fnD:Nat}{capD:Array Value}{g gd:Nat}{b e:Nat→Nat}{nm:List UInt8}{af:Option Addr}{nf cf:Nat}{ab:Option Addr}{nb cb:Nat}{fs:List FI}{f:List UInt8→BI d→Int}{Q:BI d→Prop}{w:World}(hbE:Below wE.heap.size wE w) (e0:wE.heap.size≤c0) (ea:wE.heap.size≤ca) (hck:CkM c0 ca B fnD capD g gd b e w) (hB:B≤w.heap.size) (h0:w.heap[c0]?=some (.cells #[.int .i64 0] 3 (0,0))) (ha:w.heap[ca]?=some (.cells #[.slice none 0 0] 33 (0,0)))
  (hf:RdL 6 FAt wE (.slice af nf cf) fs) (hT:Tabs wE) (hent:∀ (args:Array Value) (w:World),(callFunc fnD args).run Tryz.prog w = .ok (.enter fnD args) w) (hdeep:∀ x∈fs,∀ v:VI (BI d),(∀ s∈v.subs,Q s)→A0t x v=false→Deeper d fnD capD x.type (f x.type) v.subs wE)
  {l:List (VI (BI d))}{vl:Value}(h:RdL 4 (VAt (BAt d)) wE vl l) (hV:∀ v∈l,VOk Q v) (hlen:l.length*80≤reachBytes) :
  Calls Tryz.prog 74 #[.agg #[.string (S nm),.slice af nf cf,.slice ab nb cb],vl,.slice (some ⟨g,0,none⟩) 8 8] w fun r w'=>r = .returned (.int .i64 (A3q fs f l (0,[])))∧Below wE.heap.size wE w':=by
 obtain⟨W2,HW2⟩:∃ W2,Hid (W2=(w.alloc (.cells #[.string (S nm),.slice af nf cf,.slice ab nb cb] 35)).alloc (.cells #[.slice (some ⟨g,0,none⟩) 8 8] 130)):=⟨_,rfl⟩
 have hb2:Below w.heap.size w W2:=by rw[HW2.out];exact((Below.refl _ _).alloc (Nat.le_refl _) _).alloc (by simp) _
 have hz2:w.heap.size+2≤W2.heap.size:=by rw[HW2.out];simp
 have x1:W2.heap[w.heap.size]?=some (.cells #[.string (S nm),.slice af nf cf,.slice ab nb cb] 35 (0,0)):=by rw[HW2.out];exact A0u _ _ _
 have x2:W2.heap[w.heap.size+1]?=some (.cells #[.slice (some ⟨g,0,none⟩) 8 8] 130 (0,0)):=by rw[HW2.out];exact A0r _ _ _
 have hc0:c0 < w.heap.size:=(Array.getElem?_eq_some_iff.1 h0).1
 have hca:ca < w.heap.size:=(Array.getElem?_eq_some_iff.1 ha).1
 have hm:Mm c0 ca W2.heap.size (0,[]) W2:=⟨(hb2.block c0 hc0).trans h0,⟨_,(hb2.block ca hca).trans ha,Row.nil _ _ _⟩,Nat.le_refl _,by omega,by omega⟩
 have hC:Ctx (d:=d) wE c0 ca W2.heap.size fnD capD g gd b e w.heap.size (w.heap.size+1) nm af nf cf ab nb cb fs f Q W2:=
  ⟨hbE.trans (hb2.mono hbE.size),e0,ea,(hck.below hb2).mono (by omega),⟨x1,by omega,by omega,by omega⟩,⟨x2,by omega,by omega,by omega⟩,hf,hT,hent,hdeep⟩
 have hcall:=D0n hC hm rfl h hV hlen
 have hmf:=A4g
 obtain⟨al,nl,cl,rfl,_,_⟩:=h.shape
 clear hC hm hdeep hV h hck hf
 go_enter Tryz.func74,Tryz.ntmps74
 go_wp2_with fail
 rw[←HW2.out]
 refine hcall.mono ?_
 rintro r w3 ⟨rfl,s',hS⟩
 go_wp2
 go_ret
 exact⟨rfl,(hbE.trans (hb2.mono hbE.size)).trans (hS.below e0 ea)⟩
def A0m (g:GI) (name:List UInt8):List FI:=match g.msgs.find? (fun m=>decide (m.name=name)) with
 | some m=>m.fields
 | none=>[]
def A1d (g:GI):(d:Nat)→Int→List FI→BI d→Int
 | 0=>fun _ _ b=>nomatch (b:Empty)
 | d+1=>fun k fs b=>if 12 < k then 10 else if A3q fs (fun name s=>A1d g d (k+1) (A0m g name) s) (BO.vals b) (0,[])=0 then A0y (A7l fs) (BO.unk b) else A3q fs (fun name s=>A1d g d (k+1) (A0m g name) s) (BO.vals b) (0,[])
theorem A2v (g:GI) (d:Nat) (k:Int) (fs:List FI) (x:BI (d+1)):A1d g (d+1) k fs x=if 12 < k then 10 else if A3q fs (fun name s=>A1d g d (k+1) (A0m g name) s) (BO.vals x) (0,[])=0 then A0y (A7l fs) (BO.unk x) else A3q fs (fun name s=>A1d g d (k+1) (A0m g name) s) (BO.vals x) (0,[]):=rfl
def D3f (g:GI):Prop:=∀ m∈g.msgs,∀ x∈m.fields,x.kind=10→∃ m',g.msgs.find? (fun m=>decide (m.name=x.type))=some m'
theorem A7d {β:Type}{x:FI}{v:VI β}(h:A0t x v=false) (hs:v.subs≠[]):x.kind=10:=by
 unfold A0t at h
 by_cases h8:x.kind=8∨x.kind=9
 ·rw[if_pos h8] at h;simp at h;exact absurd h.2 hs
 ·rw[if_neg h8] at h
  by_cases h10:x.kind=10
  ·exact h10
  ·rw[if_neg h10] at h;simp at h;exact absurd h.2 hs
def B3a (g:GI) (d:Nat):Prop:=∀ (w:World) (k:Int) (vm ve:Value) (m:MI) (vf vb v0 v1:Value) (x:BI d),0≤k→k≤100→GRd w vm ve g→m∈g.msgs→RdL 6 FAt w vf m.fields→RdL 1 NAt w vb m.barred→BQ d w v0 v1 x→BOk d x→Tabs w→
 Calls Tryz.prog 36 #[.agg #[vm,ve],.agg #[.string (S m.name),vf,vb],.agg #[v0,v1],.int .i64 k] w fun r w'=>r = .returned (.int .i64 (A1d g d k m.fields x))∧Below w.heap.size w w'
set_option maxHeartbeats 2000000 in
set_option maxRecDepth 100000 in
theorem C7g {g:GI}(hsub:D3f g){d:Nat}(ih:B3a g d):B3a g (d+1):=by
 intro w k vm ve m vf vb v0 v1 x hk0 hk1 hg hm hf hb hq hok hT
 obtain⟨am,nm,cm,rfl,_,_⟩:=hg.1.shape
 obtain⟨ae,ne,ce,rfl,_,_⟩:=hg.2.shape
 obtain⟨af,nf,cf,rfl,_,_⟩:=hf.shape
 obtain⟨ab,nb,cb,rfl,_,_⟩:=hb.shape
 have hq:BRd d w v0 v1 x:=hq
 obtain⟨a0,n0,c0,a1,n1,c1,rfl,rfl⟩:=hq.shape
 obtain⟨hV,hlen,_,_⟩:=hok
 obtain⟨N,HN⟩:∃ N,Hid (N=w.heap.size):=⟨_,rfl⟩
 obtain⟨W4,HW4⟩:∃ W4,Hid (W4=(((w.alloc (.cells #[.slice am nm cm,.slice ae ne ce] 25)).alloc (.cells #[.string (S m.name),.slice af nf cf,.slice ab nb cb] 35)).alloc (.cells #[.slice a0 n0 c0,.slice a1 n1 c1] 29)).alloc (.cells #[.int .i64 k] 3)):=⟨_,rfl⟩
 have hb4:Below w.heap.size w W4:=by rw[HW4.out];exact((((Below.refl _ _).alloc (Nat.le_refl _) _).alloc (by simp) _).alloc (by first|(simp;omega)|simp) _).alloc (by first|(simp;omega)|simp) _
 have z4:w.heap.size+4≤W4.heap.size:=by rw[HW4.out];simp
 have x0:W4.heap[w.heap.size]?=some (.cells #[.slice am nm cm,.slice ae ne ce] 25 (0,0)):=by
  rw[HW4.out,Below.heap_alloc _ _ _ (by first|(simp;omega)|simp),Below.heap_alloc _ _ _ (by first|(simp;omega)|simp)];exact A0u _ _ _
 have x1:W4.heap[w.heap.size+1]?=some (.cells #[.string (S m.name),.slice af nf cf,.slice ab nb cb] 35 (0,0)):=by
  rw[HW4.out,Below.heap_alloc _ _ _ (by first|(simp;omega)|simp),Below.heap_alloc _ _ _ (by first|(simp;omega)|simp)];exact A0r _ _ _
 have x2:W4.heap[w.heap.size+2]?=some (.cells #[.slice a0 n0 c0,.slice a1 n1 c1] 29 (0,0)):=by
  rw[HW4.out,Below.heap_alloc _ _ _ (by first|(simp;omega)|simp)]
  have:=heap_alloc_new ((w.alloc (.cells #[.slice am nm cm,.slice ae ne ce] 25)).alloc (.cells #[.string (S m.name),.slice af nf cf,.slice ab nb cb] 35)) (.cells #[.slice a0 n0 c0,.slice a1 n1 c1] 29)
  simpa using this
 have x3:W4.heap[w.heap.size+3]?=some (.cells #[.int .i64 k] 3 (0,0)):=by
  have:=heap_alloc_new (((w.alloc (.cells #[.slice am nm cm,.slice ae ne ce] 25)).alloc (.cells #[.string (S m.name),.slice af nf cf,.slice ab nb cb] 35)).alloc (.cells #[.slice a0 n0 c0,.slice a1 n1 c1] 29)) (.cells #[.int .i64 k] 3)
  rw[HW4.out]
  simpa using this
 by_cases hk:12 < k
 ·have HR:Hid (A1d g (d+1) k m.fields x=10):=by show _=_;rw[A2v,if_pos hk]
  clear ih hV hq hg hf hb
  go_enter Tryz.func36,Tryz.ntmps36
  go_wp2
  go_ret
  rw[←HW4.out]
  exact⟨by rw[HR.out];rfl,hb4⟩
 ·obtain⟨f,Hf⟩:∃ f:List UInt8→BI d→Int,Hid (f=fun name s=>A1d g d (k+1) (A0m g name) s):=⟨_,rfl⟩
  have HE:Hid (A1d g (d+1) k m.fields x=if A3q m.fields f (BO.vals x) (0,[])=0 then A0y (A7l m.fields) (BO.unk x) else A3q m.fields f (BO.vals x) (0,[])):=by
   show _=_
   rw[Hf.out,A2v,if_neg hk]
  have hdeep:∀ y∈m.fields,∀ v:VI (BI d),(∀ s∈v.subs,BOk d s)→A0t y v=false→Deeper d 73 #[.pointer (some ⟨w.heap.size,0,none⟩),.pointer (some ⟨w.heap.size+3,0,none⟩)] y.type (f y.type) v.subs W4:=by
   intro y hy v hQ ho W hW s hs u0 u1 hqs
   have hkind:=A7d ho (fun e=>by rw[e] at hs;cases hs)
   obtain⟨m',hm'⟩:=hsub m hm y hy hkind
   rcases A3m (fun m:MI=>decide (m.name=y.type)) g.msgs with⟨_,h2⟩|⟨i,m2,h1,h2,h3,_⟩
   ·rw[h2] at hm';cases hm'
   ·have hWW:Below w.heap.size w W:=BTd hb4 hW
    have hfe:A0m g y.type=m2.fields:=by unfold A0m;rw[h3]
    obtain⟨b0,p0,q0,b1,p1,q1,rfl,rfl⟩:=hqs.shape
    refine(C4i (R:=f y.type s) ((hW.block _ (by omega)).trans x0) ((hW.block _ (by omega)).trans x3) (hg.below hWW) h1 h2 hk0 (by omega) fun vf vb hf' hb' V hV'=>?_)
    rw[Hf.out]
    show Calls _ _ _ _ fun e V'=>e = .returned (.int .i64 (A1d g d (k+1) (A0m g y.type) s))∧Below V.heap.size V V'
    rw[hfe]
    exact ih V (k+1) _ _ m2 vf vb _ _ s (by omega) (by omega) (hg.below (BTd hWW hV')) (List.mem_of_getElem? h2) (hf'.below FAt.stays hV') (hb'.below NAt.stays hV') (hqs.below hV') (hQ s hs) (hT.below (BTd hWW hV'))
  have hD:Below W4.heap.size W4 W4.drew:=(Below.refl _ _).drew
  have hnew:=C1s 73 #[.pointer (some ⟨w.heap.size,0,none⟩),.pointer (some ⟨w.heap.size+3,0,none⟩)] W4.drew
  have hcl:∀ V,Below W4.heap.size W4 V→V.cell? ⟨w.heap.size+1,0,none⟩=some (.string (S m.name))∧V.cell? ⟨w.heap.size+1,1,none⟩=some (.slice af nf cf)∧V.cell? ⟨w.heap.size+1,2,none⟩=some (.slice ab nb cb)∧V.cell? ⟨w.heap.size+2,0,none⟩=some (.slice a0 n0 c0)∧V.cell? ⟨w.heap.size+2,1,none⟩=some (.slice a1 n1 c1):=fun V hV'=>⟨A0c hV' (A0a x1 0 _ rfl),A0c hV' (A0a x1 1 _ rfl),A0c hV' (A0a x1 2 _ rfl),A0c hV' (A0a x2 0 _ rfl),A0c hV' (A0a x2 1 _ rfl)⟩
  obtain⟨t0,t1,t2,t3,t4⟩:=hcl W4.drew hD
  obtain⟨E,HEE⟩:∃ E,Hid (E=A3q m.fields f (BO.vals x) (0,[])):=⟨_,rfl⟩
  have hvals:∀ w1,Below W4.drew.heap.size W4.drew w1→Hid (w1.heap.size=W4.drew.heap.size+14)→CkM (W4.drew.heap.size+1) (W4.drew.heap.size+10) (W4.drew.heap.size+14) 73 #[.pointer (some ⟨w.heap.size,0,none⟩),.pointer (some ⟨w.heap.size+3,0,none⟩)] (W4.drew.heap.size+13) W4.drew.heap.size (bF W4.drew.heap.size) (eF W4.drew.heap.size) w1→w1.heap[W4.drew.heap.size+1]?=some (.cells #[.int .i64 0] 3 (0,0))→w1.heap[W4.drew.heap.size+10]?=some (.cells #[.slice none 0 0] 33 (0,0))→
    Calls Tryz.prog 74 #[.agg #[.string (S m.name),.slice af nf cf,.slice ab nb cb],.slice a0 n0 c0,.slice (some ⟨W4.drew.heap.size+13,0,none⟩) 8 8] w1 fun r w'=>r = .returned (.int .i64 E)∧Below W4.heap.size W4 w':=by
   intro w1 hb1 hz1 hck h0 ha
   rw[HEE.out]
   have hE:W4.heap.size≤W4.drew.heap.size:=hD.size
   have hb41:Below W4.heap.size W4 w1:=BTd hD hb1
   exact B1k (Q:=BOk d) hb41 (by omega) (by omega) hck (by rw[hz1.out];exact Nat.le_refl _) h0 ha (hf.below FAt.stays hb4) (hT.below hb4) (enters_of Tryz.func73 (by kernel_rfl) rfl) hdeep (hq.below hb4).1 hV hlen
  have hkb:decide ((12:Int) < k)=false:=decide_eq_false hk
  have hmf:=A4g
  have hunk:∀ w2,Below W4.heap.size W4 w2→Calls Tryz.prog 76 #[.slice a1 n1 c1,.func (.func 77) #[] #[.pointer (some ⟨w.heap.size+1,0,none⟩)]] w2 fun e w'=>e = .returned (.int .i64 (A0y (A7l m.fields) (BO.unk x)))∧Below w2.heap.size w2 w':=fun w2 hb2=>D0k (hq.below (BTd hb4 hb2)).2 ((hb2.block _ (by omega)).trans x1) (hf.below FAt.stays (BTd hb4 hb2))
  rw[HE.out,←HEE.out]
  obtain⟨U,HU⟩:∃ U,Hid (U=A0y (A7l m.fields) (BO.unk x)):=⟨_,rfl⟩
  rw[←HU.out] at hunk ⊢
  obtain⟨ANS,HANS⟩:∃ ANS,Hid (ANS=if E=0 then U else E):=⟨_,rfl⟩
  rw[←HANS.out]
  clear ih hdeep hV hk hg hf hb hq hT hsub HE HEE
  go_enter Tryz.func36,Tryz.ntmps36
  go_wp2_with fail
  rw[←HW4.out]
  go_region_with (first
   | (go_at_call 75;refine hnew.mono ?_;rintro r w1 ⟨rfl,hb1,hz1,hck,h0,ha⟩;obtain⟨u0,u1,u2,u3,u4⟩:=hcl w1 (BTd hD hb1))
   | (go_at_call 74;refine(hvals w1 hb1 hz1 hck h0 ha).mono ?_;rintro r w2 ⟨rfl,hb2⟩))
  all_goals
   obtain⟨s0,s1,s2,s3,s4⟩:=hcl w2 hb2
   have hun:=hunk w2 hb2
   by_cases hE0:E=0
   ·have ez:(E != 0)=false:=by simp[hE0]
    have HZ:Hid (E=0):=hE0
    clear hE0
    go_wp2_with fail
    refine hun.mono ?_
    rintro r w3 ⟨rfl,hb3⟩
    go_wp2
    go_ret
    exact⟨by rw[HANS.out,if_pos HZ.out];rfl,BTd hb4 (BTd hb2 hb3)⟩
   ·have ez:(E != 0)=true:=by simpa using hE0
    have HZ:Hid (E≠0):=hE0
    clear hE0
    go_wp2
    go_ret
    exact⟨by rw[HANS.out,if_neg HZ.out];rfl,BTd hb4 hb2⟩
theorem B9k {g:GI}(hsub:D3f g):∀ d,B3a g d
 | 0=>fun _ _ _ _ _ _ _ _ _ x=>nomatch (x:Empty)
 | d+1=>C7g hsub (B9k hsub d)
end L
end Go.Proofs.YtcagbdokbnpdfaaGreatDoor
namespace Go.Proofs.YtcagbdokbnpdfaaGreatDoor
namespace L
def D2f (x:FI) (s:Mem):Mem:=⟨A7j x.name s.names,A7j x.number s.nums,x.choice,max s.begun x.choice⟩
def B4h (g:GI) (bar:List Int) (x:FI) (s:Mem):Bool:=!(!A6b x.name||decide (x.name∈s.names))&&(C7x x.number&&(!(decide (x.number∈bar)||decide (x.number∈s.nums))&&(!(decide (x.kind < 1)||decide (10 < x.kind))&&(B9p g x&&(!(B5u x||(decide (0 < x.choice)&&x.many))&&!B9w s.last s.begun x.choice)))))
theorem C3f {g:GI}{bar:List Int}{x:FI}{s:Mem}(h:B4h g bar x s=true):A1e (A1q g bar) 0 A5s x s=(none,D2f x s):=by
 simp only[B4h,Bool.and_eq_true,Bool.not_eq_true'] at h
 obtain⟨h0,h1,h2,h3,h4,h5,h6⟩:=h
 simp[A5s,A1e,A1q,h0,h1,h2,h3,h4,h5,h6,D2f]
theorem C3e {g:GI}{bar:List Int}{x:FI}{s:Mem}(h:B4h g bar x s=false):∃ e s',A1e (A1q g bar) 0 A5s x s=(some e,s')∧e≠0:=by
 unfold B4h at h
 cases h0:(!A6b x.name||decide (x.name∈s.names)) with
 | true=>exact⟨7,_,by simp only[A5s,A1e,A1q];rw[h0];rfl,by decide⟩
 | false=>
  cases h1:C7x x.number with
  | false=>exact⟨3,_,by simp only[A5s,A1e,A1q];rw[h0,h1];rfl,by decide⟩
  | true=>
   cases h2:(decide (x.number∈bar)||decide (x.number∈s.nums)) with
   | true=>exact⟨8,_,by simp only[A5s,A1e,A1q];rw[h0,h1,h2];rfl,by decide⟩
   | false=>
    cases h3:(decide (x.kind < 1)||decide (10 < x.kind)) with
    | true=>exact⟨1,_,by simp only[A5s,A1e,A1q];rw[h0,h1,h2,h3];rfl,by decide⟩
    | false=>
     cases h4:B9p g x with
     | false=>exact⟨6,_,by simp only[A5s,A1e,A1q];rw[h0,h1,h2,h3,h4];rfl,by decide⟩
     | true=>
      cases h5:(B5u x||(decide (0 < x.choice)&&x.many)) with
      | true=>exact⟨8,_,by simp only[A5s,A1e,A1q];rw[h0,h1,h2,h3,h4,h5];rfl,by decide⟩
      | false=>
       cases h6:B9w s.last s.begun x.choice with
       | true=>exact⟨2,_,by simp only[A5s,A1e,A1q];rw[h0,h1,h2,h3,h4,h5,h6];rfl,by decide⟩
       | false=>rw[h0,h1,h2,h3,h4,h5,h6] at h;cases h
theorem C2d {g:GI}{bar:List Int}{i:Nat}{x:FI}{l:List FI}{s:Mem}(h:(A0n (A1q g bar) A5s i (x::l) s).1=0):B4h g bar x s=true∧(A0n (A1q g bar) A5s (i+1) l (D2f x s)).1=0:=by
 cases hp:B4h g bar x s with
 | true=>
  rw[A0n,C3f hp] at h
  exact⟨rfl,h⟩
 | false=>
  obtain⟨e,s',h1,h2⟩:=C3e hp
  rw[A0n,h1] at h
  exact absurd h h2
theorem B5s {g:GI}:∀ (l:List MI) (i:Nat) (q:Int×Nat),A5j g i l=some q→q.1≠0
 | [],_,_,h=>by cases h
 | m::l,i,q,h=>by
  rw[A5j] at h
  split at h
  ·rename_i h0;cases h;exact h0
  ·exact B5s l _ q h
theorem B5r {g:GI}:∀ (l:List MI) (i:Nat),A5j g i l=none→∀ m∈l,A3r g m=0
 | [],_,_,_,hm=>by simp at hm
 | x::l,i,h,m,hm=>by
  rw[A5j] at h
  split at h
  ·cases h
  ·rename_i h0
   rcases List.mem_cons.1 hm with rfl|hm
   ·simpa using h0
   ·exact B5r l _ h m hm
theorem B1b {g:GI}(h:(A1c g).1=0):¬ 10 < g.msgs.length+g.enums.length∧(A0n B4n [7] 0 (A6y g) []).1=0∧∀ m∈g.msgs,A3r g m=0:=by
 unfold A1c at h
 split at h
 ·cases h
 ·rename_i h1
  split at h
  ·rename_i h2;exact absurd h h2
  ·rename_i h2
   refine⟨h1,by simpa using h2,?_⟩
   cases hm:A5j g 0 g.msgs with
   | some q=>rw[hm] at h;exact absurd h (B5s _ _ q hm)
   | none=>exact B5r _ _ hm
theorem C6r {g:GI}{m:MI}(h:A3r g m=0):m.fields.length≤16∧m.barred.length≤16∧m.barred.any B3d=false∧(A0n (A1q g m.barred) A5s 0 m.fields C5j).1=0:=by
 unfold A3r at h
 split at h
 ·cases h
 ·rename_i h1
  split at h
  ·cases h
  ·rename_i h2
   exact⟨by omega,by omega,by simpa using h2,h⟩
end L
end Go.Proofs.YtcagbdokbnpdfaaGreatDoor
