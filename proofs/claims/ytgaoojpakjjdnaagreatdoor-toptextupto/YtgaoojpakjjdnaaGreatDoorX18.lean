import Derived.Test.YtgaoojpakjjdnaaGreatDoorX17
set_option maxHeartbeats 32000000
set_option maxRecDepth 100000
namespace Go.Proofs.YtgaoojpakjjdnaaGreatDoor
namespace L
open Go.RowKit
def A1z (h:Int):Bool:=decide (h=0∨h=1∨h=2∨h=5)
theorem A0s {h:Int}(k:h=0∨h=1∨h=2∨h=5):true=A1z h:=by unfold A1z;simp[k]
theorem A7h {h:Int}(k:¬ (h=0∨h=1∨h=2∨h=5)):false=A1z h:=by unfold A1z;simp only[k,decide_false]
theorem A0z (h:Int)(w:World) :
  Calls Tryz.prog 152 #[.int .i64 h] w fun e w'=>e = .returned (.bool (A1z h))∧w=w':=by
 by_cases k:h=0∨h=1∨h=2∨h=5
 ·rw[←A0s k]
  rcases k with rfl|rfl|rfl|rfl
  all_goals
   go_enter Tryz.func152,Tryz.ntmps152
   go_wp2
   go_ret
   exact⟨rfl,rfl⟩
 ·rw[←A7h k]
  have b0:(h==0)=false:=beq_eq_false_iff_ne.2 (by omega)
  have b1:(h==1)=false:=beq_eq_false_iff_ne.2 (by omega)
  have b2:(h==2)=false:=beq_eq_false_iff_ne.2 (by omega)
  have b5:(h==5)=false:=beq_eq_false_iff_ne.2 (by omega)
  go_enter Tryz.func152,Tryz.ntmps152
  go_wp2
  go_ret
  exact⟨rfl,rfl⟩
def A1c (num how:Int)(bits len:Nat):Int:=
 if A1z how=false then 1
 else if how=2∧4000<len then 4
 else if num<1∨536870912≤num then 3
 else if how=5∧bits / 4294967296≠0 then 3
 else if how=2∧bits≠0 then 8
 else if how≠2∧0<len then 8
 else 0
theorem B5k {num how:Int}{bits len:Nat}(h:A1z how=false):A1c num how bits len=1:=by
 unfold A1c;rw[if_pos h]
theorem B2s {how:Int}(h:how=0∨how=1∨how=2∨how=5):¬ A1z how=false:=by rw[←A0s h];decide
theorem B0g (num how:Int)(bits:Nat)(ao:Option Addr)(len cap:Nat)(w:World)(ag:len≤9223372036854775807) :
  Calls Tryz.prog 90 #[.agg #[.int .i64 num,.int .i64 how,.int .u64 (bits:Int),.slice ao len cap]] w fun e w'=>e = .returned (.int .i64 (A1c num how bits len))∧Below w.heap.size w w':=by
 have fin:∀ (o:Obj),Below w.heap.size w (w.alloc o):=fun o=>(Below.refl _ _).alloc (Nat.le_refl _) o
 by_cases hk:A1z how=false
 ·rw[B5k hk]
  go_enter Tryz.func90,Tryz.ntmps90
  go_wp2_with (go_at_call 152;refine(A0z how _).mono ?_;rintro e w1 ⟨rfl,rfl⟩)
  go_ret
  exact⟨rfl,fin _⟩
 ·obtain⟨E,HE⟩:∃ E,Hid (E=A1c num how bits len):=⟨_,rfl⟩
  rw[←HE.out]
  have hh:how=0∨how=1∨how=2∨how=5:=by
   rcases Decidable.em (how=0∨how=1∨how=2∨how=5) with h|h
   ·exact h
   ·exact absurd (A7h h).symm hk
  have ac:Hid (E=(if how=2∧4000<len then 4
   else if num<1∨536870912≤num then 3
   else if how=5∧bits / 4294967296≠0 then 3
   else if how=2∧bits≠0 then 8
   else if how≠2∧0<len then 8
   else 0)):=by
   show _=_
   rw[HE.out,A1c,if_neg hk]
  clear HE hk
  rcases hh with rfl|rfl|rfl|rfl
  ·by_cases h3:num<1
   ·have HF:Hid (E=3):=by show _=_;rw[ac.out,if_neg (by omega),if_pos (by omega)]
    clear ac
    go_enter Tryz.func90,Tryz.ntmps90
    go_wp2_with (go_at_call 152;refine(A0z _ _).mono ?_;rintro e w1 ⟨rfl,rfl⟩;rw[←A0s (by omega)])
    go_ret
    exact⟨A1k HF.out.symm,fin _⟩
   ·by_cases h2:536870912≤num
    ·have HF:Hid (E=3):=by show _=_;rw[ac.out,if_neg (by omega),if_pos (by omega)]
     clear ac
     go_enter Tryz.func90,Tryz.ntmps90
     go_wp2_with (go_at_call 152;refine(A0z _ _).mono ?_;rintro e w1 ⟨rfl,rfl⟩;rw[←A0s (by omega)])
     go_ret
     exact⟨A1k HF.out.symm,fin _⟩
    ·by_cases h1:0<len
     rotate_right
     focus
      have HF:Hid (E=0):=by show _=_;rw[ac.out,if_neg (by omega),if_neg (by omega),if_neg (by omega),if_neg (by omega),if_neg (by omega)]
     rotate_right
     focus
      have HF:Hid (E=8):=by show _=_;rw[ac.out,if_neg (by omega),if_neg (by omega),if_neg (by omega),if_neg (by omega),if_pos (by omega)]
     all_goals
      clear ac
      go_enter Tryz.func90,Tryz.ntmps90
      go_wp2_with (go_at_call 152;refine(A0z _ _).mono ?_;rintro e w1 ⟨rfl,rfl⟩;rw[←A0s (by omega)])
      go_ret
      exact⟨A1k HF.out.symm,fin _⟩
  ·by_cases h3:num<1
   ·have HF:Hid (E=3):=by show _=_;rw[ac.out,if_neg (by omega),if_pos (by omega)]
    clear ac
    go_enter Tryz.func90,Tryz.ntmps90
    go_wp2_with (go_at_call 152;refine(A0z _ _).mono ?_;rintro e w1 ⟨rfl,rfl⟩;rw[←A0s (by omega)])
    go_ret
    exact⟨A1k HF.out.symm,fin _⟩
   ·by_cases h2:536870912≤num
    ·have HF:Hid (E=3):=by show _=_;rw[ac.out,if_neg (by omega),if_pos (by omega)]
     clear ac
     go_enter Tryz.func90,Tryz.ntmps90
     go_wp2_with (go_at_call 152;refine(A0z _ _).mono ?_;rintro e w1 ⟨rfl,rfl⟩;rw[←A0s (by omega)])
     go_ret
     exact⟨A1k HF.out.symm,fin _⟩
    ·by_cases h1:0<len
     rotate_right
     focus
      have HF:Hid (E=0):=by show _=_;rw[ac.out,if_neg (by omega),if_neg (by omega),if_neg (by omega),if_neg (by omega),if_neg (by omega)]
     rotate_right
     focus
      have HF:Hid (E=8):=by show _=_;rw[ac.out,if_neg (by omega),if_neg (by omega),if_neg (by omega),if_neg (by omega),if_pos (by omega)]
     all_goals
      clear ac
      go_enter Tryz.func90,Tryz.ntmps90
      go_wp2_with (go_at_call 152;refine(A0z _ _).mono ?_;rintro e w1 ⟨rfl,rfl⟩;rw[←A0s (by omega)])
      go_ret
      exact⟨A1k HF.out.symm,fin _⟩
  ·by_cases h4:4000<len
   ·have HF:Hid (E=4):=by show _=_;rw[ac.out,if_pos (by omega)]
    clear ac
    go_enter Tryz.func90,Tryz.ntmps90
    go_wp2_with (go_at_call 152;refine(A0z _ _).mono ?_;rintro e w1 ⟨rfl,rfl⟩;rw[←A0s (by omega)])
    go_ret
    exact⟨A1k HF.out.symm,fin _⟩
   ·by_cases h3:num<1
    ·have HF:Hid (E=3):=by show _=_;rw[ac.out,if_neg (by omega),if_pos (by omega)]
     clear ac
     go_enter Tryz.func90,Tryz.ntmps90
     go_wp2_with (go_at_call 152;refine(A0z _ _).mono ?_;rintro e w1 ⟨rfl,rfl⟩;rw[←A0s (by omega)])
     go_ret
     exact⟨A1k HF.out.symm,fin _⟩
    ·by_cases h2:536870912≤num
     ·have HF:Hid (E=3):=by show _=_;rw[ac.out,if_neg (by omega),if_pos (by omega)]
      clear ac
      go_enter Tryz.func90,Tryz.ntmps90
      go_wp2_with (go_at_call 152;refine(A0z _ _).mono ?_;rintro e w1 ⟨rfl,rfl⟩;rw[←A0s (by omega)])
      go_ret
      exact⟨A1k HF.out.symm,fin _⟩
     ·by_cases h1:bits≠0
      rotate_right
      focus
       have hx:((bits:Int) != 0)=false:=by simp;omega
       have HF:Hid (E=0):=by show _=_;rw[ac.out,if_neg (by omega),if_neg (by omega),if_neg (by omega),if_neg (by omega),if_neg (by omega)]
       clear ac
      rotate_right
      focus
       have HF:Hid (E=8):=by show _=_;rw[ac.out,if_neg (by omega),if_neg (by omega),if_neg (by omega),if_pos (by omega)]
       clear ac
       have hx:((bits:Int) != 0)=true:=by rw[bne_iff_ne];omega
      all_goals
       go_enter Tryz.func90,Tryz.ntmps90
       go_wp2_with (go_at_call 152;refine(A0z _ _).mono ?_;rintro e w1 ⟨rfl,rfl⟩;rw[←A0s (by omega)])
       go_ret
       exact⟨A1k HF.out.symm,fin _⟩
  ·by_cases h4:num<1
   ·have HF:Hid (E=3):=by show _=_;rw[ac.out,if_neg (by omega),if_pos (by omega)]
    clear ac
    go_enter Tryz.func90,Tryz.ntmps90
    go_wp2_with (go_at_call 152;refine(A0z _ _).mono ?_;rintro e w1 ⟨rfl,rfl⟩;rw[←A0s (by omega)])
    go_ret
    exact⟨A1k HF.out.symm,fin _⟩
   ·by_cases h3:536870912≤num
    ·have HF:Hid (E=3):=by show _=_;rw[ac.out,if_neg (by omega),if_pos (by omega)]
     clear ac
     go_enter Tryz.func90,Tryz.ntmps90
     go_wp2_with (go_at_call 152;refine(A0z _ _).mono ?_;rintro e w1 ⟨rfl,rfl⟩;rw[←A0s (by omega)])
     go_ret
     exact⟨A1k HF.out.symm,fin _⟩
    ·by_cases h2:bits / 4294967296≠0
     ·have HF:Hid (E=3):=by show _=_;rw[ac.out,if_neg (by omega),if_neg (by omega),if_pos (by omega)]
      clear ac
      have hx:((bits:Int) / 4294967296 != 0)=true:=by rw[bne_iff_ne];omega
      go_enter Tryz.func90,Tryz.ntmps90
      go_wp2_with (go_at_call 152;refine(A0z _ _).mono ?_;rintro e w1 ⟨rfl,rfl⟩;rw[←A0s (by omega)])
      go_ret
      exact⟨A1k HF.out.symm,fin _⟩
     ·have hx:((bits:Int) / 4294967296 != 0)=false:=by simp;omega
      by_cases h1:0<len
      rotate_right
      focus
       have HF:Hid (E=0):=by show _=_;rw[ac.out,if_neg (by omega),if_neg (by omega),if_neg (by omega),if_neg (by omega),if_neg (by omega)]
      rotate_right
      focus
       have HF:Hid (E=8):=by show _=_;rw[ac.out,if_neg (by omega),if_neg (by omega),if_neg (by omega),if_neg (by omega),if_pos (by omega)]
      all_goals
       clear ac
       go_enter Tryz.func90,Tryz.ntmps90
       go_wp2_with (go_at_call 152;refine(A0z _ _).mono ?_;rintro e w1 ⟨rfl,rfl⟩;rw[←A0s (by omega)])
       go_ret
       exact⟨A1k HF.out.symm,fin _⟩
def B1l (fs:List FI)(r:RI):Int:=
 if A1c r.number r.how r.bits r.bytes.length=0 then(if 0≤A0g (fun f:FI=>decide (f.number=r.number)) fs then 7 else 0) else A1c r.number r.how r.bits r.bytes.length
theorem C2d {w:World}{nm:List UInt8}{af ab:Option Addr}{nf cf nb cb:Nat}{fs:List FI}(hf:RdL 6 FAt w (.slice af nf cf) fs)(r:RI){ao:Option Addr}{n cap:Nat}(Hn:Hid (n=r.bytes.length))(hn:n≤9223372036854775807) :
  Calls Tryz.prog 60 #[.agg #[.string (S nm),.slice af nf cf,.slice ab nb cb],.agg #[.int .i64 r.number,.int .i64 r.how,.int .u64 (r.bits:Int),.slice ao n cap]] w fun e w'=>e = .returned (.int .i64 (B1l fs r))∧Below w.heap.size w w':=by
 obtain⟨W2,ag⟩:∃ W2,Hid (W2=(w.alloc (.cells #[.string (S nm),.slice af nf cf,.slice ab nb cb] 38)).alloc (.cells #[.int .i64 r.number,.int .i64 r.how,.int .u64 (r.bits:Int),.slice ao n cap] 106)):=⟨_,rfl⟩
 have hb2:Below w.heap.size w W2:=by rw[ag.out];exact((Below.refl _ _).alloc (Nat.le_refl _) _).alloc (by simp) _
 have x1:W2.heap[w.heap.size]?=some (.cells #[.string (S nm),.slice af nf cf,.slice ab nb cb] 38 (0,0)):=by rw[ag.out];exact A0l _ _ _
 have x2:W2.heap[w.heap.size+1]?=some (.cells #[.int .i64 r.number,.int .i64 r.how,.int .u64 (r.bits:Int),.slice ao n cap] 106 (0,0)):=by rw[ag.out];exact A0i _ _ _
 have hz2:w.heap.size+2≤W2.heap.size:=by rw[ag.out];simp
 have hw:=B0g r.number r.how r.bits ao n cap W2 hn
 obtain⟨E,HE⟩:∃ E,Hid (E=A1c r.number r.how r.bits n):=⟨_,rfl⟩
 rw[←HE.out] at hw
 go_enter Tryz.func60,Tryz.ntmps60
 go_wp2_with fail
 rw[←ag.out]
 refine hw.mono ?_
 rintro e w3 ⟨rfl,hb3⟩
 have ac:Below w.heap.size w w3:=hb2.trans (hb3.mono hb2.size)
 clear hw
 by_cases hz:E=0
 ·have ez:(E != 0)=false:=by simp[hz]
  have y1:=(hb3.block w.heap.size (by omega)).trans x1
  have y2:=(hb3.block (w.heap.size+1) (by omega)).trans x2
  have m0:w3.cell? ⟨w.heap.size,0,none⟩=some (.string (S nm)):=A0a y1 0 _ rfl
  have m1:w3.cell? ⟨w.heap.size,1,none⟩=some (.slice af nf cf):=A0a y1 1 _ rfl
  have m2:w3.cell? ⟨w.heap.size,2,none⟩=some (.slice ab nb cb):=A0a y1 2 _ rfl
  have m3:w3.cell? ⟨w.heap.size+1,0,none⟩=some (.int .i64 r.number):=A0a y2 0 _ rfl
  have ah:=A3g (hf.below FAt.stays ac) ⟨ab,nb,cb,rfl⟩ ⟨nm,rfl⟩ r.number
  obtain⟨k,Hk⟩:∃ k,Hid (k=A0g (fun f:FI=>decide (f.number=r.number)) fs):=⟨_,rfl⟩
  rw[←Hk.out] at ah
  by_cases hk:0≤k
  rotate_right
  focus
   have HR:Hid (B1l fs r=0):=by
    show _=_
    unfold B1l
    rw[←Hn.out,←HE.out,if_pos hz,←Hk.out,if_neg hk]
   have dk:decide (0≤k)=false:=decide_eq_false hk
  rotate_right
  focus
   have HR:Hid (B1l fs r=7):=by
    show _=_
    unfold B1l
    rw[←Hn.out,←HE.out,if_pos hz,←Hk.out,if_pos hk]
   have dk:decide (0≤k)=true:=decide_eq_true hk
  all_goals
   clear hz hk
   go_wp2_with fail
   refine ah.mono ?_
   rintro e w4 ⟨rfl,hb4⟩
   go_wp2
   go_ret
   exact⟨by rw[HR.out];rfl,ac.trans (hb4.mono ac.size)⟩
 ·have ez:(E != 0)=true:=by simpa using hz
  have HR:Hid (B1l fs r=E):=by
   show _=_
   unfold B1l
   rw[←Hn.out,←HE.out,if_neg hz]
  clear hz
  go_wp2
  go_ret
  exact⟨by rw[HR.out];rfl,ac⟩
theorem D2b {w:World}{c:Nat}{nm:List UInt8}{af ab:Option Addr}{nf cf nb cb:Nat}{fs:List FI}(hc:w.heap[c]?=some (.cells #[.string (S nm),.slice af nf cf,.slice ab nb cb] 38 (0,0)))(hf:RdL 6 FAt w (.slice af nf cf) fs)(r:RI){ao:Option Addr}{n cap:Nat}(Hn:Hid (n=r.bytes.length))(hn:n≤9223372036854775807) :
  Calls Tryz.prog 59 #[.agg #[.int .i64 r.number,.int .i64 r.how,.int .u64 (r.bits:Int),.slice ao n cap],.pointer (some ⟨c,0,none⟩)] w fun e w'=>e = .returned (.int .i64 (B1l fs r))∧Below w.heap.size w w':=by
 have c0:w.cell? ⟨c,0,none⟩=some (.string (S nm)):=A0a hc 0 _ rfl
 have c1:w.cell? ⟨c,1,none⟩=some (.slice af nf cf):=A0a hc 1 _ rfl
 have c2:w.cell? ⟨c,2,none⟩=some (.slice ab nb cb):=A0a hc 2 _ rfl
 have ac:c<w.heap.size:=(Array.getElem?_eq_some_iff.1 hc).1
 have hb1:Below w.heap.size w (w.alloc (.cells #[.int .i64 r.number,.int .i64 r.how,.int .u64 (r.bits:Int),.slice ao n cap] 106)):=(Below.refl _ _).alloc (Nat.le_refl _) _
 have hu:=C2d (nm:=nm) (ab:=ab) (nb:=nb) (cb:=cb) (hf.below FAt.stays hb1) r (ao:=ao) (cap:=cap) Hn hn
 go_enter Tryz.func59,Tryz.ntmps59
 go_wp2_with fail
 refine hu.mono ?_
 rintro e w1 ⟨rfl,hb2⟩
 go_wp2
 go_ret
 exact⟨rfl,hb1.trans (hb2.mono hb1.size)⟩
theorem D6h {v:Value}{l:List RI}{w:World}{c:Nat}{nm:List UInt8}{af ab:Option Addr}{nf cf nb cb:Nat}{fs:List FI}(h:RdL 4 RAt w v l)(hc:w.heap[c]?=some (.cells #[.string (S nm),.slice af nf cf,.slice ab nb cb] 38 (0,0)))(hf:RdL 6 FAt w (.slice af nf cf) fs) :
  Calls Tryz.prog 58 #[v,.func (.func 59) #[] #[.pointer (some ⟨c,0,none⟩)]] w fun e w'=>e = .returned (.int .i64 (A0x (B1l fs) l))∧Below w.heap.size w w':=by
 obtain⟨ao,n,cap,rfl,Hn,aw⟩:=h.shape
 obtain⟨R,HR⟩:∃ R,Hid (R=A0x (B1l fs) l):=⟨_,rfl⟩
 rw[←HR.out]
 go_enter Tryz.func58,Tryz.ntmps58
 go_wp2_with fail
 go_loopg [10] n (fun m i wr=>∃ k:Nat,k+m=n∧i = .int .i64 k∧Hid (R=A0x (B1l fs) (l.drop k))∧Below w.heap.size w wr)
 case atStart=>exact⟨0,by omega,rfl,HR,Below.refl _ _⟩
 case round=>
  obtain⟨k,hk,rfl,HK,hb⟩:=hrel
  have ak:=(hb.block c (Array.getElem?_eq_some_iff.1 hc).1).trans hc
  by_cases hlt:k<n
  ·obtain⟨a,Ha⟩:∃ a,Hid (l[k]?=some a):=⟨l[k]'(by rw[←Hn.out];exact hlt),List.getElem?_eq_getElem (by rw[←Hn.out];exact hlt)⟩
   obtain⟨b,off,rfl,hat⟩:=(h.below RAt.stays hb).get RAt.plain Ha.out
   obtain⟨vy,s0,s1,s2,s3,aj⟩:=hat.at
   obtain⟨ay,ny,cy,rfl,au,a8⟩:=aj.shape
   have bg:(k:Int)<(n:Int):=by omega
   obtain⟨W1,ah⟩:∃ W1,Hid (W1=wr.alloc (.cells #[.int .i64 a.number,.int .i64 a.how,.int .u64 (a.bits:Int),.slice ay ny cy] 106)):=⟨_,rfl⟩
   have hb1:Below wr.heap.size wr W1:=by rw[ah.out];exact(Below.refl _ _).alloc (Nat.le_refl _) _
   have ac:Below w.heap.size w W1:=hb.trans (hb1.mono hb.size)
   have ag:=D2b ((hb1.block c (Array.getElem?_eq_some_iff.1 ak).1).trans ak) (hf.below FAt.stays ac) a (ao:=ay) (cap:=cy) au a8
   have hst:=A9n (f:=B1l fs) Ha.out
   generalize hF:B1l fs a=F at ag hst
   by_cases hz:F=0
   ·have HX:Hid (R=A0x (B1l fs) (l.drop (k+1))):=by
     show _=_
     rw[HK.out,hst,if_pos hz]
    have ez:(F != 0)=false:=by simp[hz]
    clear hst hF hz hat aj
    go_wp2_with fail
    rw[←ah.out]
    refine ag.mono ?_
    rintro e w1 ⟨rfl,hb2⟩
    go_wp2_with fail
    go_roundg (n-(k+1))
    case measure=>omega
    case rel=>exact⟨k+1,by omega,by go_num,HX,ac.trans (hb2.mono ac.size)⟩
   ·have HX:Hid (R=F):=by
     show _=_
     rw[HK.out,hst,if_neg hz]
    have ez:(F != 0)=true:=by simpa using hz
    clear hst hF hz hat aj
    go_wp2_with fail
    rw[←ah.out]
    refine ag.mono ?_
    rintro e w1 ⟨rfl,hb2⟩
    go_wp2
    go_ret
    exact⟨by rw[HX.out];rfl,ac.trans (hb2.mono ac.size)⟩
  ·have HX:Hid (R=0):=by
    show _=_
    rw[HK.out]
    exact A8a (by rw[←Hn.out];omega)
   go_wp2
   go_ret
   exact⟨by rw[HX.out];rfl,hb⟩
theorem B3u {d:Nat}{wE:World}{c0 ca B aj:Nat}{ag:Array Value}{g gd:Nat}{b e:Nat→Nat}{nm:List UInt8}{af:Option Addr}{nf cf:Nat}{ab:Option Addr}{nb cb:Nat}{fs:List FI}{f:List UInt8→BI d→Int}{Q:BI d→Prop}{w:World}(au:Below wE.heap.size wE w)(e0:wE.heap.size≤c0)(ea:wE.heap.size≤ca)(a8:CkM c0 ca B aj ag g gd b e w)(hB:B≤w.heap.size)(h0:w.heap[c0]?=some (.cells #[.int .i64 0] 3 (0,0)))(ha:w.heap[ca]?=some (.cells #[.slice none 0 0] 30 (0,0)))
  (hf:RdL 6 FAt wE (.slice af nf cf) fs) (hT:Tabs wE) (aw:∀ (args:Array Value) (w:World),(callFunc aj args).run Tryz.prog w = .ok (.enter aj args) w) (ac:∀ x∈fs,∀ v:VI (BI d),(∀ s∈v.subs,Q s)→A1b x v=false→Deeper d aj ag x.type (f x.type) v.subs wE)
  {l:List (VI (BI d))}{vl:Value}(h:RdL 4 (VAt (BAt d)) wE vl l) (hV:∀ v∈l,VOk Q v) (hlen:l.length*80≤reachBytes) :
  Calls Tryz.prog 56 #[.agg #[.string (S nm),.slice af nf cf,.slice ab nb cb],vl,.slice (some ⟨g,0,none⟩) 8 8] w fun r w'=>r = .returned (.int .i64 (A4e fs f l (0,[])))∧Below wE.heap.size wE w':=by
 obtain⟨W2,ah⟩:∃ W2,Hid (W2=(w.alloc (.cells #[.string (S nm),.slice af nf cf,.slice ab nb cb] 38)).alloc (.cells #[.slice (some ⟨g,0,none⟩) 8 8] 115)):=⟨_,rfl⟩
 have hb2:Below w.heap.size w W2:=by rw[ah.out];exact((Below.refl _ _).alloc (Nat.le_refl _) _).alloc (by simp) _
 have hz2:w.heap.size+2≤W2.heap.size:=by rw[ah.out];simp
 have x1:W2.heap[w.heap.size]?=some (.cells #[.string (S nm),.slice af nf cf,.slice ab nb cb] 38 (0,0)):=by rw[ah.out];exact A0l _ _ _
 have x2:W2.heap[w.heap.size+1]?=some (.cells #[.slice (some ⟨g,0,none⟩) 8 8] 115 (0,0)):=by rw[ah.out];exact A0i _ _ _
 have hc0:c0<w.heap.size:=(Array.getElem?_eq_some_iff.1 h0).1
 have bg:ca<w.heap.size:=(Array.getElem?_eq_some_iff.1 ha).1
 have hm:Mm c0 ca W2.heap.size (0,[]) W2:=⟨(hb2.block c0 hc0).trans h0,⟨_,(hb2.block ca bg).trans ha,Row.nil _ _ _⟩,Nat.le_refl _,by omega,by omega⟩
 have hC:Ctx (d:=d) wE c0 ca W2.heap.size aj ag g gd b e w.heap.size (w.heap.size+1) nm af nf cf ab nb cb fs f Q W2:=
  ⟨au.trans (hb2.mono au.size),e0,ea,(a8.below hb2).mono (by omega),⟨x1,by omega,by omega,by omega⟩,⟨x2,by omega,by omega,by omega⟩,hf,hT,aw,ac⟩
 have ak:=D6n hC hm rfl h hV hlen
 have bh:=A4s
 obtain⟨al,nl,cl,rfl,_,_⟩:=h.shape
 clear hC hm ac hV h a8 hf
 go_enter Tryz.func56,Tryz.ntmps56
 go_wp2_with fail
 rw[←ah.out]
 refine ak.mono ?_
 rintro r w3 ⟨rfl,s',hS⟩
 go_wp2
 go_ret
 exact⟨rfl,(au.trans (hb2.mono au.size)).trans (hS.below e0 ea)⟩
def A1l (g:GI)(name:List UInt8):List FI:=match g.msgs.find? (fun m=>decide (m.name=name)) with
 | some m=>m.fields
 | none=>[]
def A2g (g:GI):(d:Nat)→Int→List FI→BI d→Int
 | 0=>fun _ _ b=>nomatch (b:Empty)
 | d+1=>fun k fs b=>if 12<k then 10 else if A4e fs (fun name s=>A2g g d (k+1) (A1l g name) s) (BO.vals b) (0,[])=0 then A0x (B1l fs) (BO.unk b) else A4e fs (fun name s=>A2g g d (k+1) (A1l g name) s) (BO.vals b) (0,[])
theorem A6a (g:GI)(d:Nat)(k:Int)(fs:List FI)(x:BI (d+1)):A2g g (d+1) k fs x=if 12<k then 10 else if A4e fs (fun name s=>A2g g d (k+1) (A1l g name) s) (BO.vals x) (0,[])=0 then A0x (B1l fs) (BO.unk x) else A4e fs (fun name s=>A2g g d (k+1) (A1l g name) s) (BO.vals x) (0,[]):=rfl
def E1n (g:GI):Prop:=∀ m∈g.msgs,∀ x∈m.fields,x.kind=10→∃ m',g.msgs.find? (fun m=>decide (m.name=x.type))=some m'
theorem B3e {β:Type}{x:FI}{v:VI β}(h:A1b x v=false)(hs:v.subs≠[]):x.kind=10:=by
 unfold A1b at h
 by_cases h8:x.kind=8∨x.kind=9
 ·rw[if_pos h8] at h;simp at h;exact absurd h.2 hs
 ·rw[if_neg h8] at h
  by_cases h10:x.kind=10
  ·exact h10
  ·rw[if_neg h10] at h;simp at h;exact absurd h.2 hs
def B5l (g:GI)(d:Nat):Prop:=∀ (w:World) (k:Int) (vm ve:Value) (m:MI) (vf vb v0 v1:Value) (x:BI d),0≤k→k≤100→GRd w vm ve g→m∈g.msgs→RdL 6 FAt w vf m.fields→RdL 1 NAt w vb m.barred→BQ d w v0 v1 x→BOk d x→Tabs w→
 Calls Tryz.prog 25 #[.agg #[vm,ve],.agg #[.string (S m.name),vf,vb],.agg #[v0,v1],.int .i64 k] w fun r w'=>r = .returned (.int .i64 (A2g g d k m.fields x))∧Below w.heap.size w w'
theorem D2a {g:GI}(au:E1n g){d:Nat}(ih:B5l g d):B5l g (d+1):=by
 intro w k vm ve m vf vb v0 v1 x cg cw hg hm hf hb hq cj hT
 obtain⟨am,nm,cm,rfl,_,_⟩:=hg.1.shape
 obtain⟨ae,ne,ce,rfl,_,_⟩:=hg.2.shape
 obtain⟨af,nf,cf,rfl,_,_⟩:=hf.shape
 obtain⟨ab,nb,cb,rfl,_,_⟩:=hb.shape
 have hq:BRd d w v0 v1 x:=hq
 obtain⟨a0,n0,c0,a1,n1,c1,rfl,rfl⟩:=hq.shape
 obtain⟨hV,hlen,_,_⟩:=cj
 obtain⟨N,HN⟩:∃ N,Hid (N=w.heap.size):=⟨_,rfl⟩
 obtain⟨W4,ag⟩:∃ W4,Hid (W4=(((w.alloc (.cells #[.slice am nm cm,.slice ae ne ce] 25)).alloc (.cells #[.string (S m.name),.slice af nf cf,.slice ab nb cb] 38)).alloc (.cells #[.slice a0 n0 c0,.slice a1 n1 c1] 29)).alloc (.cells #[.int .i64 k] 3)):=⟨_,rfl⟩
 have hb4:Below w.heap.size w W4:=by rw[ag.out];exact((((Below.refl _ _).alloc (Nat.le_refl _) _).alloc (by simp) _).alloc (by first|(simp;omega)|simp) _).alloc (by first|(simp;omega)|simp) _
 have z4:w.heap.size+4≤W4.heap.size:=by rw[ag.out];simp
 have x0:W4.heap[w.heap.size]?=some (.cells #[.slice am nm cm,.slice ae ne ce] 25 (0,0)):=by
  rw[ag.out,Below.heap_alloc _ _ _ (by first|(simp;omega)|simp),Below.heap_alloc _ _ _ (by first|(simp;omega)|simp)];exact A0l _ _ _
 have x1:W4.heap[w.heap.size+1]?=some (.cells #[.string (S m.name),.slice af nf cf,.slice ab nb cb] 38 (0,0)):=by
  rw[ag.out,Below.heap_alloc _ _ _ (by first|(simp;omega)|simp),Below.heap_alloc _ _ _ (by first|(simp;omega)|simp)];exact A0i _ _ _
 have x2:W4.heap[w.heap.size+2]?=some (.cells #[.slice a0 n0 c0,.slice a1 n1 c1] 29 (0,0)):=by
  rw[ag.out,Below.heap_alloc _ _ _ (by first|(simp;omega)|simp)]
  have:=heap_alloc_new ((w.alloc (.cells #[.slice am nm cm,.slice ae ne ce] 25)).alloc (.cells #[.string (S m.name),.slice af nf cf,.slice ab nb cb] 38)) (.cells #[.slice a0 n0 c0,.slice a1 n1 c1] 29)
  simpa using this
 have x3:W4.heap[w.heap.size+3]?=some (.cells #[.int .i64 k] 3 (0,0)):=by
  have:=heap_alloc_new (((w.alloc (.cells #[.slice am nm cm,.slice ae ne ce] 25)).alloc (.cells #[.string (S m.name),.slice af nf cf,.slice ab nb cb] 38)).alloc (.cells #[.slice a0 n0 c0,.slice a1 n1 c1] 29)) (.cells #[.int .i64 k] 3)
  rw[ag.out]
  simpa using this
 by_cases hk:12<k
 ·have HR:Hid (A2g g (d+1) k m.fields x=10):=by show _=_;rw[A6a,if_pos hk]
  clear ih hV hq hg hf hb
  go_enter Tryz.func25,Tryz.ntmps25
  go_wp2
  go_ret
  rw[←ag.out]
  exact⟨by rw[HR.out];rfl,hb4⟩
 ·obtain⟨f,Hf⟩:∃ f:List UInt8→BI d→Int,Hid (f=fun name s=>A2g g d (k+1) (A1l g name) s):=⟨_,rfl⟩
  have HE:Hid (A2g g (d+1) k m.fields x=if A4e m.fields f (BO.vals x) (0,[])=0 then A0x (B1l m.fields) (BO.unk x) else A4e m.fields f (BO.vals x) (0,[])):=by
   show _=_
   rw[Hf.out,A6a,if_neg hk]
  have ah:∀ y∈m.fields,∀ v:VI (BI d),(∀ s∈v.subs,BOk d s)→A1b y v=false→Deeper d 55 #[.pointer (some ⟨w.heap.size,0,none⟩),.pointer (some ⟨w.heap.size+3,0,none⟩)] y.type (f y.type) v.subs W4:=by
   intro y hy v hQ ho W hW s hs u0 u1 bv
   have ak:=B3e ho (fun e=>by rw[e] at hs;cases hs)
   obtain⟨m',bu⟩:=au m hm y hy ak
   rcases A2s (fun m:MI=>decide (m.name=y.type)) g.msgs with⟨_,h2⟩|⟨i,m2,h1,h2,h3,_⟩
   ·rw[h2] at bu;cases bu
   ·have bh:Below w.heap.size w W:=BTd hb4 hW
    have bw:A1l g y.type=m2.fields:=by unfold A1l;rw[h3]
    obtain⟨b0,p0,q0,b1,p1,q1,rfl,rfl⟩:=bv.shape
    refine(C8l (R:=f y.type s) ((hW.block _ (by omega)).trans x0) ((hW.block _ (by omega)).trans x3) (hg.below bh) h1 h2 cg (by omega) fun vf vb hf' hb' V ac=>?_)
    rw[Hf.out]
    show Calls _ _ _ _ fun e V'=>e = .returned (.int .i64 (A2g g d (k+1) (A1l g y.type) s))∧Below V.heap.size V V'
    rw[bw]
    exact ih V (k+1) _ _ m2 vf vb _ _ s (by omega) (by omega) (hg.below (BTd bh ac)) (List.mem_of_getElem? h2) (hf'.below FAt.stays ac) (hb'.below NAt.stays ac) (bv.below ac) (hQ s hs) (hT.below (BTd bh ac))
  have hD:Below W4.heap.size W4 W4.drew:=(Below.refl _ _).drew
  have br:=C4y 55 #[.pointer (some ⟨w.heap.size,0,none⟩),.pointer (some ⟨w.heap.size+3,0,none⟩)] W4.drew
  have bq:∀ V,Below W4.heap.size W4 V→V.cell? ⟨w.heap.size+1,0,none⟩=some (.string (S m.name))∧V.cell? ⟨w.heap.size+1,1,none⟩=some (.slice af nf cf)∧V.cell? ⟨w.heap.size+1,2,none⟩=some (.slice ab nb cb)∧V.cell? ⟨w.heap.size+2,0,none⟩=some (.slice a0 n0 c0)∧V.cell? ⟨w.heap.size+2,1,none⟩=some (.slice a1 n1 c1):=fun V ac=>⟨A0c ac (A0a x1 0 _ rfl),A0c ac (A0a x1 1 _ rfl),A0c ac (A0a x1 2 _ rfl),A0c ac (A0a x2 0 _ rfl),A0c ac (A0a x2 1 _ rfl)⟩
  obtain⟨t0,t1,t2,t3,t4⟩:=bq W4.drew hD
  obtain⟨E,bg⟩:∃ E,Hid (E=A4e m.fields f (BO.vals x) (0,[])):=⟨_,rfl⟩
  have a8:∀ w1,Below W4.drew.heap.size W4.drew w1→Hid (w1.heap.size=W4.drew.heap.size+14)→CkM (W4.drew.heap.size+1) (W4.drew.heap.size+10) (W4.drew.heap.size+14) 55 #[.pointer (some ⟨w.heap.size,0,none⟩),.pointer (some ⟨w.heap.size+3,0,none⟩)] (W4.drew.heap.size+13) W4.drew.heap.size (bF W4.drew.heap.size) (eF W4.drew.heap.size) w1→w1.heap[W4.drew.heap.size+1]?=some (.cells #[.int .i64 0] 3 (0,0))→w1.heap[W4.drew.heap.size+10]?=some (.cells #[.slice none 0 0] 30 (0,0))→
    Calls Tryz.prog 56 #[.agg #[.string (S m.name),.slice af nf cf,.slice ab nb cb],.slice a0 n0 c0,.slice (some ⟨W4.drew.heap.size+13,0,none⟩) 8 8] w1 fun r w'=>r = .returned (.int .i64 E)∧Below W4.heap.size W4 w':=by
   intro w1 hb1 hz1 bp h0 ha
   rw[bg.out]
   have hE:W4.heap.size≤W4.drew.heap.size:=hD.size
   have bk:Below W4.heap.size W4 w1:=BTd hD hb1
   exact B3u (Q:=BOk d) bk (by omega) (by omega) bp (by rw[hz1.out];exact Nat.le_refl _) h0 ha (hf.below FAt.stays hb4) (hT.below hb4) (enters_of Tryz.func55 (by kernel_rfl) rfl) ah (hq.below hb4).1 hV hlen
  have hkb:decide ((12:Int)<k)=false:=decide_eq_false hk
  have df:=A4s
  have aw:∀ w2,Below W4.heap.size W4 w2→Calls Tryz.prog 58 #[.slice a1 n1 c1,.func (.func 59) #[] #[.pointer (some ⟨w.heap.size+1,0,none⟩)]] w2 fun e w'=>e = .returned (.int .i64 (A0x (B1l m.fields) (BO.unk x)))∧Below w2.heap.size w2 w':=fun w2 hb2=>D6h (hq.below (BTd hb4 hb2)).2 ((hb2.block _ (by omega)).trans x1) (hf.below FAt.stays (BTd hb4 hb2))
  rw[HE.out,←bg.out]
  obtain⟨U,HU⟩:∃ U,Hid (U=A0x (B1l m.fields) (BO.unk x)):=⟨_,rfl⟩
  rw[←HU.out] at aw ⊢
  obtain⟨bt,aj⟩:∃ bt,Hid (bt=if E=0 then U else E):=⟨_,rfl⟩
  rw[←aj.out]
  clear ih ah hV hk hg hf hb hq hT au HE bg
  go_enter Tryz.func25,Tryz.ntmps25
  go_wp2_with fail
  rw[←ag.out]
  go_region_with (first
   | (go_at_call 57;refine br.mono ?_;rintro r w1 ⟨rfl,hb1,hz1,bp,h0,ha⟩;obtain⟨u0,u1,u2,u3,u4⟩:=bq w1 (BTd hD hb1))
   | (go_at_call 56;refine(a8 w1 hb1 hz1 bp h0 ha).mono ?_;rintro r w2 ⟨rfl,hb2⟩))
  all_goals
   obtain⟨s0,s1,s2,s3,s4⟩:=bq w2 hb2
   have cu:=aw w2 hb2
   by_cases hE0:E=0
   ·have ez:(E != 0)=false:=by simp[hE0]
    have HZ:Hid (E=0):=hE0
    clear hE0
    go_wp2_with fail
    refine cu.mono ?_
    rintro r w3 ⟨rfl,hb3⟩
    go_wp2
    go_ret
    exact⟨by rw[aj.out,if_pos HZ.out];rfl,BTd hb4 (BTd hb2 hb3)⟩
   ·have ez:(E != 0)=true:=by simpa using hE0
    have HZ:Hid (E≠0):=hE0
    clear hE0
    go_wp2
    go_ret
    exact⟨by rw[aj.out,if_neg HZ.out];rfl,BTd hb4 hb2⟩
theorem C2n {g:GI}(ac:E1n g):∀ d,B5l g d
 | 0=>fun _ _ _ _ _ _ _ _ _ x=>nomatch (x:Empty)
 | d+1=>D2a ac (C2n ac d)
def D8x (x:FI)(s:Mem):Mem:=⟨A8k x.name s.names,A8k x.number s.nums,x.choice,max s.begun x.choice⟩
def A7m (g:GI)(bar:List Int)(x:FI)(s:Mem):Bool:=!(!A7k x.name||decide (x.name∈s.names))&&(C2p x.number&&(!(decide (x.number∈bar)||decide (x.number∈s.nums))&&(!(decide (x.kind<1)||decide (10<x.kind))&&(C0g g x&&(!(B8z x||(decide (0<x.choice)&&x.many))&&!C3d s.last s.begun x.choice)))))
theorem C6w {g:GI}{ac:List Int}{x:FI}{s:Mem}(h:A7m g ac x s=true):A0w (A1g g ac) 0 A5p x s=(none,D8x x s):=by
 simp only[A7m,Bool.and_eq_true,Bool.not_eq_true'] at h
 obtain⟨h0,h1,h2,h3,h4,h5,h6⟩:=h
 simp[A5p,A0w,A1g,h0,h1,h2,h3,h4,h5,h6,D8x]
theorem C6v {g:GI}{ac:List Int}{x:FI}{s:Mem}(h:A7m g ac x s=false):∃ e s',A0w (A1g g ac) 0 A5p x s=(some e,s')∧e≠0:=by
 unfold A7m at h
 cases h0:(!A7k x.name||decide (x.name∈s.names)) with
 | true=>exact⟨7,_,by simp only[A5p,A0w,A1g];rw[h0];rfl,by decide⟩
 | false=>
  cases h1:C2p x.number with
  | false=>exact⟨3,_,by simp only[A5p,A0w,A1g];rw[h0,h1];rfl,by decide⟩
  | true=>
   cases h2:(decide (x.number∈ac)||decide (x.number∈s.nums)) with
   | true=>exact⟨8,_,by simp only[A5p,A0w,A1g];rw[h0,h1,h2];rfl,by decide⟩
   | false=>
    cases h3:(decide (x.kind<1)||decide (10<x.kind)) with
    | true=>exact⟨1,_,by simp only[A5p,A0w,A1g];rw[h0,h1,h2,h3];rfl,by decide⟩
    | false=>
     cases h4:C0g g x with
     | false=>exact⟨6,_,by simp only[A5p,A0w,A1g];rw[h0,h1,h2,h3,h4];rfl,by decide⟩
     | true=>
      cases h5:(B8z x||(decide (0<x.choice)&&x.many)) with
      | true=>exact⟨8,_,by simp only[A5p,A0w,A1g];rw[h0,h1,h2,h3,h4,h5];rfl,by decide⟩
      | false=>
       cases h6:C3d s.last s.begun x.choice with
       | true=>exact⟨2,_,by simp only[A5p,A0w,A1g];rw[h0,h1,h2,h3,h4,h5,h6];rfl,by decide⟩
       | false=>rw[h0,h1,h2,h3,h4,h5,h6] at h;cases h
theorem A8c {g:GI}{ac:List Int}{i:Nat}{x:FI}{l:List FI}{s:Mem}(h:(A0j (A1g g ac) A5p i (x::l) s).1=0):A7m g ac x s=true∧(A0j (A1g g ac) A5p (i+1) l (D8x x s)).1=0:=by
 cases hp:A7m g ac x s with
 | true=>
  rw[A0j,C6w hp] at h
  exact⟨rfl,h⟩
 | false=>
  obtain⟨e,s',h1,h2⟩:=C6v hp
  rw[A0j,h1] at h
  exact absurd h h2
theorem C2i {α:Type}[DecidableEq α](x : α)(l:List α):x∈A8k x l∧∀ y∈l,y∈A8k x l:=by
 unfold A8k
 split
 ·rename_i h;exact⟨h,fun y hy=>hy⟩
 ·exact⟨by simp,fun y hy=>by simp[hy]⟩
theorem D5h {g:GI}{ac:List Int}{x:FI}{s:Mem}(h:A7m g ac x s=true):C2p x.number=true∧x.number∉ac∧x.number∉s.nums:=by
 simp only[A7m,Bool.and_eq_true,Bool.not_eq_true',Bool.or_eq_false_iff,decide_eq_false_iff_not] at h
 exact⟨h.2.1,h.2.2.1.1,h.2.2.1.2⟩
theorem B2o {g:GI}{ac:List Int}:∀ (l:List FI) (i:Nat) (s:Mem),(A0j (A1g g ac) A5p i l s).1=0→∀ y∈l,C2p y.number=true∧y.number∉ac∧y.number∉s.nums
 | [],_,_,_,_,hy=>by simp at hy
 | x::l,i,s,h,y,hy=>by
  obtain⟨h1,h2⟩:=A8c h
  rcases List.mem_cons.1 hy with rfl|hy
  ·exact D5h h1
  ·obtain⟨a,b,c⟩:=B2o l _ _ h2 y hy
   exact⟨a,b,fun e=>c ((C2i x.number s.nums).2 _ e)⟩
theorem B8x {g:GI}:∀ (l:List MI) (i:Nat) (q:Int×Nat),A6h g i l=some q→q.1≠0
 | [],_,_,h=>by cases h
 | m::l,i,q,h=>by
  rw[A6h] at h
  split at h
  ·rename_i h0;cases h;exact h0
  ·exact B8x l _ q h
theorem B8w {g:GI}:∀ (l:List MI) (i:Nat),A6h g i l=none→∀ m∈l,A3j g m=0
 | [],_,_,_,hm=>by simp at hm
 | x::l,i,h,m,hm=>by
  rw[A6h] at h
  split at h
  ·cases h
  ·rename_i h0
   rcases List.mem_cons.1 hm with rfl|hm
   ·simpa using h0
   ·exact B8w l _ h m hm
theorem A7s {g:GI}(h:(wrongL g).1=0):¬ 10<g.msgs.length+g.enums.length∧(A0j B7d [7] 0 (A8o g) []).1=0∧∀ m∈g.msgs,A3j g m=0:=by
 unfold wrongL at h
 split at h
 ·cases h
 ·rename_i h1
  split at h
  ·rename_i h2;exact absurd h h2
  ·rename_i h2
   refine⟨h1,by simpa using h2,?_⟩
   cases hm:A6h g 0 g.msgs with
   | some q=>rw[hm] at h;exact absurd h (B8x _ _ q hm)
   | none=>exact B8w _ _ hm
theorem D7p {g:GI}{m:MI}(h:A3j g m=0):m.fields.length≤16∧m.barred.length≤16∧m.barred.any B5r=false∧(A0j (A1g g m.barred) A5p 0 m.fields C7l).1=0:=by
 unfold A3j at h
 split at h
 ·cases h
 ·rename_i h1
  split at h
  ·cases h
  ·rename_i h2
   exact⟨by omega,by omega,by simpa using h2,h⟩
end L
end Go.Proofs.YtgaoojpakjjdnaaGreatDoor
