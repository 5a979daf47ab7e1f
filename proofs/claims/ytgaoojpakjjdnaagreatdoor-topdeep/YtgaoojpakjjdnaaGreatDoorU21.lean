import Derived.Test.YtgaoojpakjjdnaaGreatDoorU20
import Derived.Deep.RegionHeld3
import Derived.Test.YtgaoojpakjjdnaaGreatDoorU02
import Derived.Test.YtgaoojpakjjdnaaGreatDoorU13
set_option maxHeartbeats 32000000
set_option maxRecDepth 100000
namespace Go.Proofs.YtgaoojpakjjdnaaGreatDoor
namespace L
open Go.RowKit
theorem BTd {A V V':World}(h:Below A.heap.size A V) (k:Below V.heap.size V V'):Below A.heap.size A V':=h.trans (k.mono h.size)
theorem C0q {W:World}{cf cd:Nat}{am ae:Option Addr}{ac ag ne ce:Nat}{g:GI}{k R:Int}{name:List UInt8}{i:Nat}{m:MI}{a0 a1:Option Addr}{n0 c0 n1 c1:Nat}(bc:W.heap[cf]?=some (.cells #[.slice am ac ag,.slice ae ne ce] 25 (0,0))) (bg:W.heap[cd]?=some (.cells #[.int .i64 k] 3 (0,0))) (hg:GRd W (.slice am ac ag) (.slice ae ne ce) g) (bh:A0m (fun m=>decide (m.name=name)) g.msgs=(i:Int)) (hi:g.msgs[i]?=some m) (hk:0≤k) (hk2:k≤1000)
  (aj:∀ vf vb,RdL 6 FAt W vf m.fields→RdL 1 NAt W vb m.barred→∀ V,Below W.heap.size W V→Calls Tryz.prog 25 #[.agg #[.slice am ac ag,.slice ae ne ce],.agg #[.string (S m.name),vf,vb],.agg #[.slice a0 n0 c0,.slice a1 n1 c1],.int .i64 (k+1)] V fun e V'=>e = .returned (.int .i64 R)∧Below V.heap.size V V') :
  Calls Tryz.prog 55 #[.string (S name),.agg #[.slice a0 n0 c0,.slice a1 n1 c1],.pointer (some ⟨cf,0,none⟩),.pointer (some ⟨cd,0,none⟩)] W fun e W'=>e = .returned (.int .i64 R)∧Below W.heap.size W W':=by
 obtain⟨W1,ak⟩:∃ W1,Hid (W1=W.alloc (.cells #[.slice a0 n0 c0,.slice a1 n1 c1] 29)):=⟨_,rfl⟩
 have hb1:Below W.heap.size W W1:=by rw[ak.out];exact(Below.refl _ _).alloc (Nat.le_refl _) _
 have x1:W1.heap[W.heap.size]?=some (.cells #[.slice a0 n0 c0,.slice a1 n1 c1] 29 (0,0)):=by rw[ak.out];exact heap_alloc_new _ _
 obtain⟨b,off,rfl,hat⟩:=hg.1.get MAt.plain hi
 obtain⟨vf,vb,t0,t1,t2,hf,hbr⟩:=hat.at
 obtain⟨af,nf,au,rfl,_,_⟩:=hf.shape
 obtain⟨ab,nb,cb,rfl,_,_⟩:=hbr.shape
 have hlen:=hg.1.len.1
 have bp:i < ac:=by rw[hlen];exact(List.getElem?_eq_some_iff.1 hi).1
 have bq:(i:Int) < (ac:Int):=by omega
 have bk:∀ V,Below W1.heap.size W1 V→Below W1.heap.size W1 V∧V.cell? ⟨cf,0,none⟩=some (.slice (some ⟨b,off,none⟩) ac ag)∧V.cell? ⟨cf,1,none⟩=some (.slice ae ne ce)∧V.cell? ⟨cd,0,none⟩=some (.int .i64 k)∧V.cell? ⟨W.heap.size,0,none⟩=some (.slice a0 n0 c0)∧V.cell? ⟨W.heap.size,1,none⟩=some (.slice a1 n1 c1)∧V.cell? ⟨b,off+i*3,none⟩=some (.string (S m.name))∧V.cell? ⟨b,off+i*3+1,none⟩=some (.slice af nf au)∧V.cell? ⟨b,off+i*3+2,none⟩=some (.slice ab nb cb):=fun V hV=>
  have ah:Below W.heap.size W V:=BTd hb1 hV
  ⟨hV,A0c ah (A0a bc 0 _ rfl),A0c ah (A0a bc 1 _ rfl),A0c ah (A0a bg 0 _ rfl),A0c hV (A0a x1 0 _ rfl),A0c hV (A0a x1 1 _ rfl),A0c ah t0,A0c ah t1,A0c ah t2⟩
 have bl:∀ V,Below W1.heap.size W1 V→Calls Tryz.prog 35 #[.agg #[.slice (some ⟨b,off,none⟩) ac ag,.slice ae ne ce],.string (S name)] V fun e V'=>e = .returned (.int .i64 (i:Int))∧Below V.heap.size V V':=by
  intro V hV
  rw[←bh]
  exact A2c (hg.below (BTd hb1 hV)).1 ⟨ae,ne,ce,rfl⟩ name
 have bn:∀ V,Below W1.heap.size W1 V→Calls Tryz.prog 25 #[.agg #[.slice (some ⟨b,off,none⟩) ac ag,.slice ae ne ce],.agg #[.string (S m.name),.slice af nf au,.slice ab nb cb],.agg #[.slice a0 n0 c0,.slice a1 n1 c1],.int .i64 (k+1)] V fun e V'=>e = .returned (.int .i64 R)∧Below V.heap.size V V':=fun V hV=>aj _ _ hf hbr V (BTd hb1 hV)
 have hwr:IntKind.i64.wrap (k+1)=k+1:=by rw[IntKind.wrap_i64];omega
 clear aj hg bh hat t0 t1 t2 hf hbr bc bg x1 hlen hi
 go_enter Tryz.func55,Tryz.ntmps55
 go_wp2_with fail
 rw[←ak.out]
 go_region_held3 (fun V=>Below W1.heap.size W1 V∧V.cell? ⟨cf,0,none⟩=some (.slice (some ⟨b,off,none⟩) ac ag)∧V.cell? ⟨cf,1,none⟩=some (.slice ae ne ce)∧V.cell? ⟨cd,0,none⟩=some (.int .i64 k)∧V.cell? ⟨W.heap.size,0,none⟩=some (.slice a0 n0 c0)∧V.cell? ⟨W.heap.size,1,none⟩=some (.slice a1 n1 c1)∧V.cell? ⟨b,off+i*3,none⟩=some (.string (S m.name))∧V.cell? ⟨b,off+i*3+1,none⟩=some (.slice af nf au)∧V.cell? ⟨b,off+i*3+2,none⟩=some (.slice ab nb cb)) ((refine bk _ ?_;first|exact(Below.refl _ _).drew|exact aw)) ((first|(go_at_call 35;go_split_ands;refine(bl _ (by assumption)).mono ?_;rintro e wn ⟨rfl,ba⟩;have aw:=BTd (by assumption) ba)|(go_at_call 25;go_split_ands;refine(bn _ (by assumption)).mono ?_;rintro e wn ⟨rfl,ba⟩;have aw:=BTd (by assumption) ba)))
 all_goals go_wp2
 all_goals go_ret
 all_goals exact⟨rfl,BTd hb1 aw⟩
open Go.RowKit
def A1q (h:Int):Bool:=decide (h=0∨h=1∨h=2∨h=5)
theorem A0e {h:Int}(k:h=0∨h=1∨h=2∨h=5):true=A1q h:=by unfold A1q;simp[k]
theorem A4k {h:Int}(k:¬ (h=0∨h=1∨h=2∨h=5)):false=A1q h:=by unfold A1q;simp only[k,decide_false]
theorem A0h (h:Int) (w:World) :
  Calls Tryz.prog 152 #[.int .i64 h] w fun e w'=>e = .returned (.bool (A1q h))∧w=w':=by
 by_cases k:h=0∨h=1∨h=2∨h=5
 ·rw[←A0e k]
  rcases k with rfl|rfl|rfl|rfl
  all_goals
   go_enter Tryz.func152,Tryz.ntmps152
   go_wp2
   go_ret
   exact⟨rfl,rfl⟩
 ·rw[←A4k k]
  have b0:(h == 0)=false:=beq_eq_false_iff_ne.2 (by omega)
  have b1:(h == 1)=false:=beq_eq_false_iff_ne.2 (by omega)
  have b2:(h == 2)=false:=beq_eq_false_iff_ne.2 (by omega)
  have b5:(h == 5)=false:=beq_eq_false_iff_ne.2 (by omega)
  go_enter Tryz.func152,Tryz.ntmps152
  go_wp2
  go_ret
  exact⟨rfl,rfl⟩
def A1i (num how:Int) (bits len:Nat):Int:=
 if A1q how=false then 1
 else if how=2∧4000 < len then 4
 else if num < 1∨536870912≤num then 3
 else if how=5∧bits / 4294967296≠0 then 3
 else if how=2∧bits≠0 then 8
 else if how≠2∧0 < len then 8
 else 0
theorem A8f {num how:Int}{bits len:Nat}(h:A1q how=false):A1i num how bits len=1:=by
 unfold A1i;rw[if_pos h]
theorem A7q (num how:Int) (bits:Nat) (ao:Option Addr) (len cap:Nat) (w:World) (ag:len≤9223372036854775807) :
  Calls Tryz.prog 90 #[.agg #[.int .i64 num,.int .i64 how,.int .u64 (bits:Int),.slice ao len cap]] w fun e w'=>e = .returned (.int .i64 (A1i num how bits len))∧Below w.heap.size w w':=by
 have fin:∀ (o:Obj),Below w.heap.size w (w.alloc o):=fun o=>(Below.refl _ _).alloc (Nat.le_refl _) o
 by_cases hk:A1q how=false
 ·rw[A8f hk]
  go_enter Tryz.func90,Tryz.ntmps90
  go_wp2_with (go_at_call 152;refine(A0h how _).mono ?_;rintro e w1 ⟨rfl,rfl⟩)
  go_ret
  exact⟨rfl,fin _⟩
 ·obtain⟨E,HE⟩:∃ E,Hid (E=A1i num how bits len):=⟨_,rfl⟩
  rw[←HE.out]
  have hh:how=0∨how=1∨how=2∨how=5:=by
   rcases Decidable.em (how=0∨how=1∨how=2∨how=5) with h|h
   ·exact h
   ·exact absurd (A4k h).symm hk
  have ac:Hid (E=(if how=2∧4000 < len then 4
   else if num < 1∨536870912≤num then 3
   else if how=5∧bits / 4294967296≠0 then 3
   else if how=2∧bits≠0 then 8
   else if how≠2∧0 < len then 8
   else 0)):=by
   show _=_
   rw[HE.out,A1i,if_neg hk]
  clear HE hk
  rcases hh with rfl|rfl|rfl|rfl
  ·by_cases h3:num < 1
   ·have HF:Hid (E=3):=by show _=_;rw[ac.out,if_neg (by omega),if_pos (by omega)]
    clear ac
    go_enter Tryz.func90,Tryz.ntmps90
    go_wp2_with (go_at_call 152;refine(A0h _ _).mono ?_;rintro e w1 ⟨rfl,rfl⟩;rw[←A0e (by omega)])
    go_ret
    exact⟨A1d HF.out.symm,fin _⟩
   ·by_cases h2:536870912≤num
    ·have HF:Hid (E=3):=by show _=_;rw[ac.out,if_neg (by omega),if_pos (by omega)]
     clear ac
     go_enter Tryz.func90,Tryz.ntmps90
     go_wp2_with (go_at_call 152;refine(A0h _ _).mono ?_;rintro e w1 ⟨rfl,rfl⟩;rw[←A0e (by omega)])
     go_ret
     exact⟨A1d HF.out.symm,fin _⟩
    ·by_cases h1:0 < len
     rotate_right
     focus
      have HF:Hid (E=0):=by show _=_;rw[ac.out,if_neg (by omega),if_neg (by omega),if_neg (by omega),if_neg (by omega),if_neg (by omega)]
     rotate_right
     focus
      have HF:Hid (E=8):=by show _=_;rw[ac.out,if_neg (by omega),if_neg (by omega),if_neg (by omega),if_neg (by omega),if_pos (by omega)]
     all_goals
      clear ac
      go_enter Tryz.func90,Tryz.ntmps90
      go_wp2_with (go_at_call 152;refine(A0h _ _).mono ?_;rintro e w1 ⟨rfl,rfl⟩;rw[←A0e (by omega)])
      go_ret
      exact⟨A1d HF.out.symm,fin _⟩
  ·by_cases h3:num < 1
   ·have HF:Hid (E=3):=by show _=_;rw[ac.out,if_neg (by omega),if_pos (by omega)]
    clear ac
    go_enter Tryz.func90,Tryz.ntmps90
    go_wp2_with (go_at_call 152;refine(A0h _ _).mono ?_;rintro e w1 ⟨rfl,rfl⟩;rw[←A0e (by omega)])
    go_ret
    exact⟨A1d HF.out.symm,fin _⟩
   ·by_cases h2:536870912≤num
    ·have HF:Hid (E=3):=by show _=_;rw[ac.out,if_neg (by omega),if_pos (by omega)]
     clear ac
     go_enter Tryz.func90,Tryz.ntmps90
     go_wp2_with (go_at_call 152;refine(A0h _ _).mono ?_;rintro e w1 ⟨rfl,rfl⟩;rw[←A0e (by omega)])
     go_ret
     exact⟨A1d HF.out.symm,fin _⟩
    ·by_cases h1:0 < len
     rotate_right
     focus
      have HF:Hid (E=0):=by show _=_;rw[ac.out,if_neg (by omega),if_neg (by omega),if_neg (by omega),if_neg (by omega),if_neg (by omega)]
     rotate_right
     focus
      have HF:Hid (E=8):=by show _=_;rw[ac.out,if_neg (by omega),if_neg (by omega),if_neg (by omega),if_neg (by omega),if_pos (by omega)]
     all_goals
      clear ac
      go_enter Tryz.func90,Tryz.ntmps90
      go_wp2_with (go_at_call 152;refine(A0h _ _).mono ?_;rintro e w1 ⟨rfl,rfl⟩;rw[←A0e (by omega)])
      go_ret
      exact⟨A1d HF.out.symm,fin _⟩
  ·by_cases h4:4000 < len
   ·have HF:Hid (E=4):=by show _=_;rw[ac.out,if_pos (by omega)]
    clear ac
    go_enter Tryz.func90,Tryz.ntmps90
    go_wp2_with (go_at_call 152;refine(A0h _ _).mono ?_;rintro e w1 ⟨rfl,rfl⟩;rw[←A0e (by omega)])
    go_ret
    exact⟨A1d HF.out.symm,fin _⟩
   ·by_cases h3:num < 1
    ·have HF:Hid (E=3):=by show _=_;rw[ac.out,if_neg (by omega),if_pos (by omega)]
     clear ac
     go_enter Tryz.func90,Tryz.ntmps90
     go_wp2_with (go_at_call 152;refine(A0h _ _).mono ?_;rintro e w1 ⟨rfl,rfl⟩;rw[←A0e (by omega)])
     go_ret
     exact⟨A1d HF.out.symm,fin _⟩
    ·by_cases h2:536870912≤num
     ·have HF:Hid (E=3):=by show _=_;rw[ac.out,if_neg (by omega),if_pos (by omega)]
      clear ac
      go_enter Tryz.func90,Tryz.ntmps90
      go_wp2_with (go_at_call 152;refine(A0h _ _).mono ?_;rintro e w1 ⟨rfl,rfl⟩;rw[←A0e (by omega)])
      go_ret
      exact⟨A1d HF.out.symm,fin _⟩
     ·by_cases h1:bits≠0
      rotate_right
      focus
       have hx:((bits:Int) != 0)=false:=by simp;omega
       have HF:Hid (E=0):=by show _=_;rw[ac.out,if_neg (by omega),if_neg (by omega),if_neg (by omega),if_neg (by omega),if_neg (by omega)]
       clear ac
      rotate_right
      focus
       have HF:Hid (E=8):=by show _=_;rw[ac.out,if_neg (by omega),if_neg (by omega),if_neg (by omega),if_pos (by omega)]
       clear ac
       have hx:((bits:Int) != 0)=true:=by rw[bne_iff_ne];omega
      all_goals
       go_enter Tryz.func90,Tryz.ntmps90
       go_wp2_with (go_at_call 152;refine(A0h _ _).mono ?_;rintro e w1 ⟨rfl,rfl⟩;rw[←A0e (by omega)])
       go_ret
       exact⟨A1d HF.out.symm,fin _⟩
  ·by_cases h4:num < 1
   ·have HF:Hid (E=3):=by show _=_;rw[ac.out,if_neg (by omega),if_pos (by omega)]
    clear ac
    go_enter Tryz.func90,Tryz.ntmps90
    go_wp2_with (go_at_call 152;refine(A0h _ _).mono ?_;rintro e w1 ⟨rfl,rfl⟩;rw[←A0e (by omega)])
    go_ret
    exact⟨A1d HF.out.symm,fin _⟩
   ·by_cases h3:536870912≤num
    ·have HF:Hid (E=3):=by show _=_;rw[ac.out,if_neg (by omega),if_pos (by omega)]
     clear ac
     go_enter Tryz.func90,Tryz.ntmps90
     go_wp2_with (go_at_call 152;refine(A0h _ _).mono ?_;rintro e w1 ⟨rfl,rfl⟩;rw[←A0e (by omega)])
     go_ret
     exact⟨A1d HF.out.symm,fin _⟩
    ·by_cases h2:bits / 4294967296≠0
     ·have HF:Hid (E=3):=by show _=_;rw[ac.out,if_neg (by omega),if_neg (by omega),if_pos (by omega)]
      clear ac
      have hx:((bits:Int) / 4294967296 != 0)=true:=by rw[bne_iff_ne];omega
      go_enter Tryz.func90,Tryz.ntmps90
      go_wp2_with (go_at_call 152;refine(A0h _ _).mono ?_;rintro e w1 ⟨rfl,rfl⟩;rw[←A0e (by omega)])
      go_ret
      exact⟨A1d HF.out.symm,fin _⟩
     ·have hx:((bits:Int) / 4294967296 != 0)=false:=by simp;omega
      by_cases h1:0 < len
      rotate_right
      focus
       have HF:Hid (E=0):=by show _=_;rw[ac.out,if_neg (by omega),if_neg (by omega),if_neg (by omega),if_neg (by omega),if_neg (by omega)]
      rotate_right
      focus
       have HF:Hid (E=8):=by show _=_;rw[ac.out,if_neg (by omega),if_neg (by omega),if_neg (by omega),if_neg (by omega),if_pos (by omega)]
      all_goals
       clear ac
       go_enter Tryz.func90,Tryz.ntmps90
       go_wp2_with (go_at_call 152;refine(A0h _ _).mono ?_;rintro e w1 ⟨rfl,rfl⟩;rw[←A0e (by omega)])
       go_ret
       exact⟨A1d HF.out.symm,fin _⟩
open Go.RowKit
def B0u (fs:List FI) (r:RI):Int:=
 if A1i r.number r.how r.bits r.bytes.length=0 then(if 0≤A0m (fun f:FI=>decide (f.number=r.number)) fs then 7 else 0) else A1i r.number r.how r.bits r.bytes.length
theorem B5x {w:World}{nm:List UInt8}{af ab:Option Addr}{nf cf nb cb:Nat}{fs:List FI}(hf:RdL 6 FAt w (.slice af nf cf) fs) (r:RI){ao:Option Addr}{n cap:Nat}(Hn:Hid (n=r.bytes.length)) (hn:n≤9223372036854775807) :
  Calls Tryz.prog 60 #[.agg #[.string (S nm),.slice af nf cf,.slice ab nb cb],.agg #[.int .i64 r.number,.int .i64 r.how,.int .u64 (r.bits:Int),.slice ao n cap]] w fun e w'=>e = .returned (.int .i64 (B0u fs r))∧Below w.heap.size w w':=by
 obtain⟨W2,ag⟩:∃ W2,Hid (W2=(w.alloc (.cells #[.string (S nm),.slice af nf cf,.slice ab nb cb] 38)).alloc (.cells #[.int .i64 r.number,.int .i64 r.how,.int .u64 (r.bits:Int),.slice ao n cap] 106)):=⟨_,rfl⟩
 have hb2:Below w.heap.size w W2:=by rw[ag.out];exact((Below.refl _ _).alloc (Nat.le_refl _) _).alloc (by simp) _
 have x1:W2.heap[w.heap.size]?=some (.cells #[.string (S nm),.slice af nf cf,.slice ab nb cb] 38 (0,0)):=by rw[ag.out];exact A0l _ _ _
 have x2:W2.heap[w.heap.size+1]?=some (.cells #[.int .i64 r.number,.int .i64 r.how,.int .u64 (r.bits:Int),.slice ao n cap] 106 (0,0)):=by rw[ag.out];exact A0i _ _ _
 have hz2:w.heap.size+2≤W2.heap.size:=by rw[ag.out];simp
 have hw:=A7q r.number r.how r.bits ao n cap W2 hn
 obtain⟨E,HE⟩:∃ E,Hid (E=A1i r.number r.how r.bits n):=⟨_,rfl⟩
 rw[←HE.out] at hw
 go_enter Tryz.func60,Tryz.ntmps60
 go_wp2_with fail
 rw[←ag.out]
 refine hw.mono ?_
 rintro e w3 ⟨rfl,hb3⟩
 have ac:Below w.heap.size w w3:=hb2.trans (hb3.mono hb2.size)
 clear hw
 by_cases hz:E=0
 ·have ez:(E != 0)=false:=by simp[hz]
  have y1:=(hb3.block w.heap.size (by omega)).trans x1
  have y2:=(hb3.block (w.heap.size+1) (by omega)).trans x2
  have m0:w3.cell? ⟨w.heap.size,0,none⟩=some (.string (S nm)):=A0a y1 0 _ rfl
  have m1:w3.cell? ⟨w.heap.size,1,none⟩=some (.slice af nf cf):=A0a y1 1 _ rfl
  have m2:w3.cell? ⟨w.heap.size,2,none⟩=some (.slice ab nb cb):=A0a y1 2 _ rfl
  have m3:w3.cell? ⟨w.heap.size+1,0,none⟩=some (.int .i64 r.number):=A0a y2 0 _ rfl
  have ah:=A2h (hf.below FAt.stays ac) ⟨ab,nb,cb,rfl⟩ ⟨nm,rfl⟩ r.number
  obtain⟨k,Hk⟩:∃ k,Hid (k=A0m (fun f:FI=>decide (f.number=r.number)) fs):=⟨_,rfl⟩
  rw[←Hk.out] at ah
  by_cases hk:0≤k
  rotate_right
  focus
   have HR:Hid (B0u fs r=0):=by
    show _=_
    unfold B0u
    rw[←Hn.out,←HE.out,if_pos hz,←Hk.out,if_neg hk]
   have dk:decide (0≤k)=false:=decide_eq_false hk
  rotate_right
  focus
   have HR:Hid (B0u fs r=7):=by
    show _=_
    unfold B0u
    rw[←Hn.out,←HE.out,if_pos hz,←Hk.out,if_pos hk]
   have dk:decide (0≤k)=true:=decide_eq_true hk
  all_goals
   clear hz hk
   go_wp2_with fail
   refine ah.mono ?_
   rintro e w4 ⟨rfl,hb4⟩
   go_wp2
   go_ret
   exact⟨by rw[HR.out];rfl,ac.trans (hb4.mono ac.size)⟩
 ·have ez:(E != 0)=true:=by simpa using hz
  have HR:Hid (B0u fs r=E):=by
   show _=_
   unfold B0u
   rw[←Hn.out,←HE.out,if_neg hz]
  clear hz
  go_wp2
  go_ret
  exact⟨by rw[HR.out];rfl,ac⟩
open Go.RowKit
theorem C3g {w:World}{c:Nat}{nm:List UInt8}{af ab:Option Addr}{nf cf nb cb:Nat}{fs:List FI}(hc:w.heap[c]?=some (.cells #[.string (S nm),.slice af nf cf,.slice ab nb cb] 38 (0,0))) (hf:RdL 6 FAt w (.slice af nf cf) fs) (r:RI){ao:Option Addr}{n cap:Nat}(Hn:Hid (n=r.bytes.length)) (hn:n≤9223372036854775807) :
  Calls Tryz.prog 59 #[.agg #[.int .i64 r.number,.int .i64 r.how,.int .u64 (r.bits:Int),.slice ao n cap],.pointer (some ⟨c,0,none⟩)] w fun e w'=>e = .returned (.int .i64 (B0u fs r))∧Below w.heap.size w w':=by
 have c0:w.cell? ⟨c,0,none⟩=some (.string (S nm)):=A0a hc 0 _ rfl
 have c1:w.cell? ⟨c,1,none⟩=some (.slice af nf cf):=A0a hc 1 _ rfl
 have c2:w.cell? ⟨c,2,none⟩=some (.slice ab nb cb):=A0a hc 2 _ rfl
 have ac:c < w.heap.size:=(Array.getElem?_eq_some_iff.1 hc).1
 have hb1:Below w.heap.size w (w.alloc (.cells #[.int .i64 r.number,.int .i64 r.how,.int .u64 (r.bits:Int),.slice ao n cap] 106)):=(Below.refl _ _).alloc (Nat.le_refl _) _
 have hu:=B5x (nm:=nm) (ab:=ab) (nb:=nb) (cb:=cb) (hf.below FAt.stays hb1) r (ao:=ao) (cap:=cap) Hn hn
 go_enter Tryz.func59,Tryz.ntmps59
 go_wp2_with fail
 refine hu.mono ?_
 rintro e w1 ⟨rfl,hb2⟩
 go_wp2
 go_ret
 exact⟨rfl,hb1.trans (hb2.mono hb1.size)⟩
theorem C6q {v:Value}{l:List RI}{w:World}{c:Nat}{nm:List UInt8}{af ab:Option Addr}{nf cf nb cb:Nat}{fs:List FI}(h:RdL 4 RAt w v l) (hc:w.heap[c]?=some (.cells #[.string (S nm),.slice af nf cf,.slice ab nb cb] 38 (0,0))) (hf:RdL 6 FAt w (.slice af nf cf) fs) :
  Calls Tryz.prog 58 #[v,.func (.func 59) #[] #[.pointer (some ⟨c,0,none⟩)]] w fun e w'=>e = .returned (.int .i64 (A1b (B0u fs) l))∧Below w.heap.size w w':=by
 obtain⟨ao,n,cap,rfl,Hn,aw⟩:=h.shape
 obtain⟨R,HR⟩:∃ R,Hid (R=A1b (B0u fs) l):=⟨_,rfl⟩
 rw[←HR.out]
 go_enter Tryz.func58,Tryz.ntmps58
 go_wp2_with fail
 go_loopg [10] n (fun m i wr=>∃ k:Nat,k+m=n∧i = .int .i64 k∧Hid (R=A1b (B0u fs) (l.drop k))∧Below w.heap.size w wr)
 case atStart=>exact⟨0,by omega,rfl,HR,Below.refl _ _⟩
 case round=>
  obtain⟨k,hk,rfl,HK,hb⟩:=hrel
  have ak:=(hb.block c (Array.getElem?_eq_some_iff.1 hc).1).trans hc
  by_cases hlt:k < n
  ·obtain⟨a,Ha⟩:∃ a,Hid (l[k]?=some a):=⟨l[k]'(by rw[←Hn.out];exact hlt),List.getElem?_eq_getElem (by rw[←Hn.out];exact hlt)⟩
   obtain⟨b,off,rfl,hat⟩:=(h.below RAt.stays hb).get RAt.plain Ha.out
   obtain⟨vy,s0,s1,s2,s3,aj⟩:=hat.at
   obtain⟨ay,ny,cy,rfl,au,ba⟩:=aj.shape
   have bc:(k:Int) < (n:Int):=by omega
   obtain⟨W1,ah⟩:∃ W1,Hid (W1=wr.alloc (.cells #[.int .i64 a.number,.int .i64 a.how,.int .u64 (a.bits:Int),.slice ay ny cy] 106)):=⟨_,rfl⟩
   have hb1:Below wr.heap.size wr W1:=by rw[ah.out];exact(Below.refl _ _).alloc (Nat.le_refl _) _
   have ac:Below w.heap.size w W1:=hb.trans (hb1.mono hb.size)
   have ag:=C3g ((hb1.block c (Array.getElem?_eq_some_iff.1 ak).1).trans ak) (hf.below FAt.stays ac) a (ao:=ay) (cap:=cy) au ba
   have hst:=A6y (f:=B0u fs) Ha.out
   generalize hF:B0u fs a=F at ag hst
   by_cases hz:F=0
   ·have HX:Hid (R=A1b (B0u fs) (l.drop (k+1))):=by
     show _=_
     rw[HK.out,hst,if_pos hz]
    have ez:(F != 0)=false:=by simp[hz]
    clear hst hF hz hat aj
    go_wp2_with fail
    rw[←ah.out]
    refine ag.mono ?_
    rintro e w1 ⟨rfl,hb2⟩
    go_wp2_with fail
    go_roundg (n - (k+1))
    case measure=>omega
    case rel=>exact⟨k+1,by omega,by go_num,HX,ac.trans (hb2.mono ac.size)⟩
   ·have HX:Hid (R=F):=by
     show _=_
     rw[HK.out,hst,if_neg hz]
    have ez:(F != 0)=true:=by simpa using hz
    clear hst hF hz hat aj
    go_wp2_with fail
    rw[←ah.out]
    refine ag.mono ?_
    rintro e w1 ⟨rfl,hb2⟩
    go_wp2
    go_ret
    exact⟨by rw[HX.out];rfl,ac.trans (hb2.mono ac.size)⟩
  ·have HX:Hid (R=0):=by
    show _=_
    rw[HK.out]
    exact A5q (by rw[←Hn.out];omega)
   go_wp2
   go_ret
   exact⟨by rw[HX.out];rfl,hb⟩
end L
end Go.Proofs.YtgaoojpakjjdnaaGreatDoor
