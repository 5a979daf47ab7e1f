import Derived.Test.YtgaoojpakjjdnaaGreatDoorX25
set_option maxHeartbeats 32000000
set_option maxRecDepth 100000
set_option linter.unusedVariables false
namespace Go.Proofs.YtgaoojpakjjdnaaGreatDoor
namespace L
open Go.RowKit
def A4w (kind:Int)(n:Nat):Nat:=
 if kind=2 then(IntKind.u64.wrap (B1k (n:Int))).toNat
 else if kind=4 then min n 1
 else if kind=5 then(if n%4294967296<2147483648 then n%4294967296 else n%4294967296+18446744069414584320)
 else n
def C4i (kind:Int)(fn:Nat):Prop:=
 (∀ (args:Array Value) (w:World),(callFunc fn args).run Tryz.prog w = .ok (.enter fn args) w)∧∀ (n:Nat) (W:World),n≤18446744073709551615→Calls Tryz.prog fn #[.int .u64 (n:Int)] W fun e w'=>e = .returned (.int .u64 ((A4w kind n:Nat):Int))∧W=w'
theorem D4t (n:Nat)(w:World)(hn:n≤18446744073709551615):Calls Tryz.prog 218 #[.int .u64 (n:Int)] w fun e w'=>e = .returned (.int .u64 ((A4w 2 n:Nat):Int))∧w=w':=by
 have ho:=D4x (n:Int) w (by omega) (by omega)
 have HT:Hid (((A4w 2 n:Nat):Int)=IntKind.u64.wrap (B1k (n:Int))):=by
  show _=_
  have h0:0≤IntKind.u64.wrap (B1k (n:Int)):=by rw[IntKind.wrap_u64];omega
  unfold A4w
  rw[if_pos rfl,Int.toNat_of_nonneg h0]
 go_enter Tryz.func218,Tryz.ntmps218
 go_wp2_with fail
 refine ho.mono ?_
 rintro e w1 ⟨rfl,rfl⟩
 go_wp2_with fail
 go_ret
 exact⟨by rw[HT.out];rfl,rfl⟩
theorem D4u (n:Nat)(w:World)(hn:n≤18446744073709551615):Calls Tryz.prog 220 #[.int .u64 (n:Int)] w fun e w'=>e = .returned (.int .u64 ((A4w 4 n:Nat):Int))∧w=w':=by
 have HT:Hid (((A4w 4 n:Nat):Int)=min (n:Int) 1):=by
  show _=_
  unfold A4w
  rw[if_neg (by decide),if_pos rfl]
  omega
 go_enter Tryz.func220,Tryz.ntmps220
 go_wp2_with fail
 all_goals
  go_ret
  first
   | exact⟨by rw[HT.out,show min (n:Int) 1=1 by omega];rfl,rfl⟩
   | exact⟨by rw[HT.out,show min (n:Int) 1=n by omega];rfl,rfl⟩
   | exact⟨by rw[HT.out];rfl,rfl⟩
theorem D4v (n:Nat)(w:World)(hn:n≤18446744073709551615):Calls Tryz.prog 221 #[.int .u64 (n:Int)] w fun e w'=>e = .returned (.int .u64 ((A4w 5 n:Nat):Int))∧w=w':=by
 have HT:Hid (((A4w 5 n:Nat):Int)=IntKind.u64.wrap (wrap32 (n:Int))):=by
  show _=_
  unfold A4w
  rw[if_neg (by decide),if_neg (by decide),if_pos rfl,IntKind.wrap_u64,wrap32]
  split <;> omega
 go_enter Tryz.func221,Tryz.ntmps221
 go_wp2_with fail
 go_ret
 exact⟨by rw[HT.out];rfl,rfl⟩
theorem D4w (n:Nat)(w:World):Calls Tryz.prog 222 #[.int .u64 (n:Int)] w fun e w'=>e = .returned (.int .u64 (n:Int))∧w=w':=by
 go_enter Tryz.func222,Tryz.ntmps222
 go_wp2
 go_ret
 exact⟨rfl,rfl⟩
theorem B9b (kind:Int)(w:World):Calls Tryz.prog 178 #[.int .i64 kind] w fun e w'=>∃ fn:Nat,e = .returned (.func (.func fn) #[] #[])∧C4i kind fn∧w=w':=by
 by_cases h2:kind=2
 ·subst h2
  have HF:Hid (C4i 2 218):=⟨enters_of Tryz.func218 (by kernel_rfl) rfl,D4t⟩
  go_enter Tryz.func178,Tryz.ntmps178
  go_wp2
  go_ret
  exact⟨_,rfl,HF.out,rfl⟩
 ·have b2:(kind==2)=false:=beq_eq_false_iff_ne.2 h2
  by_cases h4:kind=4
  ·subst h4
   have HF:Hid (C4i 4 220):=⟨enters_of Tryz.func220 (by kernel_rfl) rfl,D4u⟩
   clear h2
   go_enter Tryz.func178,Tryz.ntmps178
   go_wp2
   go_ret
   exact⟨_,rfl,HF.out,rfl⟩
  ·have b4:(kind==4)=false:=beq_eq_false_iff_ne.2 h4
   by_cases h5:kind=5
   ·subst h5
    have HF:Hid (C4i 5 221):=⟨enters_of Tryz.func221 (by kernel_rfl) rfl,D4v⟩
    clear h2 h4
    go_enter Tryz.func178,Tryz.ntmps178
    go_wp2
    go_ret
    exact⟨_,rfl,HF.out,rfl⟩
   ·have b5:(kind==5)=false:=beq_eq_false_iff_ne.2 h5
    have HF:Hid (C4i kind 222):=⟨enters_of Tryz.func222 (by kernel_rfl) rfl,fun n W hn=>by
     have:A4w kind n=n:=by unfold A4w;rw[if_neg h2,if_neg h4,if_neg h5]
     rw[this]
     exact D4w n W⟩
    clear h2 h4 h5
    go_enter Tryz.func178,Tryz.ntmps178
    go_wp2
    go_ret
    exact⟨_,rfl,HF.out,rfl⟩
theorem D7m {w:World}{ao:Option Addr}{n cap:Nat}{l:List UInt8}(h:RdL 1 YAt w (.slice ao n cap) l):RdA w ao n cap l:=by
 obtain⟨ac,n',cap',e,h1,h2,h3,h4,h5⟩:=h
 cases e
 refine⟨h1,h2,h3,fun e=>(h4 e).2,fun x hx i hi=>?_⟩
 have hi':i<l.length:=by omega
 have:=h5 x hx i l[i] (List.getElem?_eq_getElem hi')
 rw[Nat.mul_one] at this
 rw[List.getD_eq_getElem?_getD,List.getElem?_eq_getElem hi']
 exact this
def unpGo (how:Int):Nat→List UInt8→List Nat→List Nat×Nat
 | 0,_,acc=>(acc,0)
 | f+1,l,acc=>if l.length=0 then(acc,0) else
  if (A3q l how).2.2≠0 then([],(A3q l how).2.2) else unpGo how f (l.drop (A3q l how).2.1) (acc++[(A3q l how).1])
def unpR (how:Int)(l:List UInt8):List Nat×Nat:=unpGo how l.length l []
end L
end Go.Proofs.YtgaoojpakjjdnaaGreatDoor
namespace Go.Proofs.YtgaoojpakjjdnaaGreatDoor
open Go.RowKit
def A7o (A B C:Nat)(rest:List UInt8):Rcd×Nat×Nat:=
 if B=2 then
  if (A6j rest).2.2≠0 then(⟨0,0,0,[]⟩,0,(A6j rest).2.2)
  else(⟨(A:Int),(B:Int),0,(A6j rest).1⟩,C+(A6j rest).2.1,0)
 else
  if (A3q rest (B:Int)).2.2≠0 then(⟨0,0,0,[]⟩,0,(A3q rest (B:Int)).2.2)
  else(⟨(A:Int),(B:Int),(A3q rest (B:Int)).1,[]⟩,C+(A3q rest (B:Int)).2.1,0)
def A7n (l:List UInt8):Rcd×Nat×Nat:=
 if (C2b l).2.2.2≠0 then(⟨0,0,0,[]⟩,0,(C2b l).2.2.2)
 else A7o (C2b l).1 (C2b l).2.1 (C2b l).2.2.1 (l.drop (C2b l).2.2.1)
theorem C2c {l:List UInt8}{A B C D:Nat}(h:C2b l=(A,B,C,D)):A<536870912∧B<8∧C≤l.length∧C≤10∧D≤3∧(D=0→1≤C∧1≤A∧A1z (B:Int)=true):=by
 obtain⟨N,K,E,hg⟩:∃ N K E,A5o 0 0 l=(N,K,E):=⟨_,_,_,rfl⟩
 obtain⟨b1,b2,b3,b4,b5⟩:=A8e hg
 rw[C2b,hg] at h
 dsimp only at h
 unfold B9s at h
 split at h
 ·obtain⟨rfl,rfl,rfl,rfl⟩:=A7f h;omega
 ·split at h
  ·obtain⟨rfl,rfl,rfl,rfl⟩:=A7f h;omega
  ·split at h
   ·obtain⟨rfl,rfl,rfl,rfl⟩:=A7f h;omega
   ·rename_i h3
    obtain⟨rfl,rfl,rfl,rfl⟩:=A7f h
    refine⟨by omega,by omega,by omega,by omega,by omega,fun _=>⟨b5 (by omega),by omega,?_⟩⟩
    simpa using h3
theorem B3l {l:List UInt8}{A:List UInt8}{B C:Nat}(h:A6j l=(A,B,C)):A.length≤l.length∧B≤l.length∧C≤3∧(C=0→1≤B)∧A.length≤B:=by
 obtain⟨N,K,E,hg⟩:∃ N K E,A5o 0 0 l=(N,K,E):=⟨_,_,_,rfl⟩
 obtain⟨b1,b2,b3,b4,b5⟩:=A8e hg
 rw[A6j,hg] at h
 dsimp only at h
 unfold A8y at h
 split at h
 ·obtain⟨rfl,rfl,rfl⟩:=A0t h;simp;omega
 ·split at h
  ·obtain⟨rfl,rfl,rfl⟩:=A0t h;simp
  ·obtain⟨rfl,rfl,rfl⟩:=A0t h;simp;omega
theorem B1q {l:List UInt8}{how:Int}{A B C:Nat}(h:A3q l how=(A,B,C)):A≤18446744073709551615∧B≤l.length∧B≤10∧C≤3:=by
 unfold A3q at h
 split at h
 ·obtain⟨b1,b2,b3,b4,b5⟩:=A8e h
  omega
 ·split at h
  ·obtain⟨rfl,rfl,rfl⟩:=A0t h;omega
  ·obtain⟨rfl,rfl,rfl⟩:=A0t h
   have hw:A2d how≤8:=by unfold A2d;split <;> (try split) <;> omega
   have:=C2u (l.take (A2d how))
   have hp:2 ^ (8*(l.take (A2d how)).length)≤2 ^ 64:=Nat.pow_le_pow_right (by decide) (by simp;omega)
   omega
theorem D6v {w w':World}{B g t:Nat}{a b c d:Value}(h:w.heap[g]?=some (.cells #[a,b,c,d] t (0,0)))(hb:Below B w w')(hg:g<B) :
  (w'.cell? ⟨g,0,none⟩=some a∧w'.cell? ⟨g,1,none⟩=some b∧w'.cell? ⟨g,2,none⟩=some c∧w'.cell? ⟨g,3,none⟩=some d)∧
  (w'.frozen? ⟨g,0,none⟩=false∧w'.frozen? ⟨g,1,none⟩=false∧w'.frozen? ⟨g,2,none⟩=false∧w'.frozen? ⟨g,3,none⟩=false):=by
 have h':w'.heap[g]?=some (.cells #[a,b,c,d] t (0,0)):=by rw[hb.block g hg];exact h
 simp[World.cell?,World.frozen?,h']
theorem B8m {ao:Option Addr}{len cap:Nat}{l:List UInt8}{w:World}(hr:RdA w ao len cap l)(hlen:len≤4000){r:Rcd}{n E:Nat}(h:A7n l=(r,n,E)) :
  Calls Tryz.prog 102 #[.slice ao len cap] w fun e w'=>∃ v',e = .returned (.tuple #[.agg #[.int .i64 r.num,.int .i64 r.how,.int .u64 (r.bits:Int),v'],.int .i64 (n:Int),.int .i64 (E:Int)])∧OwnB w' w.heap.size v' r.bytes∧Below w.heap.size w w':=by
 have HL:Hid (l.length=len):=hr.1
 obtain⟨A,B,C,D,HT⟩:∃ A B C D,Hid (C2b l=(A,B,C,D)):=⟨_,_,_,_,rfl⟩
 obtain⟨t1,t2,t3,t4,t5,t6⟩:=C2c HT.out
 rw[A7n,HT.out] at h
 dsimp only at h
 have bg:C≤len:=by rw[←HL.out];exact t3
 have hb0:Below w.heap.size w (w.alloc (.cells #[.int .i64 0,.int .i64 0,.int .u64 0,.slice none 0 0] 106)):=(Below.refl _ _).alloc (Nat.le_refl _) _
 go_enter Tryz.func102,Tryz.ntmps102
 have Hh:Hid _:=h
 clear h t3
 go_wp2_with fail
 refine(C9a (hr.later hb0) HT.out).mono ?_
 rintro e w1 ⟨rfl,rfl⟩
 by_cases h0:D=0
 ·have bh:((D:Int) != 0)=false:=by simp[h0]
  obtain⟨c1,c2,c3⟩:=t6 h0
  have H2:Hid (A7o A B C (l.drop C)=(r,n,E)):=by show _=_;rw[←Hh.out,if_neg (by omega)]
  clear Hh h0 t6 c3
  obtain⟨bp,bq,bk⟩:=A8i hr bg .i64
  have hb2:Below w.heap.size w ((w.alloc (.cells #[.int .i64 0,.int .i64 0,.int .u64 0,.slice none 0 0] 106)).alloc (.cells #[.int .i64 (A:Int),.int .i64 (B:Int),.int .u64 0,.slice none 0 0] 106)):=hb0.alloc (by simp) _
  have ah:=bk.later hb2
  by_cases hB:B=2
  ·have a8:((B:Int)==2)=true:=by simp[hB]
   obtain⟨S,T,U,Hs⟩:∃ S T U,Hid (A6j (l.drop C)=(S,T,U)):=⟨_,_,_,rfl⟩
   obtain⟨s1,s2,s3,s4,s5⟩:=B3l Hs.out
   have H3:Hid ((if U≠0 then(⟨0,0,0,[]⟩,0,U) else(⟨(A:Int),(B:Int),0,S⟩,C+T,0))=(r,n,E)):=by
    show _=_
    rw[←H2.out,A7o,if_pos hB,Hs.out]
   have hT:T≤4000:=by have:=HL.out;simp at s2;omega
   clear H2 hB s1 s2 s4 s5
   go_wp2_with fail
   refine(C0x ah (by omega) Hs.out).mono ?_
   rintro e w2 ⟨v2,rfl,ho,hbl⟩
   obtain⟨⟨p0,p1,p2,p3⟩,p4,p5,p6,p7⟩:=D6v (g:=w.heap.size) (t:=106) (a:=.int .i64 0) (b:=.int .i64 0) (c:=.int .u64 0) (d:=.slice none 0 0) (by rw[Below.heap_alloc _ _ _ (by simp)];exact heap_alloc_new w _) hbl (by simp;omega)
   obtain⟨⟨q0,q1,q2,q3⟩,q4,q5,q6,q7⟩:=D6v (g:=w.heap.size+1) (t:=106) (a:=.int .i64 (A:Int)) (b:=.int .i64 (B:Int)) (c:=.int .u64 0) (d:=.slice none 0 0) (by have:=heap_alloc_new (w.alloc (.cells #[.int .i64 0,.int .i64 0,.int .u64 0,.slice none 0 0] 106)) (.cells #[.int .i64 (A:Int),.int .i64 (B:Int),.int .u64 0,.slice none 0 0] 106);simpa using this) hbl (by simp)
   have au:Below w.heap.size w w2:=hb2.trans (hbl.mono (by simp;omega))
   obtain⟨aj,ag,ac,hv3,hr3⟩:=ho.rd
   have HV:Hid (v2 = .slice aj ag ac):=hv3
   rw[hv3]
   clear hv3
   by_cases hU:U=0
   ·have ak:((U:Int) != 0)=false:=by simp[hU]
    obtain⟨rfl,rfl,rfl⟩:=A0t (show(⟨(A:Int),(B:Int),0,S⟩,C+T,0)=(r,n,E) by rw[←H3.out,if_neg (by omega)])
    clear hU H3
    go_wp2
    refine bodyPost_ret (v:=.tuple #[.agg #[.int .i64 (A:Int),.int .i64 (B:Int),.int .u64 0,.slice aj ag ac],.int .i64 ((C+T:Nat):Int),.int .i64 0]) (by simp[results,Tryz.results102,go_sem,p0,p1,p2,p3]) rfl ⟨_,rfl,?_,?_⟩
    ·have aw:=ho
     rw[HV.out] at aw
     have:=ownsRow_setCell_below (ownsRow_setCell_below (ownsRow_setCell_below (ownsRow_setCell_below (ownsRow_setCell_below aw (a:=⟨w.heap.size+1,3,none⟩) (by simp) (.slice aj ag ac)) (a:=⟨w.heap.size,0,none⟩) (by simp;omega) (.int .i64 (A:Int))) (a:=⟨w.heap.size,1,none⟩) (by simp;omega) (.int .i64 (B:Int))) (a:=⟨w.heap.size,2,none⟩) (by simp;omega) (.int .u64 0)) (a:=⟨w.heap.size,3,none⟩) (by simp;omega) (.slice aj ag ac)
     exact OwnB.mono this (by simp;omega)
    ·exact((((au.setCell (by simp) _).setCell (Nat.le_refl _) _).setCell (Nat.le_refl _) _).setCell (Nat.le_refl _) _).setCell (Nat.le_refl _) _
   ·have ak:((U:Int) != 0)=true:=by rw[bne_iff_ne];omega
    obtain⟨rfl,rfl,rfl⟩:=A0t (show(⟨0,0,0,[]⟩,0,U)=(r,n,E) by rw[←H3.out,if_pos hU])
    clear hU H3
    go_wp2
    refine bodyPost_ret (v:=.tuple #[.agg #[.int .i64 0,.int .i64 0,.int .u64 0,.slice none 0 0],.int .i64 0,.int .i64 (U:Int)]) (by simp[results,Tryz.results102,go_sem,p0,p1,p2,p3]) rfl ⟨_,rfl,OwnB.nil _ _,?_⟩
    exact((((au.setCell (by simp) _).setCell (Nat.le_refl _) _).setCell (Nat.le_refl _) _).setCell (Nat.le_refl _) _).setCell (Nat.le_refl _) _
  ·have a8:((B:Int)==2)=false:=by simp;omega
   obtain⟨S,T,U,Hs⟩:∃ S T U,Hid (A3q (l.drop C) (B:Int)=(S,T,U)):=⟨_,_,_,rfl⟩
   obtain⟨s1,s2,s3,s4⟩:=B1q Hs.out
   have H3:Hid ((if U≠0 then(⟨0,0,0,[]⟩,0,U) else(⟨(A:Int),(B:Int),S,[]⟩,C+T,0))=(r,n,E)):=by
    show _=_
    rw[←H2.out,A7o,if_neg hB,Hs.out]
   clear H2 hB s2
   go_wp2_with fail
   refine(B4s ah (B:Int) Hs.out).mono ?_
   rintro e w2 ⟨rfl,rfl⟩
   by_cases hU:U=0
   ·have ak:((U:Int) != 0)=false:=by simp[hU]
    obtain⟨rfl,rfl,rfl⟩:=A0t (show(⟨(A:Int),(B:Int),S,[]⟩,C+T,0)=(r,n,E) by rw[←H3.out,if_neg (by omega)])
    clear hU H3
    go_wp2
    refine bodyPost_ret (v:=.tuple #[.agg #[.int .i64 (A:Int),.int .i64 (B:Int),.int .u64 (S:Int),.slice none 0 0],.int .i64 ((C+T:Nat):Int),.int .i64 0]) (by simp[results,Tryz.results102,go_sem]) rfl ⟨_,rfl,OwnB.nil _ _,?_⟩
    exact((Below.refl _ _).alloc (Nat.le_refl _) _).alloc (by simp) _
   ·have ak:((U:Int) != 0)=true:=by rw[bne_iff_ne];omega
    obtain⟨rfl,rfl,rfl⟩:=A0t (show(⟨0,0,0,[]⟩,0,U)=(r,n,E) by rw[←H3.out,if_pos hU])
    clear hU H3
    go_wp2
    refine bodyPost_ret (v:=.tuple #[.agg #[.int .i64 0,.int .i64 0,.int .u64 0,.slice none 0 0],.int .i64 0,.int .i64 (U:Int)]) (by simp[results,Tryz.results102,go_sem]) rfl ⟨_,rfl,OwnB.nil _ _,?_⟩
    exact((Below.refl _ _).alloc (Nat.le_refl _) _).alloc (by simp) _
 ·have bh:((D:Int) != 0)=true:=by rw[bne_iff_ne];omega
  obtain⟨rfl,rfl,rfl⟩:=A0t (show(⟨0,0,0,[]⟩,0,D)=(r,n,E) by rw[←Hh.out,if_pos h0])
  clear Hh h0
  go_wp2
  refine bodyPost_ret (v:=.tuple #[.agg #[.int .i64 0,.int .i64 0,.int .u64 0,.slice none 0 0],.int .i64 0,.int .i64 (D:Int)]) (by simp[results,Tryz.results102,go_sem]) rfl ⟨_,rfl,OwnB.nil _ _,?_⟩
  exact hb0
end Go.Proofs.YtgaoojpakjjdnaaGreatDoor
namespace Go.Proofs.YtgaoojpakjjdnaaGreatDoor
namespace L
open Go.RowKit
theorem D0t {w w':World}{ao:Option Addr}{n cap:Nat}{l:List UInt8}(h:RdA w ao n cap l)(hb:Below w.heap.size w w'):RdA w' ao n cap l:=⟨h.1,h.2.1,h.2.2.1,h.2.2.2.1,fun x hx i hi=>A0c hb (h.2.2.2.2 x hx i hi)⟩
theorem D3b {l:List UInt8}{how:Int}(hh:how=0∨how=1∨how=5)(hz:(A3q l how).2.2=0):1≤(A3q l how).2.1:=by
 unfold A3q at hz ⊢
 split
 ·rename_i h0
  rw[if_pos h0] at hz
  obtain⟨N,K,E,hg⟩:∃ N K E,A5o 0 0 l=(N,K,E):=⟨_,_,_,rfl⟩
  rw[hg] at hz ⊢
  exact(A8e hg).2.2.2.2 hz
 ·rename_i h0
  rw[if_neg h0] at hz
  split
  ·rename_i h1
   rw[if_pos h1] at hz
   cases hz
  ·show 1≤A2d how
   rcases hh with h|h|h
   ·exact absurd h h0
   ·subst h;decide
   ·subst h;decide
theorem unp_end {how:Int}{f:Nat}{l:List UInt8}{acc:List Nat}(h:l.length=0):unpGo how f l acc=(acc,0):=by
 cases f with
 | zero=>rfl
 | succ f=>unfold unpGo;rw[if_pos h]
theorem D9o {how:Int}{f:Nat}{l:List UInt8}{acc:List Nat}{A B C:Nat}(h:l.length≠0)(hb:A3q l how=(A,B,C))(hC:C≠0):unpGo how (f+1) l acc=([],C):=by
 unfold unpGo
 rw[if_neg h,hb,if_pos hC]
theorem unp_go {how:Int}{f:Nat}{l:List UInt8}{acc:List Nat}{A B:Nat}(h:l.length≠0)(hb:A3q l how=(A,B,0)):unpGo how (f+1) l acc=unpGo how f (l.drop B) (acc++[A]):=by
 rw[unpGo.eq_2,if_neg h,hb,if_neg (by simp)]
theorem B9u {w:World}{ao:Option Addr}{n cap:Nat}{l:List UInt8}(h:RdL 1 YAt w (.slice ao n cap) l)(hl:l.length≤4000)(how:Int)(hh:how=0∨how=1∨how=5) :
  Calls Tryz.prog 179 #[.int .i64 how,.slice ao n cap] w fun e w'=>∃ (a:Option Addr) (m c:Nat),e = .returned (.tuple #[.slice a m c,.int .i64 (((unpR how l).2:Nat):Int)])∧Row ekU w' w.heap.size (.slice a m c) (unpR how l).1∧Below w.heap.size w w':=by
 have hr:=D7m h
 have HN:Hid (n=l.length):=h.len.1
 have hn:n≤4000:=by rw[HN.out];exact hl
 have hkb:=C2y how w
 have bk:B6l how=true:=by rcases hh with h|h|h <;> subst h <;> decide
 rw[bk] at hkb
 obtain⟨R,HR⟩:∃ R,Hid (unpR how l=R):=⟨_,rfl⟩
 rw[HR.out]
 have HH:Hid (how=0∨how=1∨how=5):=hh
 have br:Hid (RdA w ao n cap l):=hr
 clear h hl hh bk hr
 go_enter Tryz.func179,Tryz.ntmps179
 go_wp2_with fail
 refine hkb.mono ?_
 rintro e w1 ⟨rfl,rfl⟩
 clear hkb
 go_wp2_with fail
 go_loopg [1,6] n (fun gm s1 s6 wr=>∃ (k f:Nat) (a1:Option Addr) (a2:Option Addr) (m2 c2:Nat) (acc:List Nat),k+gm=n∧gm≤f∧s1 = .slice a1 (n-k) (cap-k)∧s6 = .slice a2 m2 c2∧Hid (RdA w a1 (n-k) (cap-k) (l.drop k))∧Row ekU wr w.heap.size (.slice a2 m2 c2) acc∧acc.length≤k∧Hid (unpGo how f (l.drop k) acc=R)∧Below w.heap.size w wr)
 case atStart=>exact⟨0,n,ao,none,0,0,[],by omega,Nat.le_refl _,rfl,rfl,br,Row.nil _ _ _,by simp,by rw[HN.out];exact HR.out,Below.refl _ _⟩
 case round=>
  obtain⟨k,f,a1,a2,m2,c2,acc,hk,hf,rfl,rfl,HA,hrow,dg,HU,hb⟩:=hrel
  have HL:Hid ((l.drop k).length=n-k):=by show _=_;rw[List.length_drop,←HN.out]
  by_cases hlt:k<n
  ·have au:decide ((0:Int)<((n-k:Nat):Int))=true:=by simp;omega
   obtain⟨A,B,C,Hb⟩:∃ A B C,Hid (A3q (l.drop k) how=(A,B,C)):=⟨_,_,_,rfl⟩
   obtain⟨cj,a8,cu,cw⟩:=B1q Hb.out
   rw[HL.out] at a8
   have hgb:∀ V,Below w.heap.size w V→Calls Tryz.prog 177 #[.slice a1 (n-k) (cap-k),.int .i64 how] V fun e w'=>e = .returned (.tuple #[.int .u64 (A:Int),.int .i64 (B:Int),.int .i64 (C:Int)])∧V=w':=fun V hV=>B4s (D0t HA.out hV) how Hb.out
   have bh:=hgb wr hb
   obtain⟨f',rfl⟩:∃ f',f=f'+1:=⟨f-1,by omega⟩
   have hne:(l.drop k).length≠0:=by rw[HL.out];omega
   by_cases hC:C=0
   ·subst hC
    have df:1≤B:=by
     have:=D3b (l:=l.drop k) HH.out (by rw[Hb.out])
     rw[Hb.out] at this
     exact this
    have ac:Hid (unpGo how f' ((l.drop k).drop B) (acc++[A])=R):=by show _=_;rw[←HU.out,unp_go hne Hb.out]
    obtain⟨a3,bw,ag⟩:=A8i HA.out (show B≤n-k from a8) .i64
    have ah:Hid (RdA w a3 (n-(k+B)) (cap-(k+B)) (l.drop (k+B))):=by
     have e1:n-k-B=n-(k+B):=by omega
     have e2:cap-k-B=cap-(k+B):=by omega
     rw[e1,e2,List.drop_drop] at ag
     exact ag
    have e1:n-k-B=n-(k+B):=by omega
    have e2:cap-k-B=cap-(k+B):=by omega
    rw[e1,e2] at bw
    have bt:Hid (unpGo how f' (l.drop (k+B)) (acc++[A])=R):=by rw[←List.drop_drop];exact ac
    obtain⟨X1,aj⟩:∃ X1,Hid (X1=(wr.alloc (.cells #[.int .u64 (A:Int)] 63)).drew):=⟨_,rfl⟩
    have bg:Below wr.heap.size wr X1:=by rw[aj.out];exact((Below.refl _ _).alloc (Nat.le_refl _) _).drew
    have cg:X1.heap[wr.heap.size]?=some (.cells #[.int .u64 (A:Int)] 63 (0,0)):=by rw[aj.out];exact heap_alloc_new wr _
    have aw:=A8z (E:=ekU) (y0:=A) cg rfl
    have bq:=hrow.below bg
    have ak:Below w.heap.size w X1:=KBT hb bg
    have hlen:(acc.length+([A]:List Nat).length)*ekU.bytes≤140737488355328:=by show(_+1)*8≤_;omega
    have hown:=bq.own
    clear ag hne Hb e1 e2
    go_upto_region 5 with fail
    go_wp2_with fail
    refine bh.mono ?_
    rintro e w2 ⟨rfl,rfl⟩
    go_upto_region 8 with fail
    refine wp_region_held_drew (S:=fun _=>True) (by kernel_rfl) trivial (fun hHeld=>?_)
    refine tK (i:=0) (v:=?vu1) rfl ⟨by rfl,?hyu1⟩ ?_
    case hyu1=>(intro W hSw;(try dsimp only at hSw);go_simp;first|done|with_reducible rfl)
    try simp only[pT,Act.put]
    refine tK (i:=1) (v:=?vu2) rfl ⟨by rfl,?hyu2⟩ ?_
    case hyu2=>(intro W hSw;(try dsimp only at hSw);go_simp;first|done|with_reducible rfl)
    try simp only[pT,Act.put]
    refine tK (i:=4) (v:=?vu3) rfl ⟨by rfl,?hyu3⟩ ?_
    case hyu3=>(intro W hSw;(try dsimp only at hSw);go_simp;first|done|with_reducible rfl)
    try simp only[pT,Act.put]
    refine tK (i:=5) (v:=?vu4) rfl ⟨by rfl,?hyu4⟩ ?_
    case hyu4=>(intro W hSw;(try dsimp only at hSw);go_simp;first|done|with_reducible rfl)
    try simp only[pT,Act.put]
    refine tK (i:=6) (v:=?vu5) rfl ⟨by rfl,?hyu5⟩ ?_
    case hyu5=>(intro W hSw;(try dsimp only at hSw);go_simp;first|done|with_reducible rfl)
    try simp only[pT,Act.put]
    refine rA (i:=2) rfl fun K hK=>?_
    go_simp
    rw[←aj.out]
    refine hK.out _ _ ?_ (fun hHeld=>?_)
    ·(try dsimp only);try exact trivial
    clear hK K
    try simp only[pT,Act.put]
    refine rA (i:=3) rfl fun K hK=>?_
    skip
    refine A6k (by rfl) ekU _ _ (by rfl) w.heap.size (.slice a2 m2 c2) acc [A] (by rfl) bq (some ⟨wr.heap.size,0,none⟩) 1 1 (by rfl) rfl (fun h=>by cases h) aw (by decide) hlen ak.size ?_
    intro v5 w5 bp bv
    obtain⟨a5,n5,c5,rfl,H5⟩:=bp.shape'
    have bu:Below w.heap.size w w5:=ak.grown bv ak.size (fun k hk=>(hown k hk).1)
    refine hK.out _ _ ?_ (fun hHeld=>?_)
    ·(try dsimp only);try exact trivial
    clear hK K
    try simp only[pT,Act.put]
    refine tK (i:=7) (v:=?vu6) rfl ⟨by rfl,?hyu6⟩ ?_
    case hyu6=>(intro W hSw;(try dsimp only at hSw);go_simp;first|done|with_reducible rfl)
    try simp only[pT,Act.put]
    refine tK (i:=8) (v:=?vu7) rfl ⟨by rfl,?hyu7⟩ ?_
    case hyu7=>(intro W hSw;(try dsimp only at hSw);go_simp;first|done|with_reducible rfl)
    try simp only[pT,Act.put]
    refine wpAnyH_done (by kernel_rfl) ?_ _
    go_wp2_with fail
    go_roundg (n-(k+B))
    case measure=>omega
    case rel=>exact⟨k+B,f',a3,a5,n5,c5,acc++[A],by omega,by omega,rfl,rfl,ah,bp,by rw[List.length_append];simp;omega,bt,bu⟩
   ·have ec:((C:Int) != 0)=true:=by simp;omega
    have ac:Hid (R=([],C)):=by show _=_;rw[←HU.out,D9o hne Hb.out hC]
    clear hC hne Hb
    go_wp2_with fail
    refine bh.mono ?_
    rintro e w2 ⟨rfl,rfl⟩
    go_wp2_with fail
    go_ret2
    exact⟨none,0,0,by rw[ac.out];rfl,by rw[ac.out];exact Row.nil _ _ _,hb⟩
  ·have au:decide ((0:Int)<((n-k:Nat):Int))=false:=by simp;omega
   have ac:Hid (R=(acc,0)):=by show _=_;rw[←HU.out,unp_end (by rw[HL.out];omega)]
   go_wp2_with fail
   go_ret2
   exact⟨a2,m2,c2,by rw[ac.out];rfl,by rw[ac.out];exact hrow,hb⟩
theorem C2v (k:Int)(w:World):Calls Tryz.prog 83 #[.int .i64 k] w fun e w'=>e = .returned (.int .i64 (A2e k))∧w=w':=by
 by_cases h:k=6∨k=7∨k=8∨k=9∨k=10
 ·rcases h with rfl|rfl|rfl|rfl|rfl
  all_goals
   go_enter Tryz.func83,Tryz.ntmps83
   go_wp2
   go_ret
   exact⟨rfl,rfl⟩
 ·have e:A2e k=0:=by unfold A2e;rw[if_neg (by omega),if_neg (by omega),if_neg (by omega)]
  rw[e]
  have b6:(k==6)=false:=beq_eq_false_iff_ne.2 (by omega)
  have b7:(k==7)=false:=beq_eq_false_iff_ne.2 (by omega)
  have b8:(k==8)=false:=beq_eq_false_iff_ne.2 (by omega)
  have b9:(k==9)=false:=beq_eq_false_iff_ne.2 (by omega)
  have ac:(k==10)=false:=beq_eq_false_iff_ne.2 (by omega)
  clear e h
  go_enter Tryz.func83,Tryz.ntmps83
  go_wp2
  go_ret
  exact⟨rfl,rfl⟩
theorem B6h {k:Int}(h:A2e k≠2):A2e k=0∨A2e k=1∨A2e k=5:=by
 unfold A2e at h ⊢
 split
 ·exact .inr (.inl rfl)
 ·split
  ·exact .inr (.inr rfl)
  ·split
   ·rename_i h1 h2 h3
    rw[if_neg h1,if_neg h2,if_pos h3] at h
    exact absurd rfl h
   ·exact .inl rfl
def fdV (x:FI):Value:=.agg #[.string (S x.name),.int .i64 x.number,.int .i64 x.kind,.string (S x.type),.bool x.many,.int .i64 x.choice]
def fdC (x:FI):Array Value:=#[.string (S x.name),.int .i64 x.number,.int .i64 x.kind,.string (S x.type),.bool x.many,.int .i64 x.choice]
def tnN (x:FI)(r:RI):List Nat×Nat:=
 if r.how=A2e x.kind then([A4w x.kind r.bits],0)
 else if r.how=2∧x.many=true then((unpR (A2e x.kind) r.bytes).1.map (A4w x.kind),(unpR (A2e x.kind) r.bytes).2)
 else([],8)
theorem D2f {how:Int}:∀ {f:Nat}{l:List UInt8}{acc:List Nat},(unpGo how f l acc).1.length≤acc.length+f
 | 0,_,_=>by simp[unpGo]
 | f+1,l,acc=>by
  unfold unpGo
  split
  ·simp
  ·split
   ·simp
   ·have:=D2f (how:=how) (f:=f) (l:=l.drop (A3q l how).2.1) (acc:=acc++[(A3q l how).1])
    rw[List.length_append] at this
    simp at this
    omega
theorem D2e {how:Int}:∀ {f:Nat}{l:List UInt8}{acc:List Nat},(∀ n∈acc,n≤18446744073709551615)→∀ n∈(unpGo how f l acc).1,n≤18446744073709551615
 | 0,_,_,h=>by simpa [unpGo] using h
 | f+1,l,acc,h=>by
  unfold unpGo
  split
  ·exact h
  ·split
   ·intro n hn;simp at hn
   ·refine D2e fun n hn=>?_
    rcases List.mem_append.1 hn with hn|hn
    ·exact h n hn
    ·obtain⟨A,B,C,hb⟩:∃ A B C,A3q l how=(A,B,C):=⟨_,_,_,rfl⟩
     rw[List.mem_singleton.1 hn,hb]
     exact(B1q hb).1
theorem B3o {w:World}(x:FI)(hx:A2e x.kind≠2)(r:RI){ao:Option Addr}{n cap:Nat}(h:RdL 1 YAt w (.slice ao n cap) r.bytes)(hl:r.bytes.length≤4000)(hb:r.bits≤18446744073709551615) :
  Calls Tryz.prog 103 #[fdV x,.agg #[.int .i64 r.number,.int .i64 r.how,.int .u64 (r.bits:Int),.slice ao n cap]] w fun e w'=>∃ (a:Option Addr) (m c:Nat),e = .returned (.tuple #[.slice a m c,.int .i64 (((tnN x r).2:Nat):Int)])∧Row ekU w' w.heap.size (.slice a m c) (tnN x r).1∧Below w.heap.size w w':=by
 obtain⟨H,HH⟩:∃ H,Hid (A2e x.kind=H):=⟨_,rfl⟩
 have ak:=B6h hx
 rw[HH.out] at ak
 obtain⟨W2,ah⟩:∃ W2,Hid (W2=(w.alloc (.cells (fdC x) 40)).alloc (.cells #[.int .i64 r.number,.int .i64 r.how,.int .u64 (r.bits:Int),.slice ao n cap] 106)):=⟨_,rfl⟩
 have hb2:Below w.heap.size w W2:=by rw[ah.out];exact((Below.refl _ _).alloc (Nat.le_refl _) _).alloc (by simp) _
 have x1:W2.heap[w.heap.size]?=some (.cells (fdC x) 40 (0,0)):=by rw[ah.out];exact A0l _ _ _
 have x2:W2.heap[w.heap.size+1]?=some (.cells #[.int .i64 r.number,.int .i64 r.how,.int .u64 (r.bits:Int),.slice ao n cap] 106 (0,0)):=by rw[ah.out];exact A0i _ _ _
 have hz2:w.heap.size+2≤W2.heap.size:=by rw[ah.out];simp
 have ag:∀ V,Below W2.heap.size W2 V→(V.cell? ⟨w.heap.size,2,none⟩=some (.int .i64 x.kind)∧V.cell? ⟨w.heap.size,4,none⟩=some (.bool x.many))∧V.cell? ⟨w.heap.size+1,1,none⟩=some (.int .i64 r.how)∧V.cell? ⟨w.heap.size+1,2,none⟩=some (.int .u64 (r.bits:Int))∧V.cell? ⟨w.heap.size+1,3,none⟩=some (.slice ao n cap):=fun V hV=>by
  have y1:=(hV.block _ (by omega)).trans x1
  have y2:=(hV.block _ (by omega)).trans x2
  exact⟨⟨A0a y1 2 _ rfl,A0a y1 4 _ rfl⟩,A0a y2 1 _ rfl,A0a y2 2 _ rfl,A0a y2 3 _ rfl⟩
 have bu:∀ V,Calls Tryz.prog 83 #[.int .i64 x.kind] V fun e w'=>e = .returned (.int .i64 H)∧V=w':=fun V=>by
  have:=C2v x.kind V
  rw[HH.out] at this
  exact this
 obtain⟨R,HR⟩:∃ R,Hid (tnN x r=R):=⟨_,rfl⟩
 rw[HR.out]
 have hD:Below W2.heap.size W2 W2.drew:=(Below.refl _ _).drew
 have aw:=B9b x.kind W2.drew
 have bh:Hid (RdL 1 YAt w (.slice ao n cap) r.bytes):=h
 have bg:Hid (H=0∨H=1∨H=5):=ak
 obtain⟨⟨t0,t1⟩,t2,t3,t4⟩:=ag W2.drew hD
 clear h hx ak x1 x2
 unfold fdV
 go_enter Tryz.func103,Tryz.ntmps103
 go_upto_region 1 with fail
 rw[show(#[.string (S x.name),.int .i64 x.number,.int .i64 x.kind,.string (S x.type),.bool x.many,.int .i64 x.choice]:Array Value)=fdC x from rfl,←ah.out]
 go_cut [6,7] from 10 to 15 (fun s6 s7 wc=>∃ fn:Nat,s6 = .int .i64 H∧s7 = .func (.func fn) #[] #[]∧C4i x.kind fn∧Below W2.heap.size W2 wc)
 case first=>
  refine wp_region_held_drew (S:=fun V=>Below W2.heap.size W2 V) (by kernel_rfl) hD (fun hHeld=>?_)
  refine tK (i:=0) (v:=?vn1) rfl ⟨by rfl,?hyn1⟩ ?_
  case hyn1=>(intro W h;have:=ag W h;go_simp;first|done|with_reducible rfl)
  try simp only[pT,Act.put]
  refine tK (i:=1) (v:=?vn2) rfl ⟨by rfl,?hyn2⟩ ?_
  case hyn2=>(intro W h;have:=ag W h;go_simp;first|done|with_reducible rfl)
  try simp only[pT,Act.put]
  refine tK (i:=3) (v:=?vn3) rfl ⟨by rfl,?hyn3⟩ ?_
  case hyn3=>(intro W h;have:=ag W h;go_simp;first|done|with_reducible rfl)
  try simp only[pT,Act.put]
  refine tK (i:=4) (v:=?vn4) rfl ⟨by rfl,?hyn4⟩ ?_
  case hyn4=>(intro W h;have:=ag W h;go_simp;first|done|with_reducible rfl)
  try simp only[pT,Act.put]
  refine rA (i:=2) rfl fun K hK=>?_
  go_simp
  refine(bu _).mono ?_
  rintro r w3 ⟨rfl,rfl⟩
  refine hK.out _ _ ?_ (fun hHeld=>?_)
  ·(try dsimp only);with_reducible exact hD
  clear hK K
  try simp only[pT,Act.put]
  refine rA (i:=5) rfl fun K hK=>?_
  go_simp
  refine aw.mono ?_
  rintro r w4 ⟨fn,rfl,hfn,rfl⟩
  refine hK.out _ _ ?_ (fun hHeld=>?_)
  ·(try dsimp only);with_reducible exact hD
  clear hK K
  try simp only[pT,Act.put]
  refine tK (i:=6) (v:=?vn5) rfl ⟨by rfl,?hyn5⟩ ?_
  case hyn5=>(intro W h;have:=ag W h;go_simp;first|done|with_reducible rfl)
  try simp only[pT,Act.put]
  refine tK (i:=7) (v:=?vn6) rfl ⟨by rfl,?hyn6⟩ ?_
  case hyn6=>(intro W h;have:=ag W h;go_simp;first|done|with_reducible rfl)
  try simp only[pT,Act.put]
  refine wpAnyH_done (by kernel_rfl) ?_ _
  go_wp2_with fail
  go_meet
  exact⟨fn,rfl,rfl,hfn,hD⟩
 case rest=>
 obtain⟨fn,rfl,rfl,hfn,ac⟩:=hcut
 clear t0 t1 t2 t3 t4 aw
 obtain⟨⟨t0,t1⟩,t2,t3,t4⟩:=ag wc ac
 clear ag
 have bt:=hfn.1
 have aj:=hfn.2 r.bits wc hb
 by_cases h1:r.how=H
 ·have e1:(r.how==H)=true:=beq_iff_eq.2 h1
  have HT:Hid (R=([A4w x.kind r.bits],0)):=by show _=_;rw[←HR.out];unfold tnN;rw[HH.out,if_pos h1]
  obtain⟨T,au⟩:∃ T,Hid (A4w x.kind r.bits=T):=⟨_,rfl⟩
  rw[au.out] at aj
  rw[au.out] at HT
  clear h1
  go_wp2_with fail
  refine aj.mono ?_
  rintro e w3 ⟨rfl,rfl⟩
  go_wp2_with fail
  go_ret2
  refine⟨some ⟨wc.heap.size,0,none⟩,1,1,by rw[HT.out];rfl,?_,(KBT hb2 ac).alloc (KBT hb2 ac).size _⟩
  rw[HT.out]
  exact Row.one ekU wc T (KBT hb2 ac).size
 ·have e1:(r.how==H)=false:=beq_eq_false_iff_ne.2 h1
  by_cases h2:r.how=2
  ·have e2:(r.how==2)=true:=beq_iff_eq.2 h2
   cases hm:x.many with
   | true=>
    obtain⟨U,HU⟩:∃ U,Hid (unpR H r.bytes=U):=⟨_,rfl⟩
    have HT:Hid (R=(U.1.map (A4w x.kind),U.2)):=by show _=_;rw[←HR.out];unfold tnN;rw[HH.out,if_neg h1,if_pos ⟨h2,hm⟩,HU.out]
    have a8:=B9u (bh.out.below YAt.stays (KBT hb2 ac)) hl H bg.out
    rw[HU.out] at a8
    have bp:U.1.length≤100000000000:=by
     have:=D2f (how:=H) (f:=r.bytes.length) (l:=r.bytes) (acc:=[])
     have e:unpGo H r.bytes.length r.bytes []=U:=HU.out
     rw[e] at this
     simp at this
     omega
    have bq:∀ n∈U.1,n≤18446744073709551615:=by
     have:=D2e (how:=H) (f:=r.bytes.length) (l:=r.bytes) (acc:=[]) (by simp)
     have e:unpGo H r.bytes.length r.bytes []=U:=HU.out
     rw[e] at this
     exact this
    rw[hm] at t1
    clear h1 h2 hm
    go_wp2_with fail
    refine a8.mono ?_
    rintro e w3 ⟨a3,n3,c3,rfl,hr3,hb3⟩
    have br:=B5y hr3.rdU bq bp hfn.1 hfn.2
    clear t0 t1 t2 t3 t4
    go_wp2_with fail
    refine br.mono ?_
    rintro e w4 ⟨a4,n4,c4,rfl,hr4,hb4⟩
    have bk:=KBT (KBT (KBT hb2 ac) hb3) hb4
    have hz:w.heap.size≤w3.heap.size:=(KBT (KBT hb2 ac) hb3).size
    go_wp2_with fail
    go_ret2
    exact⟨a4,n4,c4,by rw[HT.out];rfl,by rw[HT.out];exact hr4.mono hz,bk⟩
   | false=>
    have HT:Hid (R=([],8)):=by show _=_;rw[←HR.out];unfold tnN;rw[HH.out,if_neg h1,if_neg (by rw[hm];simp)]
    rw[hm] at t1
    clear h1 h2 hm
    go_wp2_with fail
    go_ret2
    exact⟨none,0,0,by rw[HT.out];rfl,by rw[HT.out];exact Row.nil _ _ _,KBT hb2 ac⟩
  ·have e2:(r.how==2)=false:=beq_eq_false_iff_ne.2 h2
   have HT:Hid (R=([],8)):=by show _=_;rw[←HR.out];unfold tnN;rw[HH.out,if_neg h1,if_neg (fun h=>h2 h.1)]
   clear h1 h2
   go_wp2_with fail
   go_ret2
   exact⟨none,0,0,by rw[HT.out];rfl,by rw[HT.out];exact Row.nil _ _ _,KBT hb2 ac⟩
end L
end Go.Proofs.YtgaoojpakjjdnaaGreatDoor
