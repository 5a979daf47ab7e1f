import Derived.Test.YtgaoojpakjjdnaaGreatDoorX24
import Derived.Laws.AppendOwnNone
set_option maxHeartbeats 32000000
set_option maxRecDepth 100000
namespace Go.Proofs.YtgaoojpakjjdnaaGreatDoor
open Go.RowKit
theorem D8q:(Tryz.prog.info? 5).map (fun i=>(i.zero,i.size,i.bytes))=some (some (.int .u8 0),1,1):=by kernel_rfl
theorem OwnB.base {w:World}{base:Nat}{v:Value}{l:List UInt8}(h:OwnB w base v l):∀ k,v.ownBlock=some k→base≤k:=fun k hk=>(World.ownsRow.lt h k hk).1
theorem A1s {w:World}{ops:Array Oper}{rest:List Oper}{o:Oper}{a:Act}{Q:Exit→Act→World→Prop}(hgd:o.guard=none)(s x:Operand)
  (ho:o.op = .call { callee:=.builtin .append,args:=#[s,x],argTypes:=#[32,32] })
  (base:Nat) (v:Value) (l m:List UInt8) (hs:a.eval s=v) (hown:OwnB w base v l) (ao:Option Addr) (len cap:Nat) (hx:a.eval x = .slice ao len cap) (hr:RdA w ao len cap m)
  (hlen:l.length+m.length≤140737488355328) (hb:base≤w.heap.size)
  (h:∀ v' w',OwnB w' base v' (l++m)→Below base w w'→wpList Tryz.prog ops Q rest (a.put o.dst v') w'):wpList Tryz.prog ops Q (o::rest) a w:=by
 obtain⟨i0,hi,hz0,hz1,hz2⟩:=info_parts D8q
 obtain⟨r1,r2,r3,r4,r5⟩:=hr
 cases ao with
 | none=>
  have hc0:=r4 rfl
  have hl0:len=0:=by omega
  subst hc0 hl0
  have hm:m = []:=List.eq_nil_of_length_eq_zero r1
  subst hm
  refine wpList_append_own_none hgd s x 32 ho base 5 i0 1 Tryz.underlying32 hi v l.length _ hs hown hx ?_
  exact h v w (by rw[List.append_nil];exact hown) (Below.refl _ _)
 | some ad=>
  refine wpList_append_own w hgd s x 32 ho base 5 i0 (.int .u8 0) 1 1 Tryz.underlying32 hi hz0 hz1 hz2 rfl (by decide) v l.length _ hs hown ad len cap
   (m.map fun c=>Value.int .u8 (c.toNat:Int)) hx (by simp[r1]) ?_ ?_ (by unfold maxLen;omega) (by omega) hb ?_
  ·intro j u hj
   rw[List.getElem?_map] at hj
   cases hmj:m[j]? with
   | none=>rw[hmj] at hj;cases hj
   | some c=>
    rw[hmj] at hj
    have ac:j<m.length:=by
     rcases Nat.lt_or_ge j m.length with h1|h1
     ·exact h1
     ·rw[List.getElem?_eq_none h1] at hmj;cases hmj
    have:=r5 ad rfl j (by omega)
    rw[this,List.getD_eq_getElem?_getD,hmj]
    exact hj
  ·intro u hu
   rw[List.mem_map] at hu
   obtain⟨c,_,rfl⟩:=hu
   rfl
  ·intro v' w' h1 h2 _
   refine h v' w' ?_ ((Below.refl base w).grown h2 hb hown.base)
   show w'.ownsRow base _ 1 v' _ _
   rw[List.length_append,List.map_append,r1]
   exact h1
theorem A9a {w:World}{ops:Array Oper}{rest:List Oper}{o:Oper}{a:Act}{Q:Exit→Act→World→Prop}(hgd:o.guard=none)(s x:Operand)
  (ho:o.op = .call { callee:=.builtin .append,args:=#[s,x],argTypes:=#[32,32] })
  (base:Nat) (v:Value) (l:List UInt8) (c:UInt8) (hs:a.eval s=v) (hown:OwnB w base v l) (ad:Addr) (hx:a.eval x = .slice (some ad) 1 1) (hc:w.cell? ad=some (.int .u8 (c.toNat:Int)))
  (hlen:l.length+1≤140737488355328) (hb:base≤w.heap.size)
  (h:∀ v' w',OwnB w' base v' (l++[c])→Below base w w'→wpList Tryz.prog ops Q rest (a.put o.dst v') w'):wpList Tryz.prog ops Q (o::rest) a w:=by
 refine A1s hgd s x ho base v l [c] hs hown (some ad) 1 1 hx ⟨rfl,Nat.le_refl _,by unfold maxLen;omega,by simp,?_⟩ (by simpa using hlen) hb h
 intro y hy i hi
 cases hy
 have:i=0:=by omega
 subst this
 simpa [Addr.add] using hc
theorem OwnB.alloc {w:World}{base:Nat}{v:Value}{l:List UInt8}(h:OwnB w base v l)(o:Obj):OwnB (w.alloc o) base v l:=World.ownsRow.alloc h o
theorem D7h {f m:Nat}(hf:m<2 ^ (7*f))(hs:¬ m<128):2≤f:=by
 rcases Nat.lt_or_ge f 2 with h|h
 ·have h1:2 ^ (7*f)≤2 ^ 7:=Nat.pow_le_pow_right (by decide) (by omega)
  have h2:(2:Nat) ^ 7=128:=rfl
  omega
 ·exact h
theorem C3n {f m:Nat}(hf:m<2 ^ (7*(f+1))):m / 128<2 ^ (7*f):=by
 rw[show 7*(f+1)=7*f+7 by omega,Nat.pow_add] at hf
 have h2:(2:Nat) ^ 7=128:=rfl
 rw[h2] at hf
 omega
theorem C1v (base:Nat)(v:Value)(l:List UInt8)(n:Nat)(w:World)(hv:OwnB w base v l)(hb:base≤w.heap.size)(hn:n≤18446744073709551615)(hl:l.length≤1000000) :
  Calls Tryz.prog 208 #[v,.int .u64 (n:Int)] w fun e w'=>∃ v',e = .returned v'∧OwnB w' base v' (l++A6l n)∧Below base w w':=by
 have H0:Hid (l++B6w 10 n=l++A6l n):=rfl
 go_enter Tryz.func208,Tryz.ntmps208
 go_wp2
 go_loopw [0,1] (fun u i wr=>∃ (f m:Nat) (l':List UInt8),i = .int .u64 (m:Int)∧m≤18446744073709551615∧Hid (m<2 ^ (7*(f+1)))∧f≤9∧l'.length+f≤l.length+10∧OwnB wr base u l'∧Below base w wr∧base≤wr.heap.size∧Hid (l'++B6w (f+1) m=l++A6l n))
  (fun _ i _=>(intOf i).toNat)
 case atStart=>exact⟨9,n,l,rfl,hn,by show n<2 ^ (7*10);omega,Nat.le_refl _,by omega,hv,Below.refl _ _,hb,H0⟩
 case round=>
  obtain⟨f,m,l',rfl,hm,hf,ah,hlen,hown,ag,ac,HR⟩:=hrel
  by_cases hs:m<128
  ·go_wp2_with (at_builtin;refine A9a rfl _ _ rfl base _ l' (UInt8.ofNat m) rfl (hown.alloc _) ⟨wr.heap.size,0,none⟩ rfl ?c1 ?c2 ?c3 ?_)
   case c1=>
    simp
    omega
   case c2=>omega
   case c3=>simp;omega
   intro v' w1 h1 h2
   go_wp2
   go_ret
   refine⟨v',rfl,?_,(ag.alloc ac _).trans h2⟩
   rw[←HR.out,B6x hs]
   exact h1
  ·obtain⟨c,Hc⟩:∃ c,Hid (c=UInt8.ofNat (m%128+128)):=⟨_,rfl⟩
   go_wp2_with (at_builtin;refine A9a rfl _ _ rfl base _ l' c rfl (hown.alloc _) ⟨wr.heap.size,0,none⟩ rfl ?d1 ?d2 ?d3 ?_)
   case d1=>
    rw[Hc.out,←C3o,IntKind.wrap_u8]
    simp
   case d2=>omega
   case d3=>simp;omega
   intro v' w1 h1 h2
   go_wp2
   go_roundw
   case rel=>
    have hf2:=D7h hf.out hs
    obtain⟨g,rfl⟩:∃ g,f=g+1:=⟨f-1,by omega⟩
    refine⟨g,m / 128,l'++[c],by go_num,by omega,C3n hf.out,by omega,by simp;omega,h1,(ag.alloc ac _).trans h2,by have:=h2.size;simp at this;omega,?_⟩
    show _=_
    rw[←HR.out,C1u hs,List.append_assoc,Hc.out]
    rfl
   case measure=>simp[intOf];omega
end Go.Proofs.YtgaoojpakjjdnaaGreatDoor
namespace Go.Proofs.YtgaoojpakjjdnaaGreatDoor
open Go.RowKit
structure Rcd where
 num:Int
 how:Int
 bits:Nat
 bytes:List UInt8
def B2w:Nat→Nat→List UInt8
 | 0,_=>[]
 | k+1,n=>UInt8.ofNat n::B2w k (n / 256)
theorem B1t (k n:Nat):(B2w k n).length=k:=by
 induction k generalizing n with
 | zero=>rfl
 | succ k ih=>rw[B2w,List.length_cons,ih]
theorem D9n (base:Nat)(v:Value)(l:List UInt8)(num how:Int)(w:World)(hv:OwnB w base v l)(hb:base≤w.heap.size)(h1:0≤num)(h2:num≤536870912)(h3:0≤how)(h4:how≤7)(hl:l.length≤1000000) :
  Calls Tryz.prog 210 #[v,.int .i64 num,.int .i64 how] w fun e w'=>∃ v',e = .returned v'∧OwnB w' base v' (l++A6l (num.toNat*8+how.toNat))∧Below base w w':=by
 go_enter Tryz.func210,Tryz.ntmps210
 go_wp2_with fail
 rw[show num*8+how=((num.toNat*8+how.toNat:Nat):Int) by omega]
 refine(C1v base v l _ _ hv hb (by omega) hl).mono ?_
 rintro e w1 ⟨v1,rfl,ho,hbl⟩
 go_wp2
 go_ret
 exact⟨v1,rfl,ho,hbl⟩
theorem C1t (base:Nat)(v:Value)(l:List UInt8)(how:Int)(n:Nat)(w:World)(hv:OwnB w base v l)(hb:base≤w.heap.size)(hn:n≤18446744073709551615)(hl:l.length≤900000) :
  Calls Tryz.prog 151 #[v,.int .i64 how,.int .u64 (n:Int)] w fun e w'=>∃ v',e = .returned v'∧OwnB w' base v' (l++(if how=0 then A6l n else B2w (A2d how) n))∧Below base w w':=by
 by_cases h0:how=0
 ·rw[if_pos h0]
  subst h0
  go_enter Tryz.func151,Tryz.ntmps151
  go_wp2_with (go_at_call 208;refine(C1v base v l n _ hv hb hn (by omega)).mono ?_;rintro e w1 ⟨v1,rfl,ho,hbl⟩)
  go_ret
  exact⟨v1,rfl,ho,hbl⟩
 ·rw[if_neg h0]
  have b0:(how==0)=false:=beq_eq_false_iff_ne.2 h0
  obtain⟨W,HW⟩:∃ W,Hid (W=A2d how):=⟨_,rfl⟩
  have ah:W≤8:=by rw[HW.out];unfold A2d;split <;> (try split) <;> omega
  clear h0
  rw[←HW.out]
  go_enter Tryz.func151,Tryz.ntmps151
  go_wp2_with (go_at_call 209;refine(B0f how _).mono ?_;rintro e w1 ⟨rfl,rfl⟩;rw[←HW.out])
  go_loopw [0,2,14] (fun u n' i wr=>∃ (k m:Nat) (l':List UInt8),i = .int .i64 (k:Int)∧k≤W∧n' = .int .u64 (m:Int)∧m≤18446744073709551615∧l'.length=l.length+k∧OwnB wr base u l'∧Below base w wr∧base≤wr.heap.size∧Hid (l'++B2w (W-k) m=l++B2w W n))
   (fun _ _ i _=>W-(intOf i).toNat)
  case atStart=>exact⟨0,n,l,rfl,by omega,rfl,hn,rfl,hv,Below.refl _ _,hb,rfl⟩
  case round=>
   obtain⟨k,m,l',rfl,hk,rfl,hm,hlen,hown,ac,ag,HR⟩:=hrel
   by_cases hlt:k<W
   ·obtain⟨c,Hc⟩:∃ c,Hid (c=UInt8.ofNat m):=⟨_,rfl⟩
    go_wp2_with (at_builtin;refine A9a rfl _ _ rfl base _ l' c rfl (hown.alloc _) ⟨wr.heap.size,0,none⟩ rfl ?d1 ?d2 ?d3 ?_)
    case d1=>
     rw[Hc.out,UInt8.toNat_ofNat']
     simp
    case d2=>omega
    case d3=>simp;omega
    intro v' w2 h1 h2
    go_wp2
    go_roundw
    case rel=>
     refine⟨k+1,m / 256,l'++[c],by go_num,by omega,by go_num,by omega,by simp;omega,h1,(ac.alloc ag _).trans h2,by have:=h2.size;simp at this;omega,?_⟩
     show _=_
     rw[←HR.out,show W-k=W-(k+1)+1 by omega,B2w,List.append_assoc,Hc.out]
     rfl
    case measure=>simp[intOf];omega
   ·go_wp2
    go_ret
    refine⟨_,rfl,?_,ac⟩
    rw[←HR.out,show W-k=0 by omega,B2w,List.append_nil]
    exact hown
end Go.Proofs.YtgaoojpakjjdnaaGreatDoor
namespace Go.Proofs.YtgaoojpakjjdnaaGreatDoor
open Go.RowKit
def A1c (num how:Int)(bits len:Nat):Int:=
 if A1z how=false then 1
 else if how=2∧4000<len then 4
 else if num<1∨536870912≤num then 3
 else if how=5∧bits / 4294967296≠0 then 3
 else if how=2∧bits≠0 then 8
 else if how≠2∧0<len then 8
 else 0
theorem B5k {num how:Int}{bits len:Nat}(h:A1z how=false):A1c num how bits len=1:=by
 unfold A1c;rw[if_pos h]
theorem B2s {how:Int}(h:how=0∨how=1∨how=2∨how=5):¬ A1z how=false:=by rw[←A0s h];decide
end Go.Proofs.YtgaoojpakjjdnaaGreatDoor
namespace Go.Proofs.YtgaoojpakjjdnaaGreatDoor
open Go.RowKit
def B4e (how:Int)(bits:Nat)(l:List UInt8):List UInt8:=if how=2 then A6l l.length++l else if how=0 then A6l bits else B2w (A2d how) bits
def B7o (num how:Int)(bits:Nat)(l:List UInt8):List UInt8:=A6l (num.toNat*8+how.toNat)++B4e how bits l
theorem B1x (n:Nat):(A6l n).length≤10:=C3m 10 n
theorem OwnB.mono {w:World}{base base':Nat}{v:Value}{l:List UInt8}(h:OwnB w base v l)(hb:base'≤base):OwnB w base' v l:=by
 refine⟨h.1,?_⟩
 rcases h.2 with hn|⟨g,cap,cur,hv,hbg,r⟩
 ·exact .inl hn
 ·exact .inr ⟨g,cap,cur,hv,Nat.le_trans hb hbg,r⟩
theorem C8e (w:World)(a b c d:Value)(t:TypeId) :
  (w.alloc (.cells #[a,b,c,d] t)).cell? ⟨w.heap.size,0,none⟩=some a∧(w.alloc (.cells #[a,b,c,d] t)).cell? ⟨w.heap.size,1,none⟩=some b∧
  (w.alloc (.cells #[a,b,c,d] t)).cell? ⟨w.heap.size,2,none⟩=some c∧(w.alloc (.cells #[a,b,c,d] t)).cell? ⟨w.heap.size,3,none⟩=some d:=by
 refine⟨?_,?_,?_,?_⟩ <;> simp
theorem A7p (num how:Int)(bits:Nat)(ao:Option Addr)(len cap:Nat)(l:List UInt8)(w:World)(hb:bits≤18446744073709551615)(hr:RdA w ao len cap l)(hlen:len≤4000)
  (h1:0≤num) (h2:num≤536870912) (h3:0≤how) (h4:how≤7) :
  Calls Tryz.prog 153 #[.agg #[.int .i64 num,.int .i64 how,.int .u64 (bits:Int),.slice ao len cap]] w fun e w'=>∃ v',e = .returned v'∧OwnB w' w.heap.size v' (B7o num how bits l)∧Below w.heap.size w w':=by
 have HL:Hid (l.length=len):=hr.1
 go_enter Tryz.func153,Tryz.ntmps153
 go_wp2_with fail
 refine(D9n (w.heap.size+1) (.slice none 0 0) [] num how _ (OwnB.nil _ _) (by simp) h1 h2 h3 h4 (by simp)).mono ?_
 rintro e w1 ⟨v1,rfl,ho,hbl⟩
 obtain⟨_,d1,d2,d3⟩:=C8e w (.int .i64 num) (.int .i64 how) (.int .u64 (bits:Int)) (.slice ao len cap) 106
 have c1:=(hbl.cell (p:=⟨w.heap.size,1,none⟩) (by simp)).trans d1
 have c2:=(hbl.cell (p:=⟨w.heap.size,2,none⟩) (by simp)).trans d2
 have c3:=(hbl.cell (p:=⟨w.heap.size,3,none⟩) (by simp)).trans d3
 have hb0:Below w.heap.size w w1:=((Below.refl w.heap.size w).alloc (Nat.le_refl _) _).trans (hbl.mono (by omega))
 have hs1:w.heap.size+1≤w1.heap.size:=by have:=hbl.size;simpa using this
 clear d1 d2 d3 hbl
 by_cases hh:how=2
 ·have ht:B4e how bits l=A6l l.length++l:=by unfold B4e;rw[if_pos hh]
  have HT:Hid (B7o num how bits l=A6l (num.toNat*8+how.toNat)++(A6l l.length++l)):=by show _=_;rw[B7o,ht]
  clear ht
  rw[hh] at c1
  have ak:Hid (how=2):=hh
  clear hh
  go_wp2_with fail
  refine(C1v (w.heap.size+1) v1 _ len w1 ho hs1 (by omega) (by simp;have:=B1x (num.toNat*8+how.toNat);omega)).mono ?_
  rintro e w2 ⟨v2,rfl,ah,ac⟩
  have e3:=(ac.cell (p:=⟨w.heap.size,3,none⟩) (by simp)).trans c3
  have hr2:=hr.later (hb0.trans (ac.mono (by omega)))
  have hs2:w.heap.size+1≤w2.heap.size:=by have:=ac.size;omega
  clear c1 c2 c3
  go_wp2_with (at_builtin;refine A1s rfl _ _ rfl (w.heap.size+1) _ _ l rfl ah ao len cap rfl hr2 ?e1 hs2 ?_)
  case e1=>
   have:=B1x (num.toNat*8+how.toNat)
   have:=B1x len
   have:=HL.out
   simp
   omega
  intro v3 w3 aj ag
  go_wp2
  go_ret
  refine⟨v3,rfl,?_,(hb0.trans (ac.mono (by omega))).trans (ag.mono (by omega))⟩
  rw[HT.out,HL.out]
  have:=aj.mono (show w.heap.size≤w.heap.size+1 by omega)
  simpa using this
 ·have ht:B4e how bits l=if how=0 then A6l bits else B2w (A2d how) bits:=by unfold B4e;rw[if_neg hh]
  have HT:Hid (B7o num how bits l=A6l (num.toNat*8+how.toNat)++(if how=0 then A6l bits else B2w (A2d how) bits)):=by show _=_;rw[B7o,ht]
  clear ht
  have b2:(how==2)=false:=beq_eq_false_iff_ne.2 hh
  go_wp2_with fail
  refine(C1t (w.heap.size+1) v1 _ how bits w1 ho hs1 hb (by simp;have:=B1x (num.toNat*8+how.toNat);omega)).mono ?_
  rintro e w2 ⟨v2,rfl,ah,ac⟩
  go_wp2
  go_ret
  refine⟨v2,rfl,?_,hb0.trans (ac.mono (by omega))⟩
  rw[HT.out]
  exact ah.mono (by omega)
end Go.Proofs.YtgaoojpakjjdnaaGreatDoor
namespace Go.Proofs.YtgaoojpakjjdnaaGreatDoor
open Go.RowKit
def Rcd.wf (r:Rcd):Prop:=-9223372036854775808≤r.num∧r.num≤9223372036854775807∧-9223372036854775808≤r.how∧r.how≤9223372036854775807∧r.bits≤18446744073709551615
def RecAt (w:World)(x:Addr)(r:Rcd):Prop:=
 ∃ ao len cap,w.cell? x=some (.int .i64 r.num)∧w.cell? (x.add 1)=some (.int .i64 r.how)∧w.cell? (x.add 2)=some (.int .u64 (r.bits:Int))∧w.cell? (x.add 3)=some (.slice ao len cap)∧RdA w ao len cap r.bytes
def RdR (w:World)(ao:Option Addr)(len cap:Nat)(rs:List Rcd):Prop:=
 rs.length=len∧len≤cap∧cap≤maxLen∧(ao=none→cap=0)∧(∀ r∈rs,r.wf)∧∀ x,ao=some x→∀ i r,rs[i]?=some r→RecAt w (x.add (i*4)) r
theorem RecAt.later {w w':World}{x:Addr}{r:Rcd}(h:RecAt w x r)(hb:Below w.heap.size w w'):RecAt w' x r:=by
 obtain⟨ao,len,cap,h1,h2,h3,h4,h5⟩:=h
 refine⟨ao,len,cap,?_,?_,?_,?_,h5.later hb⟩
 ·rw[hb.cell (World.block_lt_of_cell? w _ h1)];exact h1
 ·rw[hb.cell (World.block_lt_of_cell? w _ h2)];exact h2
 ·rw[hb.cell (World.block_lt_of_cell? w _ h3)];exact h3
 ·rw[hb.cell (World.block_lt_of_cell? w _ h4)];exact h4
theorem RdR.later {w w':World}{ao:Option Addr}{len cap:Nat}{rs:List Rcd}(h:RdR w ao len cap rs)(hb:Below w.heap.size w w'):RdR w' ao len cap rs:=
 ⟨h.1,h.2.1,h.2.2.1,h.2.2.2.1,h.2.2.2.2.1,fun x hx i r hr=>(h.2.2.2.2.2 x hx i r hr).later hb⟩
theorem RdR.at {w:World}{ao:Option Addr}{len cap:Nat}{rs:List Rcd}(h:RdR w ao len cap rs)(hp:0<len) :
  ∃ b off,ao=some ⟨b,off,none⟩∧b<w.heap.size∧∀ i r,rs[i]?=some r→∃ ao len cap,w.cell? ⟨b,off+i*4,none⟩=some (.int .i64 r.num)∧w.cell? ⟨b,off+i*4+1,none⟩=some (.int .i64 r.how)∧w.cell? ⟨b,off+i*4+2,none⟩=some (.int .u64 (r.bits:Int))∧w.cell? ⟨b,off+i*4+3,none⟩=some (.slice ao len cap)∧RdA w ao len cap r.bytes:=by
 obtain⟨h1,h2,h3,h4,h5,h6⟩:=h
 cases ao with
 | none=>have:=h4 rfl;omega
 | some x=>
  obtain⟨b,off,spot⟩:=x
  have h0:∃ r,rs[0]?=some r:=⟨rs[0]'(by omega),List.getElem?_eq_getElem (by omega)⟩
  obtain⟨r0,ac⟩:=h0
  obtain⟨_,_,_,hc,_⟩:=h6 _ rfl 0 r0 ac
  have hspot:spot=none:=by simpa [Addr.add] using World.cell?_spot hc
  subst hspot
  refine⟨b,off,rfl,?_,?_⟩
  ·have:=World.block_lt_of_cell? w _ hc
   simpa [Addr.add] using this
  ·intro i r hr
   have e:∀ b o i,(⟨b,o,none⟩:Addr).add i=⟨b,o+i,none⟩:=by intro b o i;unfold Addr.add;split <;> simp_all
   obtain⟨ao,len,cap,g1,g2,g3,g4,g5⟩:=h6 _ rfl i r hr
   simp only[e] at g1 g2 g3 g4
   exact⟨ao,len,cap,g1,g2,g3,g4,g5⟩
def A7c:Nat→List UInt8→List Rcd→List UInt8×Int×Nat
 | _,acc,[]=>(acc,0,0)
 | i,acc,r::rest=>
  if A1c r.num r.how r.bits r.bytes.length≠0 then([],A1c r.num r.how r.bits r.bytes.length,i)
  else if 4000<(acc++B7o r.num r.how r.bits r.bytes).length then([],4,i)
  else A7c (i+1) (acc++B7o r.num r.how r.bits r.bytes) rest
theorem B3z {h:Int}(k:¬ A1z h=false):h=0∨h=1∨h=2∨h=5:=by
 rcases Decidable.em (h=0∨h=1∨h=2∨h=5) with g|g
 ·exact g
 ·exact absurd (A7h g).symm k
theorem D6r {num how:Int}{bits len:Nat}(h:0=A1c num how bits len) :
  (how=0∨how=1∨how=2∨how=5)∧1≤num∧num<536870912∧len≤4000∧(how=5→bits<4294967296)∧(how=2→bits=0)∧(how≠2→len=0):=by
 unfold A1c at h
 split at h
 ·cases h
 ·rename_i hk
  have hh:=B3z hk
  split at h
  ·cases h
  ·split at h
   ·cases h
   ·split at h
    ·cases h
    ·split at h
     ·cases h
     ·split at h
      ·cases h
      ·refine⟨hh,by omega,by omega,by omega,by omega,by omega,by omega⟩
end Go.Proofs.YtgaoojpakjjdnaaGreatDoor
namespace Go.Proofs.YtgaoojpakjjdnaaGreatDoor
open Go.RowKit
theorem B5z (w:World)(a:Option Addr)(l c:Nat):(binOp .eql 32 (.slice a l c) (.slice none 0 0)).run Tryz.prog w = .ok (.bool a.isNone) w:=
 run_eql_slice_nil w 32 5 a l c Tryz.underlying32
theorem OwnB.made (w:World){base:Nat}(hb:base≤w.heap.size):OwnB (w.alloc (.cells #[] 5)) base (.slice (some ⟨w.heap.size,0,none⟩) 0 0) []:=
 World.ownsRow_made w #[] 0 hb (by unfold maxLen;omega) rfl
theorem C5c (ao:Option Addr)(len cap:Nat)(m:List UInt8)(w:World)(hr:RdA w ao len cap m)(hlen:len≤1000000) :
  Calls Tryz.prog 77 #[.slice ao len cap] w fun e w'=>∃ v',e = .returned v'∧OwnB w' w.heap.size v' m∧Below w.heap.size w w':=by
 have he:=B5z
 cases ao with
 | none=>
  have hm:m = []:=List.eq_nil_of_length_eq_zero (by have:=hr.1;have:=hr.2.1;have:=hr.2.2.2.1 rfl;omega)
  subst hm
  go_enter Tryz.func77,Tryz.ntmps77
  go_wp2
  go_ret
  exact⟨_,rfl,OwnB.nil _ _,Below.refl _ _⟩
 | some x=>
  have hb0:∀ o,Below w.heap.size w (w.alloc o):=fun o=>(Below.refl w.heap.size w).alloc (Nat.le_refl _) o
  have HL:Hid (m.length=len):=hr.1
  have hr1:RdA (w.alloc (.cells #[] 5)) (some x) len cap m:=hr.later (hb0 _)
  go_enter Tryz.func77,Tryz.ntmps77
  go_wp2_with (at_builtin;refine A1s rfl _ _ rfl w.heap.size _ [] m rfl (OwnB.made w (Nat.le_refl _)) (some x) len cap rfl hr1 ?e1 ?e2 ?_)
  case e1=>have:=HL.out;simp;omega
  case e2=>simp
  intro v2 w2 ag ac
  go_wp2
  go_ret
  exact⟨v2,rfl,ag,(hb0 _).trans ac⟩
theorem B5p (x:Addr)(a b:Nat):(x.add a).add b=x.add (a+b):=by
 unfold Addr.add
 split <;> split <;> simp_all <;> omega
theorem RdA.drop {w:World}{ao:Option Addr}{len cap:Nat}{l:List UInt8}(h:RdA w ao len cap l){k:Nat}(hk:k≤len) :
  RdA w (if cap=k then ao else ao.map (·.add k)) (len-k) (cap-k) (l.drop k):=by
 obtain⟨h1,h2,h3,h4,h5⟩:=h
 refine⟨by simp[h1],by omega,by omega,?_,?_⟩
 ·intro hn
  split at hn
  ·omega
  ·have:ao=none:=by simpa using hn
   have:=h4 this
   omega
 ·intro x hx i hi
  rw[if_neg (by omega)] at hx
  cases ao with
  | none=>cases hx
  | some y=>
   simp at hx
   subst hx
   rw[B5p]
   have:=h5 y rfl (k+i) (by omega)
   rw[this]
   simp[List.getElem?_drop]
theorem RdA.take {w:World}{ao:Option Addr}{len cap:Nat}{l:List UInt8}(h:RdA w ao len cap l){k:Nat}(hk:k≤len) :
  RdA w ao k cap (l.take k):=by
 obtain⟨h1,h2,h3,h4,h5⟩:=h
 refine⟨by simp;omega,by omega,h3,h4,?_⟩
 intro x hx i hi
 rw[h5 x hx i (by omega)]
 simp[hi]
theorem D8m (l:List UInt8):∀ (i acc:Nat),acc<2 ^ (7*i)→i≤9→
  (A5o i acc l).1≤18446744073709551615∧(A5o i acc l).2.1≤i+l.length∧(A5o i acc l).2.1≤10∧((A5o i acc l).2.2=0∨(A5o i acc l).2.2=2∨(A5o i acc l).2.2=3)∧((A5o i acc l).2.2=0→i+1≤(A5o i acc l).2.1):=by
 induction l with
 | nil=>intro i acc _ _;rw[A5o];exact⟨by simp,by simp,by simp,.inr (.inl rfl),by simp⟩
 | cons x r ih=>
  intro i acc ac hi
  rw[A5o]
  split
  ·exact⟨by simp,by simp,by simp,.inr (.inr rfl),by simp⟩
  ·rename_i h9
   have hx:x.toNat<256:=UInt8.toNat_lt _
   have hb:acc+x.toNat%128*2 ^ (7*i)≤18446744073709551615:=by
    by_cases h:i≤8
    ·have h1:=E2v h
     have h2:x.toNat%128*2 ^ (7*i)≤127*2 ^ (7*i):=Nat.mul_le_mul_right _ (by omega)
     omega
    ·have ag:i=9:=by omega
     subst ag
     rw[show 2 ^ (7*9)=9223372036854775808 from rfl] at ac ⊢
     omega
   split
   ·exact⟨hb,by simp,by simp;omega,.inl rfl,by simp⟩
   ·have ah:i≠9:=by intro e;apply h9;exact⟨e,by omega⟩
    obtain⟨a,b,c,d,e⟩:=ih (i+1) _ (D1p ac) (by omega)
    exact⟨a,by simp;omega,c,d,fun h=>by have:=e h;omega⟩
theorem A8e {l:List UInt8}{N K E:Nat}(h:A5o 0 0 l=(N,K,E)):N≤18446744073709551615∧K≤l.length∧K≤10∧(E=0∨E=2∨E=3)∧(E=0→1≤K):=by
 have:=D8m l 0 0 (by decide) (by omega)
 rw[h] at this
 simpa using this
theorem C9b {ao:Option Addr}{len cap:Nat}{l:List UInt8}{w:World}(hr:RdA w ao len cap l){N K E:Nat}(h:A5o 0 0 l=(N,K,E)) :
  Calls Tryz.prog 217 #[.slice ao len cap] w fun e w'=>e = .returned (.tuple #[.int .u64 (N:Int),.int .i64 (K:Int),.int .i64 (E:Int)])∧w=w':=by
 have:=B6e ao len cap l w hr
 rw[h] at this
 exact this
theorem A7f {a b c d a' b' c' d':Nat}(e:(a,b,c,d)=(a',b',c',d')):a=a'∧b=b'∧c=c'∧d=d':=by simpa using e
def B9s (N K E:Nat):Nat×Nat×Nat×Nat:=
 if E≠0 then(0,0,0,E)
 else if N / 8<1∨536870912≤N / 8 then(0,0,0,3)
 else if A1z ((N%8:Nat):Int)=false then(0,0,0,1)
 else(N / 8,N%8,K,0)
def C2b (l:List UInt8):Nat×Nat×Nat×Nat:=B9s (A5o 0 0 l).1 (A5o 0 0 l).2.1 (A5o 0 0 l).2.2
theorem C9a {ao:Option Addr}{len cap:Nat}{l:List UInt8}{w:World}(hr:RdA w ao len cap l){A B C D:Nat}(h:C2b l=(A,B,C,D)) :
  Calls Tryz.prog 175 #[.slice ao len cap] w fun e w'=>e = .returned (.tuple #[.int .i64 (A:Int),.int .i64 (B:Int),.int .i64 (C:Int),.int .i64 (D:Int)])∧w=w':=by
 obtain⟨N,K,E,Hg⟩:∃ N K E,Hid (A5o 0 0 l=(N,K,E)):=⟨_,_,_,rfl⟩
 obtain⟨b1,b2,b3,b4,b5⟩:=A8e Hg.out
 have HT:Hid (B9s N K E=(A,B,C,D)):=by show _=_;rw[←h,C2b,Hg.out]
 clear h
 go_enter Tryz.func175,Tryz.ntmps175
 go_wp2_with fail
 refine(C9b hr Hg.out).mono ?_
 rintro e w1 ⟨rfl,rfl⟩
 by_cases h0:E=0
 ·have ag:((E:Int) != 0)=false:=by simp[h0]
  by_cases h1:N / 8<1∨536870912≤N / 8
  ·obtain⟨rfl,rfl,rfl,rfl⟩:=A7f (show(0,0,0,3)=(A,B,C,D) by rw[←HT.out,B9s,if_neg (by omega),if_pos h1])
   clear HT h0
   rcases h1 with h1|h1
   rotate_right
   focus
    have ac:1≤(N:Int) / 8:=by omega
    have ah:536870912≤(N:Int) / 8:=by omega
   rotate_right
   focus
    have ac:(N:Int) / 8<1:=by omega
   all_goals
    clear h1
    go_wp2
    refine bodyPost_ret (v:=.tuple #[.int .i64 0,.int .i64 0,.int .i64 0,.int .i64 3]) (by simp[results,Tryz.results175,go_sem]) rfl ⟨rfl,rfl⟩
  ·obtain⟨Q,HQ⟩:∃ Q,Hid (Q=N / 8):=⟨_,rfl⟩
   obtain⟨M,HM⟩:∃ M,Hid (M=N%8):=⟨_,rfl⟩
   have q1:1≤Q:=by have:=HQ.out;omega
   have q2:Q<536870912:=by have:=HQ.out;omega
   have q3:M<8:=by have:=HM.out;omega
   have q4:(N:Int) / 8=(Q:Int):=by have:=HQ.out;omega
   have q5:(N:Int)%8=(M:Int):=by have:=HM.out;omega
   by_cases h3:A1z (M:Int)=false
   ·obtain⟨rfl,rfl,rfl,rfl⟩:=A7f (show(0,0,0,1)=(A,B,C,D) by rw[←HT.out,B9s,if_neg (by omega),if_neg h1,if_pos (by rw[←HM.out];exact h3)])
    clear HT h0 h1 b1 b2 b3 b4 b5 HM HQ
    have H3:Hid (A1z (M:Int)=false):=h3
    clear h3
    go_wp2_with fail
    refine(A0z _ _).mono ?_
    rintro e w1 ⟨rfl,rfl⟩
    rw[H3.out]
    go_wp2
    refine bodyPost_ret (v:=.tuple #[.int .i64 0,.int .i64 0,.int .i64 0,.int .i64 1]) (by simp[results,Tryz.results175,go_sem]) rfl ⟨rfl,rfl⟩
   ·obtain⟨rfl,rfl,rfl,rfl⟩:=A7f (show(Q,M,K,0)=(A,B,C,D) by rw[←HT.out,B9s,if_neg (by omega),if_neg h1,if_neg (by rw[←HM.out];exact h3),HQ.out,HM.out])
    clear HT h0 h1 b1 b2 b3 b4 b5 HM HQ
    have H3:Hid (A1z (M:Int)=true):=by show _=_;simpa using h3
    clear h3
    go_wp2_with fail
    refine(A0z _ _).mono ?_
    rintro e w1 ⟨rfl,rfl⟩
    rw[H3.out]
    go_wp2
    refine bodyPost_ret (v:=.tuple #[.int .i64 (Q:Int),.int .i64 (M:Int),.int .i64 (K:Int),.int .i64 0]) (by simp[results,Tryz.results175,go_sem]) rfl ⟨rfl,rfl⟩
 ·have ag:((E:Int) != 0)=true:=by rw[bne_iff_ne];omega
  obtain⟨rfl,rfl,rfl,rfl⟩:=A7f (show(0,0,0,E)=(A,B,C,D) by rw[←HT.out,B9s,if_pos h0])
  clear h0 HT
  go_wp2
  refine bodyPost_ret (v:=.tuple #[.int .i64 0,.int .i64 0,.int .i64 0,.int .i64 (E:Int)]) (by simp[results,Tryz.results175,go_sem]) rfl ⟨rfl,rfl⟩
end Go.Proofs.YtgaoojpakjjdnaaGreatDoor
namespace Go.Proofs.YtgaoojpakjjdnaaGreatDoor
open Go.RowKit
def A8y (l:List UInt8)(N K E:Nat):List UInt8×Nat×Nat:=
 if E≠0 then([],0,E)
 else if l.length-K<N then([],0,2)
 else((l.drop K).take N,K+N,0)
def A6j (l:List UInt8):List UInt8×Nat×Nat:=A8y l (A5o 0 0 l).1 (A5o 0 0 l).2.1 (A5o 0 0 l).2.2
theorem A0t {α:Type}{a a' : α}{b c b' c':Nat}(e:(a,b,c)=(a',b',c')):a=a'∧b=b'∧c=c':=by simpa using e
theorem A8i {w:World}{ao:Option Addr}{len cap:Nat}{l:List UInt8}(hr:RdA w ao len cap l){k:Nat}(hk:k≤len)(kd:IntKind) :
  ∃ ac,(∀ w,(Instr.slice 32 (.slice ao len cap) (some (.int kd (k:Int))) none none).run Tryz.prog w = .ok (.slice ac (len-k) (cap-k)) w)∧RdA w ac (len-k) (cap-k) (l.drop k):=by
 refine⟨_,?_,hr.drop hk⟩
 intro w
 have:=run_slice_l (P:=Tryz.prog) (w:=w) 32 ao len cap Tryz.underlying32 kd (k:Int) (by omega) (by omega)
 rw[this]
 have e1:(sizeOf (Tryz.prog.elem 32)).run Tryz.prog w = .ok 1 w:=by rfl
 rw[e1]
 simp[Result.andThen,sliced]
theorem C3y {w:World}{ao:Option Addr}{len cap:Nat}{l:List UInt8}(hr:RdA w ao len cap l){k:Nat}(hk:k≤len)(kd:IntKind) :
  (∀ w,(Instr.slice 32 (.slice ao len cap) none (some (.int kd (k:Int))) none).run Tryz.prog w = .ok (.slice ao k cap) w)∧RdA w ao k cap (l.take k):=by
 refine⟨?_,hr.take hk⟩
 intro w
 have hc:=hr.2.1
 have:=run_slice_h (P:=Tryz.prog) (w:=w) 32 ao len cap Tryz.underlying32 kd (k:Int) (by omega) (by omega)
 rw[this]
 have e1:(sizeOf (Tryz.prog.elem 32)).run Tryz.prog w = .ok 1 w:=by rfl
 rw[e1]
 have e2:ao.map (fun x=>x.add 0)=ao:=by cases ao <;> rfl
 simp[Result.andThen,sliced,e2]
theorem C0x {ao:Option Addr}{len cap:Nat}{l:List UInt8}{w:World}(hr:RdA w ao len cap l)(hlen:len≤4000){A:List UInt8}{B C:Nat}(h:A6j l=(A,B,C)) :
  Calls Tryz.prog 176 #[.slice ao len cap] w fun e w'=>∃ v',e = .returned (.tuple #[v',.int .i64 (B:Int),.int .i64 (C:Int)])∧OwnB w' w.heap.size v' A∧Below w.heap.size w w':=by
 obtain⟨N,K,E,Hg⟩:∃ N K E,Hid (A5o 0 0 l=(N,K,E)):=⟨_,_,_,rfl⟩
 obtain⟨b1,b2,b3,b4,b5⟩:=A8e Hg.out
 have HT:Hid (A8y l N K E=(A,B,C)):=by show _=_;rw[←h,A6j,Hg.out]
 have HL:Hid (l.length=len):=hr.1
 have ah:K≤len:=by rw[←HL.out];exact b2
 have au:len≤cap:=hr.2.1
 have hcm:cap≤9223372036854775807:=by have:=hr.2.2.1;unfold maxLen at this;omega
 clear h b2
 go_enter Tryz.func176,Tryz.ntmps176
 go_wp2_with fail
 refine(C9b hr Hg.out).mono ?_
 rintro e w1 ⟨rfl,rfl⟩
 by_cases h0:E=0
 ·have ag:((E:Int) != 0)=false:=by simp[h0]
  obtain⟨ak,aw,aj⟩:=A8i hr ah .i64
  by_cases h1:len-K<N
  ·obtain⟨rfl,rfl,rfl⟩:=A0t (show([],0,2)=(A,B,C) by rw[←HT.out,A8y,if_neg (by omega),if_pos (by rw[HL.out];exact h1)])
   clear HT h0
   have ac:((len-K:Nat):Int)<(N:Int):=by omega
   go_wp2
   go_ret3
   exact⟨_,rfl,OwnB.nil _ _,Below.refl _ _⟩
  ·obtain⟨rfl,rfl,rfl⟩:=A0t (show((l.drop K).take N,K+N,0)=(A,B,C) by rw[←HT.out,A8y,if_neg (by omega),if_neg (by rw[HL.out];exact h1)])
   clear HT h0
   have ac:(N:Int)≤((len-K:Nat):Int):=by omega
   obtain⟨hst,hrt⟩:=C3y aj (show N≤len-K by omega) .u64
   go_wp2_with fail
   refine(C5c _ _ _ _ _ hrt (by omega)).mono ?_
   rintro e w2 ⟨v2,rfl,ho,hbl⟩
   go_wp2
   go_ret3
   exact⟨v2,rfl,ho,hbl⟩
 ·have ag:((E:Int) != 0)=true:=by rw[bne_iff_ne];omega
  obtain⟨rfl,rfl,rfl⟩:=A0t (show([],0,E)=(A,B,C) by rw[←HT.out,A8y,if_pos h0])
  clear h0 HT
  go_wp2
  go_ret3
  exact⟨_,rfl,OwnB.nil _ _,Below.refl _ _⟩
def A7g:List UInt8→Nat
 | []=>0
 | c::r=>c.toNat+256*A7g r
theorem C2u (l:List UInt8):A7g l<2 ^ (8*l.length):=by
 induction l with
 | nil=>simp[A7g]
 | cons c r ih=>
  rw[A7g,List.length_cons,show 8*(r.length+1)=8*r.length+8 by omega,Nat.pow_add]
  have:c.toNat<256:=UInt8.toNat_lt _
  have e:(2:Nat) ^ 8=256:=rfl
  omega
theorem C5r (l:List UInt8)(c:UInt8):A7g (l++[c])=A7g l+c.toNat*2 ^ (8*l.length):=by
 induction l with
 | nil=>simp[A7g]
 | cons a r ih=>
  rw[List.cons_append,A7g,ih,A7g,List.length_cons,show 8*(r.length+1)=8*r.length+8 by omega,Nat.pow_add]
  have e:(2:Nat) ^ 8=256:=rfl
  rw[e]
  generalize 2 ^ (8*r.length)=p
  rw[←Nat.mul_assoc c.toNat p 256,Nat.mul_comm (c.toNat*p) 256,Nat.mul_add]
  omega
theorem C9e {l:List UInt8}{k W X:Nat}(hk:k<l.length)(hW:k<W)(hX:X=((l.take W).getD k 0).toNat):A7g (l.take (k+1))=A7g (l.take k)+X*2 ^ (8*k):=by
 rw[List.take_succ_eq_append_getElem hk,C5r,List.length_take,Nat.min_eq_left (by omega),hX]
 simp[hW,hk]
theorem D8p {l:List UInt8}{k:Nat}(hk:k≤l.length):A7g (l.take k)<2 ^ (8*k):=by
 have:=C2u (l.take k)
 rwa [List.length_take,Nat.min_eq_left hk] at this
theorem E2c {k acc X:Nat}(hk:k≤7)(ac:acc<2 ^ (8*k))(hX:X<256) :
  bits BinOp.or IntKind.u64 (acc:Int) (IntKind.u64.wrap ((X:Int)*2 ^ (8*k)))=((acc+X*2 ^ (8*k):Nat):Int):=by
 have hp:2 ^ (8*k)≤2 ^ 56:=Nat.pow_le_pow_right (by decide) (by omega)
 have hb:X*2 ^ (8*k)<2 ^ 64:=by
  have h2:X*2 ^ (8*k)≤255*2 ^ (8*k):=Nat.mul_le_mul_right _ (by omega)
  omega
 have e:((X:Int)*2 ^ (8*k))=((X*2 ^ (8*k):Nat):Int):=by simp
 rw[e,B3t _ (by omega) (by exact_mod_cast hb)]
 exact D7g (8*k) acc _ ac (by omega) (Nat.mul_mod_left _ _) hb
def A3q (l:List UInt8)(how:Int):Nat×Nat×Nat:=
 if how=0 then A5o 0 0 l
 else if l.length<A2d how then(0,0,2)
 else(A7g (l.take (A2d how)),A2d how,0)
theorem B4s {ao:Option Addr}{len cap:Nat}{l:List UInt8}{w:World}(hr:RdA w ao len cap l)(how:Int){A B C:Nat}(h:A3q l how=(A,B,C)) :
  Calls Tryz.prog 177 #[.slice ao len cap,.int .i64 how] w fun e w'=>e = .returned (.tuple #[.int .u64 (A:Int),.int .i64 (B:Int),.int .i64 (C:Int)])∧w=w':=by
 have HL:Hid (l.length=len):=hr.1
 have hlc:len≤cap:=hr.2.1
 have hcm:cap≤9223372036854775807:=by have:=hr.2.2.1;unfold maxLen at this;omega
 by_cases h0:how=0
 ·subst h0
  rw[A3q,if_pos rfl] at h
  have Hh:Hid (A5o 0 0 l=(A,B,C)):=h
  clear h
  go_enter Tryz.func177,Tryz.ntmps177
  go_wp2_with fail
  refine(C9b hr Hh.out).mono ?_
  rintro e w1 ⟨rfl,rfl⟩
  go_wp2
  go_ret3
  exact⟨rfl,rfl⟩
 ·have b0:(how==0)=false:=beq_eq_false_iff_ne.2 h0
  rw[A3q,if_neg h0] at h
  obtain⟨W,HW⟩:∃ W,Hid (A2d how=W):=⟨_,rfl⟩
  have ah:W≤8:=by rw[←HW.out];unfold A2d;split <;> (try split) <;> omega
  rw[HW.out,HL.out] at h
  clear h0
  by_cases h1:len<W
  ·rw[if_pos h1] at h
   obtain⟨rfl,rfl,rfl⟩:=A0t h
   clear h
   go_enter Tryz.func177,Tryz.ntmps177
   go_wp2_with (go_at_call 209;refine(B0f how _).mono ?_;rintro e w1 ⟨rfl,rfl⟩;rw[HW.out])
   go_ret3
   exact⟨rfl,rfl⟩
  ·rw[if_neg h1] at h
   obtain⟨rfl,rfl,rfl⟩:=A0t h
   clear h
   obtain⟨hst,hrt⟩:=C3y hr (show W≤len by omega) .i64
   by_cases hp:0<W
   ·obtain⟨b,off,rfl,aj,hcell⟩:=hrt.at hp
    go_enter Tryz.func177,Tryz.ntmps177
    go_wp2_with (go_at_call 209;refine(B0f how _).mono ?_;rintro e w1 ⟨rfl,rfl⟩;rw[HW.out])
    go_loop [8,28] (fun a i=>∃ k acc:Nat,k≤W∧i = .int .i64 k∧a = .int .u64 acc∧Hid (acc=A7g (l.take k))) (fun _ i=>W-(intOf i).toNat)
    case atStart=>exact⟨0,0,Nat.zero_le _,rfl,rfl,rfl⟩
    case round=>
     obtain⟨k,acc,hk,rfl,rfl,HR⟩:=hrel
     by_cases hlt:k<W
     ·obtain⟨X,HX⟩:∃ X:Nat,Hid (X=((l.take W).getD k 0).toNat):=⟨_,rfl⟩
      have hc:w.cell? ⟨b,off+k,none⟩=some (.int .u8 (X:Int)):=by rw[HX.out];exact hcell k hlt
      have hX:X<256:=by rw[HX.out];exact UInt8.toNat_lt _
      clear hcell
      go_wp2
      go_round
      case rel=>
       have ag:k<l.length:=by rw[HL.out];omega
       refine⟨k+1,acc+X*2 ^ (8*k),by omega,by go_num,congrArg (Value.int .u64) (E2c (by omega) (by rw[HR.out];exact D8p (by omega)) hX),?_⟩
       show _=_
       rw[C9e ag hlt HX.out,HR.out]
      case measure=>simp[intOf];omega
     ·go_wp2
      go_ret3
      have ac:k=W:=by omega
      exact⟨E2a (by rw[HR.out,ac]) rfl rfl,rfl⟩
   ·have hW0:W=0:=by omega
    subst hW0
    go_enter Tryz.func177,Tryz.ntmps177
    go_wp2_with (go_at_call 209;refine(B0f how _).mono ?_;rintro e w1 ⟨rfl,rfl⟩;rw[HW.out])
    refine wp_loop_rounds 1 ?_
    rw[rounds_succ]
    go_wp2
    go_ret3
    exact⟨rfl,rfl⟩
end Go.Proofs.YtgaoojpakjjdnaaGreatDoor
