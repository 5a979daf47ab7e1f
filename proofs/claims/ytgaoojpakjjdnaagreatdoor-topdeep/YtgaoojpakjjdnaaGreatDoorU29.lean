import Derived.Test.YtgaoojpakjjdnaaGreatDoorU28
import Derived.Lib.LazyBuf
set_option maxHeartbeats 32000000
set_option maxRecDepth 100000
namespace Go.Proofs.YtgaoojpakjjdnaaGreatDoor
open Go.RowKit
def Rcd.wf (r:Rcd):Prop:=-9223372036854775808≤r.num∧r.num≤9223372036854775807∧-9223372036854775808≤r.how∧r.how≤9223372036854775807∧r.bits≤18446744073709551615
def RecAt (w:World) (x:Addr) (r:Rcd):Prop:=
 ∃ ao len cap,w.cell? x=some (.int .i64 r.num)∧w.cell? (x.add 1)=some (.int .i64 r.how)∧w.cell? (x.add 2)=some (.int .u64 (r.bits:Int))∧w.cell? (x.add 3)=some (.slice ao len cap)∧RdA w ao len cap r.bytes
def RdR (w:World) (ao:Option Addr) (len cap:Nat) (rs:List Rcd):Prop:=
 rs.length=len∧len≤cap∧cap≤maxLen∧(ao=none→cap=0)∧(∀ r∈rs,r.wf)∧∀ x,ao=some x→∀ i r,rs[i]?=some r→RecAt w (x.add (i*4)) r
theorem RecAt.later {w w':World}{x:Addr}{r:Rcd}(h:RecAt w x r) (hb:Below w.heap.size w w'):RecAt w' x r:=by
 obtain⟨ao,len,cap,h1,h2,h3,h4,h5⟩:=h
 refine⟨ao,len,cap,?_,?_,?_,?_,h5.later hb⟩
 ·rw[hb.cell (World.block_lt_of_cell? w _ h1)];exact h1
 ·rw[hb.cell (World.block_lt_of_cell? w _ h2)];exact h2
 ·rw[hb.cell (World.block_lt_of_cell? w _ h3)];exact h3
 ·rw[hb.cell (World.block_lt_of_cell? w _ h4)];exact h4
theorem RdR.later {w w':World}{ao:Option Addr}{len cap:Nat}{rs:List Rcd}(h:RdR w ao len cap rs) (hb:Below w.heap.size w w'):RdR w' ao len cap rs:=
 ⟨h.1,h.2.1,h.2.2.1,h.2.2.2.1,h.2.2.2.2.1,fun x hx i r hr=>(h.2.2.2.2.2 x hx i r hr).later hb⟩
theorem RdR.at {w:World}{ao:Option Addr}{len cap:Nat}{rs:List Rcd}(h:RdR w ao len cap rs) (hp:0 < len) :
  ∃ b off,ao=some ⟨b,off,none⟩∧b < w.heap.size∧∀ i r,rs[i]?=some r→∃ ao len cap,w.cell? ⟨b,off+i*4,none⟩=some (.int .i64 r.num)∧w.cell? ⟨b,off+i*4+1,none⟩=some (.int .i64 r.how)∧w.cell? ⟨b,off+i*4+2,none⟩=some (.int .u64 (r.bits:Int))∧w.cell? ⟨b,off+i*4+3,none⟩=some (.slice ao len cap)∧RdA w ao len cap r.bytes:=by
 obtain⟨h1,h2,h3,h4,h5,h6⟩:=h
 cases ao with
 | none=>have:=h4 rfl;omega
 | some x=>
  obtain⟨b,off,spot⟩:=x
  have h0:∃ r,rs[0]?=some r:=⟨rs[0]'(by omega),List.getElem?_eq_getElem (by omega)⟩
  obtain⟨r0,ac⟩:=h0
  obtain⟨_,_,_,hc,_⟩:=h6 _ rfl 0 r0 ac
  have hspot:spot=none:=by simpa [Addr.add] using World.cell?_spot hc
  subst hspot
  refine⟨b,off,rfl,?_,?_⟩
  ·have:=World.block_lt_of_cell? w _ hc
   simpa [Addr.add] using this
  ·intro i r hr
   have e:∀ b o i,(⟨b,o,none⟩:Addr).add i=⟨b,o+i,none⟩:=by intro b o i;unfold Addr.add;split <;> simp_all
   obtain⟨ao,len,cap,g1,g2,g3,g4,g5⟩:=h6 _ rfl i r hr
   simp only[e] at g1 g2 g3 g4
   exact⟨ao,len,cap,g1,g2,g3,g4,g5⟩
def A2f:Nat→List UInt8→List Rcd→List UInt8×Int×Nat
 | _,acc,[]=>(acc,0,0)
 | i,acc,r::rest=>
  if A1i r.num r.how r.bits r.bytes.length≠0 then([],A1i r.num r.how r.bits r.bytes.length,i)
  else if 4000 < (acc++B4o r.num r.how r.bits r.bytes).length then([],4,i)
  else A2f (i+1) (acc++B4o r.num r.how r.bits r.bytes) rest
theorem B1r {rs:List Rcd}{k:Nat}{r:Rcd}(h:rs[k]?=some r):rs.drop k=r::rs.drop (k+1):=by
 obtain⟨h1,h2⟩:=List.getElem?_eq_some_iff.1 h
 rw[List.drop_eq_getElem_cons h1,h2]
theorem B5a {rs:List Rcd}{k:Nat}{r:Rcd}{acc:List UInt8}{E:Int}(h:rs[k]?=some r) (hE:E=A1i r.num r.how r.bits r.bytes.length) (h0:E≠0):A2f k acc (rs.drop k)=([],E,k):=by
 rw[B1r h,A2f,←hE,if_pos h0]
theorem B2v {rs:List Rcd}{k:Nat}{r:Rcd}{acc:List UInt8}(h:rs[k]?=some r) (hE:0=A1i r.num r.how r.bits r.bytes.length) (h0:4000 < (acc++B4o r.num r.how r.bits r.bytes).length):A2f k acc (rs.drop k)=([],4,k):=by
 rw[B1r h,A2f,←hE,if_neg (by simp),if_pos h0]
theorem B7s {rs:List Rcd}{k:Nat}{r:Rcd}{acc:List UInt8}(h:rs[k]?=some r) (hE:0=A1i r.num r.how r.bits r.bytes.length) (h0:¬ 4000 < (acc++B4o r.num r.how r.bits r.bytes).length):A2f k acc (rs.drop k)=A2f (k+1) (acc++B4o r.num r.how r.bits r.bytes) (rs.drop (k+1)):=by
 rw[B1r h,A2f,←hE,if_neg (by simp),if_neg h0]
theorem B5b {rs:List Rcd}{k:Nat}{acc:List UInt8}(h:rs.length≤k):A2f k acc (rs.drop k)=(acc,0,0):=by
 rw[List.drop_eq_nil_of_le h,A2f]
theorem B0n {h:Int}(k:¬ A1q h=false):h=0∨h=1∨h=2∨h=5:=by
 rcases Decidable.em (h=0∨h=1∨h=2∨h=5) with g|g
 ·exact g
 ·exact absurd (A4k g).symm k
theorem C6w {num how:Int}{bits len:Nat}(h:0=A1i num how bits len) :
  (how=0∨how=1∨how=2∨how=5)∧1≤num∧num < 536870912∧len≤4000∧(how=5→bits < 4294967296)∧(how=2→bits=0)∧(how≠2→len=0):=by
 unfold A1i at h
 split at h
 ·cases h
 ·rename_i hk
  have hh:=B0n hk
  split at h
  ·cases h
  ·split at h
   ·cases h
   ·split at h
    ·cases h
    ·split at h
     ·cases h
     ·split at h
      ·cases h
      ·refine⟨hh,by omega,by omega,by omega,by omega,by omega,by omega⟩
theorem B2w (ao:Option Addr) (len cap:Nat) (rs:List Rcd) (w:World) (hr:RdR w ao len cap rs) :
  Calls Tryz.prog 38 #[.slice ao len cap] w fun e w'=>∃ v',e = .returned (.tuple #[v',.agg #[.int .i64 (A2f 0 [] rs).2.1,.int .i64 ((A2f 0 [] rs).2.2:Int)]])∧OwnB w' w.heap.size v' (A2f 0 [] rs).1∧Below w.heap.size w w':=by
 have df:len≤9223372036854775807:=by have:=hr.2.1;have:=hr.2.2.1;unfold maxLen at this;omega
 have Hl:Hid (rs.length=len):=hr.1
 obtain⟨RR,bn⟩:∃ RR,Hid (RR=A2f 0 [] rs):=⟨_,rfl⟩
 rw[←bn.out]
 have H0:Hid (RR=A2f 0 [] (rs.drop 0)):=by show _=_;rw[List.drop_zero];exact bn.out
 clear bn
 by_cases hp:0 < len
 ·obtain⟨b,off,rfl,bh,hcell⟩:=hr.at hp
  go_enter Tryz.func38,Tryz.ntmps38
  go_wp2
  go_loopw [4,10] (fun v i wr=>∃ (k:Nat) (acc:List UInt8),k≤len∧i = .int .i64 k∧acc.length≤4000∧OwnB wr (w.heap.size+1) v acc∧Below (w.heap.size+1) (w.alloc (.cells #[.int .i64 0,.int .i64 0] 50)) wr∧Hid (RR=A2f k acc (rs.drop k)))
   (fun _ i _=>len - (intOf i).toNat)
  case atStart=>exact⟨0,[],Nat.zero_le _,rfl,by simp,OwnB.nil _ _,Below.refl _ _,H0⟩
  case round=>
   obtain⟨k,acc,hk,rfl,cj,hown,ak,HR⟩:=hrel
   by_cases hlt:k < len
   ·have cu:k < rs.length:=by rw[Hl.out];exact hlt
    obtain⟨r,Hr⟩:∃ r,Hid (rs[k]?=some r):=⟨rs[k],List.getElem?_eq_getElem cu⟩
    obtain⟨bc,ac,ah,c0,c1,c2,c3,bk⟩:=hcell k r Hr.out
    have ag:Below w.heap.size w wr:=((Below.refl _ _).alloc (Nat.le_refl _) _).trans (ak.mono (by omega))
    have e0:=(ag.cell (p:=⟨b,off+k*4,none⟩) bh).trans c0
    have e1:=(ag.cell (p:=⟨b,off+k*4+1,none⟩) bh).trans c1
    have e2:=(ag.cell (p:=⟨b,off+k*4+2,none⟩) bh).trans c2
    have e3:=(ag.cell (p:=⟨b,off+k*4+3,none⟩) bh).trans c3
    clear c0 c1 c2 c3 hcell
    have bl:Hid (r.bytes.length=ac):=bk.1
    obtain⟨E,HE⟩:∃ E,Hid (E=A1i r.num r.how r.bits ac):=⟨_,rfl⟩
    have cw:ac≤9223372036854775807:=by have:=bk.2.1;have:=bk.2.2.1;unfold maxLen at this;omega
    have hsz:w.heap.size+1≤wr.heap.size:=by have:=ak.size;simpa using this
    go_wp2_with fail
    refine(C3v r.num r.how r.bits bc ac ah _ cw).mono ?_
    rintro e w1 ⟨rfl,hb1⟩
    rw[←HE.out]
    obtain⟨d0,d1,d2,d3⟩:=B2y wr (.int .i64 r.num) (.int .i64 r.how) (.int .u64 (r.bits:Int)) (.slice bc ac ah) 106
    have f0:=(hb1.cell (p:=⟨wr.heap.size,0,none⟩) (by simp)).trans d0
    have f1:=(hb1.cell (p:=⟨wr.heap.size,1,none⟩) (by simp)).trans d1
    have f2:=(hb1.cell (p:=⟨wr.heap.size,2,none⟩) (by simp)).trans d2
    have f3:=(hb1.cell (p:=⟨wr.heap.size,3,none⟩) (by simp)).trans d3
    clear d0 d1 d2 d3 e0 e1 e2 e3
    have bg:Below wr.heap.size wr w1:=((Below.refl _ _).alloc (Nat.le_refl _) _).trans (hb1.mono (by simp))
    have au:Below (w.heap.size+1) (w.alloc (.cells #[.int .i64 0,.int .i64 0] 50)) w1:=ak.trans (bg.mono hsz)
    have g0:w1.cell? ⟨w.heap.size,0,none⟩=some (.int .i64 0):=(au.cell (p:=⟨w.heap.size,0,none⟩) (by simp)).trans (by simp)
    have g1:w1.cell? ⟨w.heap.size,1,none⟩=some (.int .i64 0):=(au.cell (p:=⟨w.heap.size,1,none⟩) (by simp)).trans (by simp)
    have g2:w1.frozen? ⟨w.heap.size,0,none⟩=false:=(au.frozen (p:=⟨w.heap.size,0,none⟩) (by simp)).trans (by simp)
    have g3:w1.frozen? ⟨w.heap.size,1,none⟩=false:=(au.frozen (p:=⟨w.heap.size,1,none⟩) (by simp)).trans (by simp)
    clear hb1
    by_cases h0:E=0
    ·have bt:Hid (0=A1i r.num r.how r.bits ac):=by show _=_;rw[←h0];exact HE.out
     have bu:Hid (0=A1i r.num r.how r.bits r.bytes.length):=by show _=_;rw[bl.out];exact bt.out
     have cg:(E != 0)=false:=by simp[h0]
     clear h0 HE
     obtain⟨q1,q2,q3,q4,_,_,_⟩:=C6w bt.out
     have qb:r.bits≤18446744073709551615:=(hr.2.2.2.2.1 r (List.mem_of_getElem? Hr.out)).2.2.2.2
     have br:RdA w1 bc ac ah r.bytes:=bk.later (ag.trans (bg.mono (by omega)))
     have hs1:w.heap.size+1≤w1.heap.size:=by have:=bg.size;omega
     go_wp2_with fail
     refine(C7w (w.heap.size+1) _ acc r.num r.how r.bits bc ac ah r.bytes w1 (hown.keptB bg) hs1 qb br q4 (by omega) (by omega) (by omega) (by omega) (by omega)).mono ?_
     rintro e w2 ⟨v2,rfl,bq,hb2⟩
     have aw:=au.trans hb2
     clear g0 g1 g2 g3 f0 f1 f2 f3
     have g0:w2.cell? ⟨w.heap.size,0,none⟩=some (.int .i64 0):=(aw.cell (p:=⟨w.heap.size,0,none⟩) (by simp)).trans (by simp)
     have g1:w2.cell? ⟨w.heap.size,1,none⟩=some (.int .i64 0):=(aw.cell (p:=⟨w.heap.size,1,none⟩) (by simp)).trans (by simp)
     have g2:w2.frozen? ⟨w.heap.size,0,none⟩=false:=(aw.frozen (p:=⟨w.heap.size,0,none⟩) (by simp)).trans (by simp)
     have g3:w2.frozen? ⟨w.heap.size,1,none⟩=false:=(aw.frozen (p:=⟨w.heap.size,1,none⟩) (by simp)).trans (by simp)
     obtain⟨bw,aj,bp,hv2,hr2⟩:=bq.rd
     have HV:Hid (v2 = .slice bw aj bp):=hv2
     rw[hv2]
     rw[hv2] at bq
     have ba:Hid ((acc++B4o r.num r.how r.bits r.bytes).length=aj):=hr2.1
     have hl2:aj≤8100:=by rw[←ba.out,List.length_append];have:=B6z r.num r.how r.bits r.bytes;have:=bl.out;omega
     clear hv2
     by_cases hm:4000 < aj
     ·go_wp2
      have e1:=B2v (acc:=acc) Hr.out bu.out (by rw[ba.out];exact hm)
      refine bodyPost_ret (v:=.tuple #[.slice none 0 0,.agg #[.int .i64 4,.int .i64 (k:Int)]]) (by simp[results,Tryz.results38,go_sem,g0,g1]) rfl ⟨.slice none 0 0,?_,?_,?_⟩
      ·rw[HR.out,e1]
      ·rw[HR.out,e1];exact OwnB.nil _ _
      ·exact((((Below.refl _ _).alloc (Nat.le_refl _) _).trans (aw.mono (by omega))).setCell (Nat.le_refl _) _).setCell (Nat.le_refl _) _
     ·go_wp2
      go_roundw
      case rel=>
       refine⟨k+1,acc++B4o r.num r.how r.bits r.bytes,by omega,by go_num,by rw[ba.out];omega,bq,aw,?_⟩
       exact HR.out.trans (B7s Hr.out bu.out (by rw[ba.out];exact hm))
      case measure=>simp[intOf];omega
    ·have cg:(E != 0)=true:=by simp[h0]
     have bv:Hid (E≠0):=h0
     clear h0
     go_wp2
     have e1:=B5a (acc:=acc) Hr.out (HE.out.trans (by rw[bl.out])) bv.out
     refine bodyPost_ret (v:=.tuple #[.slice none 0 0,.agg #[.int .i64 E,.int .i64 (k:Int)]]) (by simp[results,Tryz.results38,go_sem,g0,g1]) rfl ⟨.slice none 0 0,?_,?_,?_⟩
     ·rw[HR.out,e1]
     ·rw[HR.out,e1];exact OwnB.nil _ _
     ·exact((((Below.refl _ _).alloc (Nat.le_refl _) _).trans (au.mono (by omega))).setCell (Nat.le_refl _) _).setCell (Nat.le_refl _) _
   ·have g0:wr.cell? ⟨w.heap.size,0,none⟩=some (.int .i64 0):=(ak.cell (p:=⟨w.heap.size,0,none⟩) (by simp)).trans (by simp)
    have g1:wr.cell? ⟨w.heap.size,1,none⟩=some (.int .i64 0):=(ak.cell (p:=⟨w.heap.size,1,none⟩) (by simp)).trans (by simp)
    have g2:wr.frozen? ⟨w.heap.size,0,none⟩=false:=(ak.frozen (p:=⟨w.heap.size,0,none⟩) (by simp)).trans (by simp)
    have g3:wr.frozen? ⟨w.heap.size,1,none⟩=false:=(ak.frozen (p:=⟨w.heap.size,1,none⟩) (by simp)).trans (by simp)
    go_wp2
    have e1:=B5b (rs:=rs) (k:=k) (acc:=acc) (by rw[Hl.out];omega)
    refine bodyPost_ret (v:=.tuple #[u4,.agg #[.int .i64 0,.int .i64 0]]) (by simp[results,Tryz.results38,go_sem,g0,g1]) rfl ⟨u4,?_,?_,?_⟩
    ·rw[HR.out,e1];rfl
    ·rw[HR.out,e1]
     exact OwnB.mono (base:=w.heap.size+1) (ownsRow_setCell_below (ownsRow_setCell_below hown (by simp) _) (by simp) _) (by omega)
    ·exact((((Below.refl _ _).alloc (Nat.le_refl _) _).trans (ak.mono (by omega))).setCell (Nat.le_refl _) _).setCell (Nat.le_refl _) _
 ·have h0:len=0:=by omega
  subst h0
  have hn:rs = []:=List.eq_nil_of_length_eq_zero Hl.out
  have HR:Hid (RR=([],0,0)):=by show _=_;rw[H0.out,hn];rfl
  clear hr H0 Hl hn
  go_enter Tryz.func38,Tryz.ntmps38
  go_wp2
  refine wp_loop_rounds 1 ?_
  rw[rounds_succ]
  go_wp2
  refine bodyPost_ret (v:=.tuple #[.slice none 0 0,.agg #[.int .i64 0,.int .i64 0]]) (by simp[results,Tryz.results38,go_sem]) rfl ⟨.slice none 0 0,?_,?_,?_⟩
  ·rw[HR.out];rfl
  ·rw[HR.out];exact OwnB.nil _ _
  ·exact(Below.refl _ _).alloc (Nat.le_refl _) _
end Go.Proofs.YtgaoojpakjjdnaaGreatDoor
namespace Go.Proofs.YtgaoojpakjjdnaaGreatDoor
open Go.RowKit
theorem B1t (w:World) (a:Option Addr) (l c:Nat):(binOp .eql 32 (.slice a l c) (.slice none 0 0)).run Tryz.prog w = .ok (.bool a.isNone) w:=
 run_eql_slice_nil w 32 5 a l c Tryz.underlying32
theorem OwnB.made (w:World){base:Nat}(hb:base≤w.heap.size):OwnB (w.alloc (.cells #[] 5)) base (.slice (some ⟨w.heap.size,0,none⟩) 0 0) []:=
 World.ownsRow_made w #[] 0 hb (by unfold maxLen;omega) rfl
theorem B7z (ao:Option Addr) (len cap:Nat) (m:List UInt8) (w:World) (hr:RdA w ao len cap m) (hlen:len≤1000000) :
  Calls Tryz.prog 77 #[.slice ao len cap] w fun e w'=>∃ v',e = .returned v'∧OwnB w' w.heap.size v' m∧Below w.heap.size w w':=by
 have he:=B1t
 cases ao with
 | none=>
  have hm:m = []:=List.eq_nil_of_length_eq_zero (by have:=hr.1;have:=hr.2.1;have:=hr.2.2.2.1 rfl;omega)
  subst hm
  go_enter Tryz.func77,Tryz.ntmps77
  go_wp2
  go_ret
  exact⟨_,rfl,OwnB.nil _ _,Below.refl _ _⟩
 | some x=>
  have hb0:∀ o,Below w.heap.size w (w.alloc o):=fun o=>(Below.refl w.heap.size w).alloc (Nat.le_refl _) o
  have HL:Hid (m.length=len):=hr.1
  have hr1:RdA (w.alloc (.cells #[] 5)) (some x) len cap m:=hr.later (hb0 _)
  go_enter Tryz.func77,Tryz.ntmps77
  go_wp2_with (at_builtin;refine A1f rfl _ _ rfl w.heap.size _ [] m rfl (OwnB.made w (Nat.le_refl _)) (some x) len cap rfl hr1 ?e1 ?e2 ?_)
  case e1=>have:=HL.out;simp;omega
  case e2=>simp
  intro v2 w2 ag ac
  go_wp2
  go_ret
  exact⟨v2,rfl,ag,(hb0 _).trans ac⟩
theorem B1k (x:Addr) (a b:Nat):(x.add a).add b=x.add (a+b):=by
 unfold Addr.add
 split <;> split <;> simp_all <;> omega
theorem RdA.drop {w:World}{ao:Option Addr}{len cap:Nat}{l:List UInt8}(h:RdA w ao len cap l){k:Nat}(hk:k≤len) :
  RdA w (if cap=k then ao else ao.map (·.add k)) (len - k) (cap - k) (l.drop k):=by
 obtain⟨h1,h2,h3,h4,h5⟩:=h
 refine⟨by simp[h1],by omega,by omega,?_,?_⟩
 ·intro hn
  split at hn
  ·omega
  ·have:ao=none:=by simpa using hn
   have:=h4 this
   omega
 ·intro x hx i hi
  rw[if_neg (by omega)] at hx
  cases ao with
  | none=>cases hx
  | some y=>
   simp at hx
   subst hx
   rw[B1k]
   have:=h5 y rfl (k+i) (by omega)
   rw[this]
   simp[List.getElem?_drop]
theorem RdA.take {w:World}{ao:Option Addr}{len cap:Nat}{l:List UInt8}(h:RdA w ao len cap l){k:Nat}(hk:k≤len) :
  RdA w ao k cap (l.take k):=by
 obtain⟨h1,h2,h3,h4,h5⟩:=h
 refine⟨by simp;omega,by omega,h3,h4,?_⟩
 intro x hx i hi
 rw[h5 x hx i (by omega)]
 simp[hi]
theorem C8c (l:List UInt8):∀ (i acc:Nat),acc < 2 ^ (7*i)→i≤9→
  (A4f i acc l).1≤18446744073709551615∧(A4f i acc l).2.1≤i+l.length∧(A4f i acc l).2.1≤10∧((A4f i acc l).2.2=0∨(A4f i acc l).2.2=2∨(A4f i acc l).2.2=3)∧((A4f i acc l).2.2=0→i+1≤(A4f i acc l).2.1):=by
 induction l with
 | nil=>intro i acc _ _;rw[A4f];exact⟨by simp,by simp,by simp,.inr (.inl rfl),by simp⟩
 | cons x r ih=>
  intro i acc ac hi
  rw[A4f]
  split
  ·exact⟨by simp,by simp,by simp,.inr (.inr rfl),by simp⟩
  ·rename_i h9
   have hx:x.toNat < 256:=UInt8.toNat_lt _
   have hb:acc+x.toNat%128*2 ^ (7*i)≤18446744073709551615:=by
    by_cases h:i≤8
    ·have h1:=D1t h
     have h2:x.toNat%128*2 ^ (7*i)≤127*2 ^ (7*i):=Nat.mul_le_mul_right _ (by omega)
     omega
    ·have ag:i=9:=by omega
     subst ag
     rw[show 2 ^ (7*9)=9223372036854775808 from rfl] at ac ⊢
     omega
   split
   ·exact⟨hb,by simp,by simp;omega,.inl rfl,by simp⟩
   ·have ah:i≠9:=by intro e;apply h9;exact⟨e,by omega⟩
    obtain⟨a,b,c,d,e⟩:=ih (i+1) _ (C2v ac) (by omega)
    exact⟨a,by simp;omega,c,d,fun h=>by have:=e h;omega⟩
theorem A5t {l:List UInt8}{N K E:Nat}(h:A4f 0 0 l=(N,K,E)):N≤18446744073709551615∧K≤l.length∧K≤10∧(E=0∨E=2∨E=3)∧(E=0→1≤K):=by
 have:=C8c l 0 0 (by decide) (by omega)
 rw[h] at this
 simpa using this
theorem C1g {ao:Option Addr}{len cap:Nat}{l:List UInt8}{w:World}(hr:RdA w ao len cap l){N K E:Nat}(h:A4f 0 0 l=(N,K,E)) :
  Calls Tryz.prog 217 #[.slice ao len cap] w fun e w'=>e = .returned (.tuple #[.int .u64 (N:Int),.int .i64 (K:Int),.int .i64 (E:Int)])∧w=w':=by
 have:=B1w ao len cap l w hr
 rw[h] at this
 exact this
theorem A5e {a b c d a' b' c' d':Nat}(e:(a,b,c,d)=(a',b',c',d')):a=a'∧b=b'∧c=c'∧d=d':=by simpa using e
def B5u (N K E:Nat):Nat×Nat×Nat×Nat:=
 if E≠0 then(0,0,0,E)
 else if N / 8 < 1∨536870912≤N / 8 then(0,0,0,3)
 else if A1q ((N%8:Nat):Int)=false then(0,0,0,1)
 else(N / 8,N%8,K,0)
def B9p (l:List UInt8):Nat×Nat×Nat×Nat:=B5u (A4f 0 0 l).1 (A4f 0 0 l).2.1 (A4f 0 0 l).2.2
theorem C1f {ao:Option Addr}{len cap:Nat}{l:List UInt8}{w:World}(hr:RdA w ao len cap l){A B C D:Nat}(h:B9p l=(A,B,C,D)) :
  Calls Tryz.prog 175 #[.slice ao len cap] w fun e w'=>e = .returned (.tuple #[.int .i64 (A:Int),.int .i64 (B:Int),.int .i64 (C:Int),.int .i64 (D:Int)])∧w=w':=by
 obtain⟨N,K,E,Hg⟩:∃ N K E,Hid (A4f 0 0 l=(N,K,E)):=⟨_,_,_,rfl⟩
 obtain⟨b1,b2,b3,b4,b5⟩:=A5t Hg.out
 have HT:Hid (B5u N K E=(A,B,C,D)):=by show _=_;rw[←h,B9p,Hg.out]
 clear h
 go_enter Tryz.func175,Tryz.ntmps175
 go_wp2_with fail
 refine(C1g hr Hg.out).mono ?_
 rintro e w1 ⟨rfl,rfl⟩
 by_cases h0:E=0
 ·have ag:((E:Int) != 0)=false:=by simp[h0]
  by_cases h1:N / 8 < 1∨536870912≤N / 8
  ·obtain⟨rfl,rfl,rfl,rfl⟩:=A5e (show(0,0,0,3)=(A,B,C,D) by rw[←HT.out,B5u,if_neg (by omega),if_pos h1])
   clear HT h0
   rcases h1 with h1|h1
   rotate_right
   focus
    have ac:1≤(N:Int) / 8:=by omega
    have ah:536870912≤(N:Int) / 8:=by omega
   rotate_right
   focus
    have ac:(N:Int) / 8 < 1:=by omega
   all_goals
    clear h1
    go_wp2
    refine bodyPost_ret (v:=.tuple #[.int .i64 0,.int .i64 0,.int .i64 0,.int .i64 3]) (by simp[results,Tryz.results175,go_sem]) rfl ⟨rfl,rfl⟩
  ·obtain⟨Q,HQ⟩:∃ Q,Hid (Q=N / 8):=⟨_,rfl⟩
   obtain⟨M,HM⟩:∃ M,Hid (M=N%8):=⟨_,rfl⟩
   have q1:1≤Q:=by have:=HQ.out;omega
   have q2:Q < 536870912:=by have:=HQ.out;omega
   have q3:M < 8:=by have:=HM.out;omega
   have q4:(N:Int) / 8=(Q:Int):=by have:=HQ.out;omega
   have q5:(N:Int)%8=(M:Int):=by have:=HM.out;omega
   by_cases h3:A1q (M:Int)=false
   ·obtain⟨rfl,rfl,rfl,rfl⟩:=A5e (show(0,0,0,1)=(A,B,C,D) by rw[←HT.out,B5u,if_neg (by omega),if_neg h1,if_pos (by rw[←HM.out];exact h3)])
    clear HT h0 h1 b1 b2 b3 b4 b5 HM HQ
    have H3:Hid (A1q (M:Int)=false):=h3
    clear h3
    go_wp2_with fail
    refine(A0h _ _).mono ?_
    rintro e w1 ⟨rfl,rfl⟩
    rw[H3.out]
    go_wp2
    refine bodyPost_ret (v:=.tuple #[.int .i64 0,.int .i64 0,.int .i64 0,.int .i64 1]) (by simp[results,Tryz.results175,go_sem]) rfl ⟨rfl,rfl⟩
   ·obtain⟨rfl,rfl,rfl,rfl⟩:=A5e (show(Q,M,K,0)=(A,B,C,D) by rw[←HT.out,B5u,if_neg (by omega),if_neg h1,if_neg (by rw[←HM.out];exact h3),HQ.out,HM.out])
    clear HT h0 h1 b1 b2 b3 b4 b5 HM HQ
    have H3:Hid (A1q (M:Int)=true):=by show _=_;simpa using h3
    clear h3
    go_wp2_with fail
    refine(A0h _ _).mono ?_
    rintro e w1 ⟨rfl,rfl⟩
    rw[H3.out]
    go_wp2
    refine bodyPost_ret (v:=.tuple #[.int .i64 (Q:Int),.int .i64 (M:Int),.int .i64 (K:Int),.int .i64 0]) (by simp[results,Tryz.results175,go_sem]) rfl ⟨rfl,rfl⟩
 ·have ag:((E:Int) != 0)=true:=by rw[bne_iff_ne];omega
  obtain⟨rfl,rfl,rfl,rfl⟩:=A5e (show(0,0,0,E)=(A,B,C,D) by rw[←HT.out,B5u,if_pos h0])
  clear h0 HT
  go_wp2
  refine bodyPost_ret (v:=.tuple #[.int .i64 0,.int .i64 0,.int .i64 0,.int .i64 (E:Int)]) (by simp[results,Tryz.results175,go_sem]) rfl ⟨rfl,rfl⟩
end Go.Proofs.YtgaoojpakjjdnaaGreatDoor
namespace Go.Proofs.YtgaoojpakjjdnaaGreatDoor
open Go.RowKit
def A8d (l:List UInt8) (N K E:Nat):List UInt8×Nat×Nat:=
 if E≠0 then([],0,E)
 else if l.length - K < N then([],0,2)
 else((l.drop K).take N,K+N,0)
def A5k (l:List UInt8):List UInt8×Nat×Nat:=A8d l (A4f 0 0 l).1 (A4f 0 0 l).2.1 (A4f 0 0 l).2.2
theorem A0r {α:Type}{a a' : α}{b c b' c':Nat}(e:(a,b,c)=(a',b',c')):a=a'∧b=b'∧c=c':=by simpa using e
theorem A5w {w:World}{ao:Option Addr}{len cap:Nat}{l:List UInt8}(hr:RdA w ao len cap l){k:Nat}(hk:k≤len) (kd:IntKind) :
  ∃ ac,(∀ w,(Instr.slice 32 (.slice ao len cap) (some (.int kd (k:Int))) none none).run Tryz.prog w = .ok (.slice ac (len - k) (cap - k)) w)∧RdA w ac (len - k) (cap - k) (l.drop k):=by
 refine⟨_,?_,hr.drop hk⟩
 intro w
 have:=run_slice_l (P:=Tryz.prog) (w:=w) 32 ao len cap Tryz.underlying32 kd (k:Int) (by omega) (by omega)
 rw[this]
 have e1:(sizeOf (Tryz.prog.elem 32)).run Tryz.prog w = .ok 1 w:=by rfl
 rw[e1]
 simp[Result.andThen,sliced]
theorem B7g {w:World}{ao:Option Addr}{len cap:Nat}{l:List UInt8}(hr:RdA w ao len cap l){k:Nat}(hk:k≤len) (kd:IntKind) :
  (∀ w,(Instr.slice 32 (.slice ao len cap) none (some (.int kd (k:Int))) none).run Tryz.prog w = .ok (.slice ao k cap) w)∧RdA w ao k cap (l.take k):=by
 refine⟨?_,hr.take hk⟩
 intro w
 have hc:=hr.2.1
 have:=run_slice_h (P:=Tryz.prog) (w:=w) 32 ao len cap Tryz.underlying32 kd (k:Int) (by omega) (by omega)
 rw[this]
 have e1:(sizeOf (Tryz.prog.elem 32)).run Tryz.prog w = .ok 1 w:=by rfl
 rw[e1]
 have e2:ao.map (fun x=>x.add 0)=ao:=by cases ao <;> rfl
 simp[Result.andThen,sliced,e2]
theorem B5f {ao:Option Addr}{len cap:Nat}{l:List UInt8}{w:World}(hr:RdA w ao len cap l) (hlen:len≤4000){A:List UInt8}{B C:Nat}(h:A5k l=(A,B,C)) :
  Calls Tryz.prog 176 #[.slice ao len cap] w fun e w'=>∃ v',e = .returned (.tuple #[v',.int .i64 (B:Int),.int .i64 (C:Int)])∧OwnB w' w.heap.size v' A∧Below w.heap.size w w':=by
 obtain⟨N,K,E,Hg⟩:∃ N K E,Hid (A4f 0 0 l=(N,K,E)):=⟨_,_,_,rfl⟩
 obtain⟨b1,b2,b3,b4,b5⟩:=A5t Hg.out
 have HT:Hid (A8d l N K E=(A,B,C)):=by show _=_;rw[←h,A5k,Hg.out]
 have HL:Hid (l.length=len):=hr.1
 have ah:K≤len:=by rw[←HL.out];exact b2
 have au:len≤cap:=hr.2.1
 have hcm:cap≤9223372036854775807:=by have:=hr.2.2.1;unfold maxLen at this;omega
 clear h b2
 go_enter Tryz.func176,Tryz.ntmps176
 go_wp2_with fail
 refine(C1g hr Hg.out).mono ?_
 rintro e w1 ⟨rfl,rfl⟩
 by_cases h0:E=0
 ·have ag:((E:Int) != 0)=false:=by simp[h0]
  obtain⟨ak,aw,aj⟩:=A5w hr ah .i64
  by_cases h1:len - K < N
  ·obtain⟨rfl,rfl,rfl⟩:=A0r (show([],0,2)=(A,B,C) by rw[←HT.out,A8d,if_neg (by omega),if_pos (by rw[HL.out];exact h1)])
   clear HT h0
   have ac:((len - K:Nat):Int) < (N:Int):=by omega
   go_wp2
   go_ret3
   exact⟨_,rfl,OwnB.nil _ _,Below.refl _ _⟩
  ·obtain⟨rfl,rfl,rfl⟩:=A0r (show((l.drop K).take N,K+N,0)=(A,B,C) by rw[←HT.out,A8d,if_neg (by omega),if_neg (by rw[HL.out];exact h1)])
   clear HT h0
   have ac:(N:Int)≤((len - K:Nat):Int):=by omega
   obtain⟨hst,hrt⟩:=B7g aj (show N≤len - K by omega) .u64
   go_wp2_with fail
   refine(B7z _ _ _ _ _ hrt (by omega)).mono ?_
   rintro e w2 ⟨v2,rfl,ho,hbl⟩
   go_wp2
   go_ret3
   exact⟨v2,rfl,ho,hbl⟩
 ·have ag:((E:Int) != 0)=true:=by rw[bne_iff_ne];omega
  obtain⟨rfl,rfl,rfl⟩:=A0r (show([],0,E)=(A,B,C) by rw[←HT.out,A8d,if_pos h0])
  clear h0 HT
  go_wp2
  go_ret3
  exact⟨_,rfl,OwnB.nil _ _,Below.refl _ _⟩
def A6z:List UInt8→Nat
 | []=>0
 | c::r=>c.toNat+256*A6z r
theorem B6i (l:List UInt8):A6z l < 2 ^ (8*l.length):=by
 induction l with
 | nil=>simp[A6z]
 | cons c r ih=>
  rw[A6z,List.length_cons,show 8*(r.length+1)=8*r.length+8 by omega,Nat.pow_add]
  have:c.toNat < 256:=UInt8.toNat_lt _
  have e:(2:Nat) ^ 8=256:=rfl
  omega
theorem B8o (l:List UInt8) (c:UInt8):A6z (l++[c])=A6z l+c.toNat*2 ^ (8*l.length):=by
 induction l with
 | nil=>simp[A6z]
 | cons a r ih=>
  rw[List.cons_append,A6z,ih,A6z,List.length_cons,show 8*(r.length+1)=8*r.length+8 by omega,Nat.pow_add]
  have e:(2:Nat) ^ 8=256:=rfl
  rw[e]
  generalize 2 ^ (8*r.length)=p
  rw[←Nat.mul_assoc c.toNat p 256,Nat.mul_comm (c.toNat*p) 256,Nat.mul_add]
  omega
theorem C1i {l:List UInt8}{k W X:Nat}(hk:k < l.length) (hW:k < W) (hX:X=((l.take W).getD k 0).toNat):A6z (l.take (k+1))=A6z (l.take k)+X*2 ^ (8*k):=by
 rw[List.take_succ_eq_append_getElem hk,B8o,List.length_take,Nat.min_eq_left (by omega),hX]
 simp[hW,hk]
theorem C8f {l:List UInt8}{k:Nat}(hk:k≤l.length):A6z (l.take k) < 2 ^ (8*k):=by
 have:=B6i (l.take k)
 rwa [List.length_take,Nat.min_eq_left hk] at this
theorem D1e {k acc X:Nat}(hk:k≤7) (ac:acc < 2 ^ (8*k)) (hX:X < 256) :
  bits BinOp.or IntKind.u64 (acc:Int) (IntKind.u64.wrap ((X:Int)*2 ^ (8*k)))=((acc+X*2 ^ (8*k):Nat):Int):=by
 have hp:2 ^ (8*k)≤2 ^ 56:=Nat.pow_le_pow_right (by decide) (by omega)
 have hb:X*2 ^ (8*k) < 2 ^ 64:=by
  have h2:X*2 ^ (8*k)≤255*2 ^ (8*k):=Nat.mul_le_mul_right _ (by omega)
  omega
 have e:((X:Int)*2 ^ (8*k))=((X*2 ^ (8*k):Nat):Int):=by simp
 rw[e,B0f _ (by omega) (by exact_mod_cast hb)]
 exact C7k (8*k) acc _ ac (by omega) (Nat.mul_mod_left _ _) hb
def A3g (l:List UInt8) (how:Int):Nat×Nat×Nat:=
 if how=0 then A4f 0 0 l
 else if l.length < A2p how then(0,0,2)
 else(A6z (l.take (A2p how)),A2p how,0)
theorem B1c {ao:Option Addr}{len cap:Nat}{l:List UInt8}{w:World}(hr:RdA w ao len cap l) (how:Int){A B C:Nat}(h:A3g l how=(A,B,C)) :
  Calls Tryz.prog 177 #[.slice ao len cap,.int .i64 how] w fun e w'=>e = .returned (.tuple #[.int .u64 (A:Int),.int .i64 (B:Int),.int .i64 (C:Int)])∧w=w':=by
 have HL:Hid (l.length=len):=hr.1
 have hlc:len≤cap:=hr.2.1
 have hcm:cap≤9223372036854775807:=by have:=hr.2.2.1;unfold maxLen at this;omega
 by_cases h0:how=0
 ·subst h0
  rw[A3g,if_pos rfl] at h
  have Hh:Hid (A4f 0 0 l=(A,B,C)):=h
  clear h
  go_enter Tryz.func177,Tryz.ntmps177
  go_wp2_with fail
  refine(C1g hr Hh.out).mono ?_
  rintro e w1 ⟨rfl,rfl⟩
  go_wp2
  go_ret3
  exact⟨rfl,rfl⟩
 ·have b0:(how == 0)=false:=beq_eq_false_iff_ne.2 h0
  rw[A3g,if_neg h0] at h
  obtain⟨W,HW⟩:∃ W,Hid (A2p how=W):=⟨_,rfl⟩
  have ah:W≤8:=by rw[←HW.out];unfold A2p;split <;> (try split) <;> omega
  rw[HW.out,HL.out] at h
  clear h0
  by_cases h1:len < W
  ·rw[if_pos h1] at h
   obtain⟨rfl,rfl,rfl⟩:=A0r h
   clear h
   go_enter Tryz.func177,Tryz.ntmps177
   go_wp2_with (go_at_call 209;refine(A7p how _).mono ?_;rintro e w1 ⟨rfl,rfl⟩;rw[HW.out])
   go_ret3
   exact⟨rfl,rfl⟩
  ·rw[if_neg h1] at h
   obtain⟨rfl,rfl,rfl⟩:=A0r h
   clear h
   obtain⟨hst,hrt⟩:=B7g hr (show W≤len by omega) .i64
   by_cases hp:0 < W
   ·obtain⟨b,off,rfl,aj,hcell⟩:=hrt.at hp
    go_enter Tryz.func177,Tryz.ntmps177
    go_wp2_with (go_at_call 209;refine(A7p how _).mono ?_;rintro e w1 ⟨rfl,rfl⟩;rw[HW.out])
    go_loop [8,28] (fun a i=>∃ k acc:Nat,k≤W∧i = .int .i64 k∧a = .int .u64 acc∧Hid (acc=A6z (l.take k))) (fun _ i=>W - (intOf i).toNat)
    case atStart=>exact⟨0,0,Nat.zero_le _,rfl,rfl,rfl⟩
    case round=>
     obtain⟨k,acc,hk,rfl,rfl,HR⟩:=hrel
     by_cases hlt:k < W
     ·obtain⟨X,HX⟩:∃ X:Nat,Hid (X=((l.take W).getD k 0).toNat):=⟨_,rfl⟩
      have hc:w.cell? ⟨b,off+k,none⟩=some (.int .u8 (X:Int)):=by rw[HX.out];exact hcell k hlt
      have hX:X < 256:=by rw[HX.out];exact UInt8.toNat_lt _
      clear hcell
      go_wp2
      go_round
      case rel=>
       have ag:k < l.length:=by rw[HL.out];omega
       refine⟨k+1,acc+X*2 ^ (8*k),by omega,by go_num,congrArg (Value.int .u64) (D1e (by omega) (by rw[HR.out];exact C8f (by omega)) hX),?_⟩
       show _=_
       rw[C1i ag hlt HX.out,HR.out]
      case measure=>simp[intOf];omega
     ·go_wp2
      go_ret3
      have ac:k=W:=by omega
      exact⟨D1c (by rw[HR.out,ac]) rfl rfl,rfl⟩
   ·have hW0:W=0:=by omega
    subst hW0
    go_enter Tryz.func177,Tryz.ntmps177
    go_wp2_with (go_at_call 209;refine(A7p how _).mono ?_;rintro e w1 ⟨rfl,rfl⟩;rw[HW.out])
    refine wp_loop_rounds 1 ?_
    rw[rounds_succ]
    go_wp2
    go_ret3
    exact⟨rfl,rfl⟩
end Go.Proofs.YtgaoojpakjjdnaaGreatDoor
