import Derived.Test.YtelmjekjohbmjaaGreatDoorY10
import Derived.Test.YtelmjekjohbmjaaGreatDoorY03
import Derived.Test.YtelmjekjohbmjaaGreatDoorY02
import Derived.Laws.BytesArg
namespace Go.Proofs.YtelmjekjohbmjaaGreatDoor
namespace L
open Go.RowKit
set_option linter.unusedVariables false
set_option maxHeartbeats 1000000 in
set_option maxRecDepth 100000 in
theorem B0i {w:World}(kind:Int) (n:Nat) :
  Calls Tryz.prog 7 #[.int .i64 kind,.int .u64 (n:Int)] w fun e w'=>e = .returned (.int .i64 (A1c kind n))∧w=w':=by
 by_cases h5:kind=5
 ·subst h5
  by_cases q1:n < 2147483648
  ·have HR:Hid (A1c 5 n=0):=by show _=_;unfold A1c B1h;simp[q1]
   have e1:decide ((n:Int)≤2147483647)=true:=by simp;omega
   clear q1
   go_enter Tryz.func7,Tryz.ntmps7
   go_wp2
   go_ret
   exact⟨by rw[HR.out];rfl,rfl⟩
  ·have e1:decide ((n:Int)≤2147483647)=false:=by simp;omega
   by_cases q2:18446744071562067968≤n
   ·have HR:Hid (A1c 5 n=0):=by show _=_;unfold A1c B1h;simp[q2]
    have e2:decide (18446744071562067968≤(n:Int))=true:=by simp;omega
    clear q1 q2
    go_enter Tryz.func7,Tryz.ntmps7
    go_wp2
    go_ret
    exact⟨by rw[HR.out];rfl,rfl⟩
   ·have HR:Hid (A1c 5 n=3):=by show _=_;unfold A1c B1h;simp[q1,q2]
    have e2:decide (18446744071562067968≤(n:Int))=false:=by simp;omega
    clear q1 q2
    go_enter Tryz.func7,Tryz.ntmps7
    go_wp2
    go_ret
    exact⟨by rw[HR.out];rfl,rfl⟩
 by_cases h4:kind=4
 ·subst h4
  by_cases q0:n=0
  ·subst q0
   have HR:Hid (A1c 4 0=0):=by show _=_;decide
   go_enter Tryz.func7,Tryz.ntmps7
   go_wp2
   go_ret
   exact⟨by rw[HR.out];rfl,rfl⟩
  ·have e0:((n:Int) == 0)=false:=by simp;omega
   by_cases q1:n=1
   ·subst q1
    have HR:Hid (A1c 4 1=0):=by show _=_;decide
    go_enter Tryz.func7,Tryz.ntmps7
    go_wp2
    go_ret
    exact⟨by rw[HR.out];rfl,rfl⟩
   ·have e1:((n:Int) == 1)=false:=by simp;omega
    have HR:Hid (A1c 4 n=3):=by
     show _=_
     unfold A1c
     rw[if_neg (by omega),if_pos rfl,if_neg (by omega)]
    clear q0 q1
    go_enter Tryz.func7,Tryz.ntmps7
    go_wp2
    go_ret
    exact⟨by rw[HR.out];rfl,rfl⟩
 by_cases h7:kind=7
 ·subst h7
  by_cases hq:n≤4294967295
  ·have HR:Hid (A1c 7 n=0):=by show _=_;unfold A1c;simp[hq]
   have hq':decide ((n:Int) < 4294967296)=true:=by simp;omega
   clear hq
   go_enter Tryz.func7,Tryz.ntmps7
   go_wp2
   go_ret
   exact⟨by rw[HR.out];rfl,rfl⟩
  ·have HR:Hid (A1c 7 n=3):=by show _=_;unfold A1c;simp[hq]
   have hq':decide ((n:Int) < 4294967296)=false:=by simp;omega
   clear hq
   go_enter Tryz.func7,Tryz.ntmps7
   go_wp2
   go_ret
   exact⟨by rw[HR.out];rfl,rfl⟩
 by_cases h0:kind=1∨kind=2∨kind=3∨kind=6
 ·have HR:Hid (A1c kind n=0):=by show _=_;unfold A1c;rw[if_pos h0]
  clear h5 h4 h7
  rcases h0 with rfl|rfl|rfl|rfl
  all_goals
   go_enter Tryz.func7,Tryz.ntmps7
   go_wp2
   go_ret
   exact⟨by rw[HR.out];rfl,rfl⟩
 ·have HR:Hid (A1c kind n=1):=by show _=_;unfold A1c;rw[if_neg h0,if_neg h4,if_neg h5,if_neg h7]
  have e1:(kind == 1)=false:=by simp;omega
  have e2:(kind == 2)=false:=by simp;omega
  have e3:(kind == 3)=false:=by simp;omega
  have e4:(kind == 4)=false:=by simpa using h4
  have e5:(kind == 5)=false:=by simpa using h5
  have e6:(kind == 6)=false:=by simp;omega
  have e7:(kind == 7)=false:=by simpa using h7
  clear h0 h4 h5 h7
  go_enter Tryz.func7,Tryz.ntmps7
  go_wp2
  go_ret
  exact⟨by rw[HR.out];rfl,rfl⟩
end L
end Go.Proofs.YtelmjekjohbmjaaGreatDoor
namespace Go.Proofs.YtelmjekjohbmjaaGreatDoor
namespace L
open Go.RowKit
set_option linter.unusedVariables false
def A2g (n b0 b1 b2 b3:Nat):Nat:=
 if b0 < 128 then 1
 else if 194≤b0∧b0 < 224 then(if 1 < n∧b1 / 64=2 then 2 else 0)
 else if 224≤b0∧b0 < 240 then(if (1 < n∧b1 / 64=2)∧(2 < n∧b2 / 64=2)∧2048≤64*(64*(b0 - 224)+b1%64)+b2%64∧¬ (55296≤64*(64*(b0 - 224)+b1%64)+b2%64∧64*(64*(b0 - 224)+b1%64)+b2%64 < 57344) then 3 else 0)
 else if 240≤b0∧b0 < 245 then(if (1 < n∧b1 / 64=2)∧(2 < n∧b2 / 64=2)∧(3 < n∧b3 / 64=2)∧65536≤64*(64*(64*(b0 - 240)+b1%64)+b2%64)+b3%64∧64*(64*(64*(b0 - 240)+b1%64)+b2%64)+b3%64≤1114111 then 4 else 0)
 else 0
set_option maxHeartbeats 4000000 in
theorem B9o (n b0 b1 b2 b3:Nat) (h0:b0 < 256) (h1:b1 < 256) (h2:b2 < 256) (h3:b3 < 256):(A2g n b0 b1 b2 b3=0∧Lib.decodeN n b0 b1 b2 b3=(65533,1))∨(A2g n b0 b1 b2 b3≠0∧∃ r,Lib.decodeN n b0 b1 b2 b3=(r,A2g n b0 b1 b2 b3)∧¬ (r=65533∧A2g n b0 b1 b2 b3=1)):=by
 by_cases c0:b0 < 128
 ·skip
  have hs:A2g n b0 b1 b2 b3=1:=by unfold A2g;rw[if_pos c0]
  have hd:∃ r,Lib.decodeN n b0 b1 b2 b3=(r,1)∧¬ (r=65533∧1=1):=by
   unfold Lib.decodeN
   rw[if_pos c0]
   exact⟨_,rfl,by omega⟩
  rw[hs]
  exact .inr ⟨by omega,hd⟩
 by_cases c1:194≤b0∧b0 < 224
 ·by_cases q:1 < n∧b1 / 64=2
  ·skip
   have hs:A2g n b0 b1 b2 b3=2:=by unfold A2g;rw[if_neg c0,if_pos c1,if_pos q]
   have hd:∃ r,Lib.decodeN n b0 b1 b2 b3=(r,2)∧¬ (r=65533∧2=1):=by
    unfold Lib.decodeN
    rw[if_neg c0,if_pos ⟨by omega,q⟩,if_pos (by omega)]
    exact⟨_,rfl,by omega⟩
   rw[hs]
   exact .inr ⟨by omega,hd⟩
  ·skip
   have hs:A2g n b0 b1 b2 b3=0:=by unfold A2g;rw[if_neg c0,if_pos c1,if_neg q]
   have hd:Lib.decodeN n b0 b1 b2 b3=(65533,1):=by unfold Lib.decodeN;rw[if_neg c0,if_neg (fun h=>q h.2),if_neg (by omega),if_neg (by omega)]
   exact .inl ⟨hs,hd⟩
 by_cases c2:224≤b0∧b0 < 240
 ·by_cases q:(1 < n∧b1 / 64=2)∧(2 < n∧b2 / 64=2)
  ·by_cases v:2048≤64*(64*(b0 - 224)+b1%64)+b2%64∧¬ (55296≤64*(64*(b0 - 224)+b1%64)+b2%64∧64*(64*(b0 - 224)+b1%64)+b2%64 < 57344)
   ·skip
    have hs:A2g n b0 b1 b2 b3=3:=by unfold A2g;rw[if_neg c0,if_neg c1,if_pos c2,if_pos ⟨q.1,q.2,v⟩]
    have hd:∃ r,Lib.decodeN n b0 b1 b2 b3=(r,3)∧¬ (r=65533∧3=1):=by
     unfold Lib.decodeN
     rw[if_neg c0,if_neg (by omega),if_pos ⟨by omega,q.1,q.2⟩,if_pos (by omega)]
     exact⟨_,rfl,by omega⟩
    rw[hs]
    exact .inr ⟨by omega,hd⟩
   ·skip
    have hs:A2g n b0 b1 b2 b3=0:=by unfold A2g;rw[if_neg c0,if_neg c1,if_pos c2,if_neg (fun h=>v h.2.2)]
    have hd:Lib.decodeN n b0 b1 b2 b3=(65533,1):=by unfold Lib.decodeN;rw[if_neg c0,if_neg (by omega),if_pos ⟨by omega,q.1,q.2⟩,if_neg (by omega)]
    exact .inl ⟨hs,hd⟩
  ·skip
   have hs:A2g n b0 b1 b2 b3=0:=by unfold A2g;rw[if_neg c0,if_neg c1,if_pos c2,if_neg (fun h=>q ⟨h.1,h.2.1⟩)]
   have hd:Lib.decodeN n b0 b1 b2 b3=(65533,1):=by unfold Lib.decodeN;rw[if_neg c0,if_neg (by omega),if_neg (fun h=>q h.2),if_neg (by omega)]
   exact .inl ⟨hs,hd⟩
 by_cases c3:240≤b0∧b0 < 245
 ·by_cases q:(1 < n∧b1 / 64=2)∧(2 < n∧b2 / 64=2)∧(3 < n∧b3 / 64=2)
  ·by_cases v:65536≤64*(64*(64*(b0 - 240)+b1%64)+b2%64)+b3%64∧64*(64*(64*(b0 - 240)+b1%64)+b2%64)+b3%64≤1114111
   ·skip
    have hs:A2g n b0 b1 b2 b3=4:=by unfold A2g;rw[if_neg c0,if_neg c1,if_neg c2,if_pos c3,if_pos ⟨q.1,q.2.1,q.2.2,v⟩]
    have hd:∃ r,Lib.decodeN n b0 b1 b2 b3=(r,4)∧¬ (r=65533∧4=1):=by
     unfold Lib.decodeN
     rw[if_neg c0,if_neg (by omega),if_neg (by omega),if_pos ⟨by omega,q.1,q.2.1,q.2.2⟩,if_pos (by omega)]
     exact⟨_,rfl,by omega⟩
    rw[hs]
    exact .inr ⟨by omega,hd⟩
   ·skip
    have hs:A2g n b0 b1 b2 b3=0:=by unfold A2g;rw[if_neg c0,if_neg c1,if_neg c2,if_pos c3,if_neg (fun h=>v h.2.2.2)]
    have hd:Lib.decodeN n b0 b1 b2 b3=(65533,1):=by unfold Lib.decodeN;rw[if_neg c0,if_neg (by omega),if_neg (by omega),if_pos ⟨by omega,q.1,q.2.1,q.2.2⟩,if_neg (by omega)]
    exact .inl ⟨hs,hd⟩
  ·skip
   have hs:A2g n b0 b1 b2 b3=0:=by unfold A2g;rw[if_neg c0,if_neg c1,if_neg c2,if_pos c3,if_neg (fun h=>q ⟨h.1,h.2.1,h.2.2.1⟩)]
   have hd:Lib.decodeN n b0 b1 b2 b3=(65533,1):=by unfold Lib.decodeN;rw[if_neg c0,if_neg (by omega),if_neg (by omega),if_neg (fun h=>q h.2)]
   exact .inl ⟨hs,hd⟩
 left
 refine⟨by unfold A2g;rw[if_neg c0,if_neg c1,if_neg c2,if_neg c3],?_⟩
 unfold Lib.decodeN
 rw[if_neg c0]
 by_cases d1:b0 / 32=6∧(1 < n∧b1 / 64=2)
 ·rw[if_pos d1,if_neg (by omega)]
 rw[if_neg d1,if_neg (by omega)]
 by_cases d3:b0 / 8=30∧(1 < n∧b1 / 64=2)∧(2 < n∧b2 / 64=2)∧(3 < n∧b3 / 64=2)
 ·rw[if_pos d3,if_neg (by omega)]
 rw[if_neg d3]
theorem B4w (l:List UInt8) (hne:l≠[]):Lib.validD l=if A2g l.length (l.getD 0 0).toNat (l.getD 1 0).toNat (l.getD 2 0).toNat (l.getD 3 0).toNat=0 then false else Lib.validD (l.drop (A2g l.length (l.getD 0 0).toNat (l.getD 1 0).toNat (l.getD 2 0).toNat (l.getD 3 0).toNat)):=by
 rw[Lib.validD_step l hne,Lib.decodeL_N]
 rcases B9o l.length (l.getD 0 0).toNat (l.getD 1 0).toNat (l.getD 2 0).toNat (l.getD 3 0).toNat (l.getD 0 0).toNat_lt (l.getD 1 0).toNat_lt (l.getD 2 0).toNat_lt (l.getD 3 0).toNat_lt with⟨h1,h2⟩|⟨h1,r,h2,h3⟩
 ·rw[h1,h2];simp
 ·rw[if_neg h1,h2,if_neg h3]
end L
end Go.Proofs.YtelmjekjohbmjaaGreatDoor
namespace Go.Proofs.YtelmjekjohbmjaaGreatDoor
namespace L
open Go.RowKit
theorem A5i {w:World}{ao:Option Addr}{len cap:Nat}{l:List UInt8}(h:RdL 1 YAt w (.slice ao len cap) l):(convert 68 9 (.slice ao len cap)).run Tryz.prog w = .ok (.string ⟨l.toArray⟩) w:=by
 obtain⟨ao',n',cap',e,h1,h2,h3,h4,h5⟩:=h
 cases e
 cases ao with
 | none=>
  have hc0:=(h4 rfl).1
  have hm:l = []:=List.eq_nil_of_length_eq_zero (by omega)
  subst hm
  rw[run_convert_bytes_nil w 68 5 Tryz.underlying68 Tryz.underlying5 len cap 9 Tryz.underlying9]
  rfl
 | some x=>
  have hl:(loadCells x len).run Tryz.prog w = .ok ((l.map fun c=>((c.toNat:Nat):Int)).map (Value.int .u8)).toArray w:=by
   have:=run_loadCells_list (P:=Tryz.prog) w x ((l.map fun c=>((c.toNat:Nat):Int)).map (Value.int .u8)) (fun j v hj=>by
    rw[List.getElem?_map,List.getElem?_map] at hj
    cases hc:l[j]? with
    | none=>rw[hc] at hj;cases hj
    | some c=>
     rw[hc] at hj
     have:=h5 x rfl j c hc
     rw[Nat.mul_one] at this
     rw[show w.cell? (x.add j)=_ from this]
     exact hj)
   simpa [h1] using this
  rw[run_convert_bytes_string w 68 9 5 _ len cap Tryz.underlying68 Tryz.underlying5 Tryz.underlying9,run_bytesToString w _ len cap _ hl,foldl_push_bytes]
  have e:∀ l:List UInt8,(l.map fun c=>((c.toNat:Nat):Int)).map (fun n:Int=>UInt8.ofNat n.toNat)=l:=by
   intro l
   rw[List.map_map]
   conv=>rhs;rw[←List.map_id l]
   apply List.map_congr_left
   intro c _
   simp
  rw[e]
  simp[ByteArray.empty,ByteArray.emptyWithCapacity]
  rfl
end L
end Go.Proofs.YtelmjekjohbmjaaGreatDoor
