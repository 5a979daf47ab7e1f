import Derived.Test.YtgaoojpakjjdnaaGreatDoorV34
import Derived.Test.YtgaoojpakjjdnaaGreatDoorV02
import Derived.Test.YtgaoojpakjjdnaaGreatDoorV01
import Derived.Laws.BytesArg
set_option maxHeartbeats 32000000
set_option maxRecDepth 100000
namespace Go.Proofs.YtgaoojpakjjdnaaGreatDoor
namespace L
open Go.RowKit
set_option linter.unusedVariables false
def C0f (l:List RI):List UInt8:=l.flatMap fun r=>recN r.number r.how r.bits r.bytes
theorem C4j:∀ (l:List RI) (acc:List UInt8),acc.length≤4000→(∀ r∈l,A0x r.number r.how r.bits r.bytes.length=0)→A3z acc l=if (acc++C0f l).length≤4000 then(acc++C0f l,0) else([],4)
 | [],acc,h,_=>by
  have e:C0f [] = []:=rfl
  rw[e,List.append_nil,if_pos h]
  rfl
 | r::l,acc,h,hw=>by
  have e:C0f (r::l)=recN r.number r.how r.bits r.bytes++C0f l:=rfl
  rw[B9l,if_neg (by rw[hw r (List.mem_cons_self ..)];simp),e,←List.append_assoc]
  by_cases h2:4000 < (acc++recN r.number r.how r.bits r.bytes).length
  ·rw[if_pos h2,if_neg]
   rw[List.length_append]
   omega
  ·rw[if_neg h2]
   exact C4j l _ (by omega) fun q hq=>hw q (List.mem_cons_of_mem _ hq)
def A9x {β:Type}(deep:List UInt8→β→List UInt8) (x:FI) (v:VI β):List RI:=
 if x.kind=10 then v.subs.map (fun s=>B0h x.number (deep x.type s))
 else if A3j x.kind=2 then v.bytes.map (B0h x.number)
 else if x.many=true then [B0h x.number (packedN (A3j x.kind) (v.bits.map (A4r x.kind)))]
 else [⟨x.number,A3j x.kind,A4r x.kind (v.bits.headD 0),[]⟩]
def D5m {β:Type}(deep:List UInt8→β→List UInt8) (fs:List FI) (b:BO β):List RI:=b.vals.flatMap (fun v=>A9x deep (A0q fs v.number) v)++b.unk
def A7q (g:GI):(d:Nat)→MI→BI d→List UInt8
 | 0=>fun _ _=>[]
 | d+1=>fun m b=>C0f (D5m (fun t x=>A7q g d (A4i g t) x) m.fields b)
theorem C3a (num:Int) (z:List UInt8):z.length < (recN num 2 0 z).length:=by
 unfold recN
 rw[if_pos rfl,List.length_append,List.length_append]
 have:1≤(ktagN num 2).length:=by
  unfold ktagN
  exact B4s _
 omega
theorem D3x {l:List RI}{r:RI}(h:r∈l):(recN r.number r.how r.bits r.bytes).length≤(C0f l).length:=by
 induction l with
 | nil=>cases h
 | cons a l ih=>
  have e:C0f (a::l)=recN a.number a.how a.bits a.bytes++C0f l:=rfl
  rw[e,List.length_append]
  rcases List.mem_cons.1 h with rfl|h
  ·omega
  ·have:=ih h
   omega
theorem C0j {β:Type}{deep:List UInt8→β→List UInt8×Int}{deepU:List UInt8→β→List UInt8}{fs:List FI}{f:List UInt8→β→Int}:∀ (l:List (VI β)) (acc:List RI),(∀ v∈l,∃ x,RtV fs f x v)→(∀ v∈l,∀ s∈v.subs,deep (A0q fs v.number).type s=if (deepU (A0q fs v.number).type s).length≤4000 then(deepU (A0q fs v.number).type s,0) else([],4))→
  A2d deep fs acc l=(acc++l.flatMap (fun v=>A9x deepU (A0q fs v.number) v),0)∨(A2d deep fs acc l=([],4)∧∃ r∈l.flatMap (fun v=>A9x deepU (A0q fs v.number) v),4000 < (recN r.number r.how r.bits r.bytes).length)
 | [],acc,_,_=>.inl (by simp[A2d])
 | v::l,acc,h1,h2=>by
  have ag:∀ (ss:List β) (a:List (List UInt8)),(∀ s∈ss,s∈v.subs)→(A0q fs v.number).kind=10→A3v (deep (A0q fs v.number).type) a ss=(a++ss.map (deepU (A0q fs v.number).type),0)∨(A3v (deep (A0q fs v.number).type) a ss=([],4)∧∃ s∈ss,4000 < (deepU (A0q fs v.number).type s).length):=by
   intro ss
   induction ss with
   | nil=>intro a _ _;exact .inl (by simp[A3v])
   | cons s ss ih=>
    intro a ah hk
    have hd:=h2 v (List.mem_cons_self ..) s (ah s (List.mem_cons_self ..))
    unfold A3v
    by_cases hl:(deepU (A0q fs v.number).type s).length≤4000
    ·rw[hd,if_pos hl,if_neg (by simp)]
     rcases ih (a++[deepU (A0q fs v.number).type s]) (fun q hq=>ah q (List.mem_cons_of_mem _ hq)) hk with h|⟨h,q,hq,hl'⟩
     ·exact .inl (by rw[h];simp)
     ·exact .inr ⟨h,q,List.mem_cons_of_mem _ hq,hl'⟩
    ·rw[hd,if_neg hl,if_pos (by simp)]
     exact .inr ⟨rfl,s,List.mem_cons_self ..,by omega⟩
  have ac:A2i deep (A0q fs v.number) v=(A9x deepU (A0q fs v.number) v,0)∨((A2i deep (A0q fs v.number) v).2=4∧∃ r∈A9x deepU (A0q fs v.number) v,4000 < (recN r.number r.how r.bits r.bytes).length):=by
   unfold A2i A9x
   by_cases hk:(A0q fs v.number).kind=10
   ·rw[if_pos hk,if_pos hk]
    rcases ag v.subs [] (fun _ h=>h) hk with h|⟨h,s,hs,hl⟩
    ·left
     rw[h,List.nil_append,List.map_map]
     rfl
    ·right
     rw[h]
     exact⟨rfl,_,List.mem_map_of_mem hs,Nat.lt_trans hl (C3a _ _)⟩
   ·rw[if_neg hk,if_neg hk]
    left
    split
    ·rfl
    ·split <;> rfl
  unfold A2d
  rcases ac with h|⟨h,r,hr,hl⟩
  ·rw[h,if_neg (by simp)]
   rcases C0j l (acc++A9x deepU (A0q fs v.number) v) (fun q hq=>h1 q (List.mem_cons_of_mem _ hq)) (fun q hq=>h2 q (List.mem_cons_of_mem _ hq)) with h'|⟨h',r,hr,hl⟩
   ·exact .inl (by rw[h',List.flatMap_cons,List.append_assoc])
   ·exact .inr ⟨h',r,by rw[List.flatMap_cons];exact List.mem_append_right _ hr,hl⟩
  ·rw[if_pos (by rw[h];simp),h]
   exact .inr ⟨rfl,r,by rw[List.flatMap_cons];exact List.mem_append_left _ hr,hl⟩
theorem D2t {g:GI}(ah:(wrongL g).1=0):∀ (d:Nat) (k:Int) (m:MI) (b:BI d),m∈g.msgs→A3n g d k m.fields b=0→A1q g d m b=if (A7q g d m b).length≤4000 then(A7q g d m b,0) else([],4)
 | 0,_,_,b,_,_=>nomatch (b:Empty)
 | d+1,k,m,b,hm,he=>by
  obtain⟨_,hr,hu⟩:=A5w he
  have ac:∀ v∈BO.vals b,∀ s∈v.subs,(fun t x=>A1q g d (A4i g t) x) (A0q m.fields v.number).type s=if ((fun t x=>A7q g d (A4i g t) x) (A0q m.fields v.number).type s).length≤4000 then((fun t x=>A7q g d (A4i g t) x) (A0q m.fields v.number).type s,0) else([],4):=fun v hv s hs=>by
   obtain⟨y,hy⟩:=hr.each v hv
   rw[A5b hy.fld]
   obtain⟨_,M,hM⟩:=B5v ah hm hy hs
   have hz:=hy.subs s hs
   rw[B5w hM] at hz
   show A1q g d (A4i g y.type) s=if (A7q g d (A4i g y.type) s).length≤4000 then(A7q g d (A4i g y.type) s,0) else([],4)
   rw[B8j hM]
   exact D2t ah d (k+1) M s (List.mem_of_find?_eq_some hM) hz
  have hw:A7q g (d+1) m b=C0f ((BO.vals b).flatMap (fun v=>A9x (fun t x=>A7q g d (A4i g t) x) (A0q m.fields v.number) v)++BO.unk b):=rfl
  rcases C0j (deep:=fun t x=>A1q g d (A4i g t) x) (deepU:=fun t x=>A7q g d (A4i g t) x) (BO.vals b) [] hr.each ac with h|⟨h,r,hr',hl⟩
  ·have hall:=B4v (deep:=fun t x=>A1q g d (A4i g t) x) (fs:=m.fields) (BO.vals b) [] (by rw[h])
   have ag:A2d (fun t x=>A1q g d (A4i g t) x) m.fields [] (BO.vals b)=((BO.vals b).flatMap (fun v=>A9x (fun t x=>A7q g d (A4i g t) x) (A0q m.fields v.number) v),0):=by rw[h,List.nil_append]
   show B5h (fun t x=>A1q g d (A4i g t) x) m b=_
   unfold B5h
   rw[ag,if_neg (by simp),hw]
   have:=C4j ((BO.vals b).flatMap (fun v=>A9x (fun t x=>A7q g d (A4i g t) x) (A0q m.fields v.number) v)++BO.unk b) [] (by simp) (fun q hq=>by
    rcases List.mem_append.1 hq with hq|hq
    ·have e:=hall.1
     rw[ag,List.nil_append] at e
     have hq':q∈(BO.vals b).flatMap (fun v=>(A2i (fun t x=>A1q g d (A4i g t) x) (A0q m.fields v.number) v).1):=by rw[←e];exact hq
     obtain⟨v,hv,hq'⟩:=List.mem_flatMap.1 hq'
     obtain⟨y,hy⟩:=hr.each v hv
     rw[A5b hy.fld] at hq'
     exact C3d ah hm (fun t x=>B1z g d (A4i g t) x) hy q hq'
    ·exact(C7t (hu q hq)).1)
   rw[List.nil_append] at this
   exact this
  ·show B5h (fun t x=>A1q g d (A4i g t) x) m b=_
   unfold B5h
   rw[h,if_pos (by simp),if_neg]
   rw[hw]
   have:=D3x (List.mem_append_left (BO.unk b) hr')
   omega
open Go.RowKit
set_option linter.unusedVariables false
def A2v (n b0 b1 b2 b3:Nat):Nat:=
 if b0 < 128 then 1
 else if 194≤b0∧b0 < 224 then(if 1 < n∧b1 / 64=2 then 2 else 0)
 else if 224≤b0∧b0 < 240 then(if (1 < n∧b1 / 64=2)∧(2 < n∧b2 / 64=2)∧2048≤64*(64*(b0 - 224)+b1%64)+b2%64∧¬ (55296≤64*(64*(b0 - 224)+b1%64)+b2%64∧64*(64*(b0 - 224)+b1%64)+b2%64 < 57344) then 3 else 0)
 else if 240≤b0∧b0 < 245 then(if (1 < n∧b1 / 64=2)∧(2 < n∧b2 / 64=2)∧(3 < n∧b3 / 64=2)∧65536≤64*(64*(64*(b0 - 240)+b1%64)+b2%64)+b3%64∧64*(64*(64*(b0 - 240)+b1%64)+b2%64)+b3%64≤1114111 then 4 else 0)
 else 0
theorem D1f (n b0 b1 b2 b3:Nat) (h0:b0 < 256) (h1:b1 < 256) (h2:b2 < 256) (h3:b3 < 256):(A2v n b0 b1 b2 b3=0∧Lib.decodeN n b0 b1 b2 b3=(65533,1))∨(A2v n b0 b1 b2 b3≠0∧∃ r,Lib.decodeN n b0 b1 b2 b3=(r,A2v n b0 b1 b2 b3)∧¬ (r=65533∧A2v n b0 b1 b2 b3=1)):=by
 by_cases c0:b0 < 128
 ·skip
  have hs:A2v n b0 b1 b2 b3=1:=by unfold A2v;rw[if_pos c0]
  have hd:∃ r,Lib.decodeN n b0 b1 b2 b3=(r,1)∧¬ (r=65533∧1=1):=by
   unfold Lib.decodeN
   rw[if_pos c0]
   exact⟨_,rfl,by omega⟩
  rw[hs]
  exact .inr ⟨by omega,hd⟩
 by_cases c1:194≤b0∧b0 < 224
 ·by_cases q:1 < n∧b1 / 64=2
  ·skip
   have hs:A2v n b0 b1 b2 b3=2:=by unfold A2v;rw[if_neg c0,if_pos c1,if_pos q]
   have hd:∃ r,Lib.decodeN n b0 b1 b2 b3=(r,2)∧¬ (r=65533∧2=1):=by
    unfold Lib.decodeN
    rw[if_neg c0,if_pos ⟨by omega,q⟩,if_pos (by omega)]
    exact⟨_,rfl,by omega⟩
   rw[hs]
   exact .inr ⟨by omega,hd⟩
  ·skip
   have hs:A2v n b0 b1 b2 b3=0:=by unfold A2v;rw[if_neg c0,if_pos c1,if_neg q]
   have hd:Lib.decodeN n b0 b1 b2 b3=(65533,1):=by unfold Lib.decodeN;rw[if_neg c0,if_neg (fun h=>q h.2),if_neg (by omega),if_neg (by omega)]
   exact .inl ⟨hs,hd⟩
 by_cases c2:224≤b0∧b0 < 240
 ·by_cases q:(1 < n∧b1 / 64=2)∧(2 < n∧b2 / 64=2)
  ·by_cases v:2048≤64*(64*(b0 - 224)+b1%64)+b2%64∧¬ (55296≤64*(64*(b0 - 224)+b1%64)+b2%64∧64*(64*(b0 - 224)+b1%64)+b2%64 < 57344)
   ·skip
    have hs:A2v n b0 b1 b2 b3=3:=by unfold A2v;rw[if_neg c0,if_neg c1,if_pos c2,if_pos ⟨q.1,q.2,v⟩]
    have hd:∃ r,Lib.decodeN n b0 b1 b2 b3=(r,3)∧¬ (r=65533∧3=1):=by
     unfold Lib.decodeN
     rw[if_neg c0,if_neg (by omega),if_pos ⟨by omega,q.1,q.2⟩,if_pos (by omega)]
     exact⟨_,rfl,by omega⟩
    rw[hs]
    exact .inr ⟨by omega,hd⟩
   ·skip
    have hs:A2v n b0 b1 b2 b3=0:=by unfold A2v;rw[if_neg c0,if_neg c1,if_pos c2,if_neg (fun h=>v h.2.2)]
    have hd:Lib.decodeN n b0 b1 b2 b3=(65533,1):=by unfold Lib.decodeN;rw[if_neg c0,if_neg (by omega),if_pos ⟨by omega,q.1,q.2⟩,if_neg (by omega)]
    exact .inl ⟨hs,hd⟩
  ·skip
   have hs:A2v n b0 b1 b2 b3=0:=by unfold A2v;rw[if_neg c0,if_neg c1,if_pos c2,if_neg (fun h=>q ⟨h.1,h.2.1⟩)]
   have hd:Lib.decodeN n b0 b1 b2 b3=(65533,1):=by unfold Lib.decodeN;rw[if_neg c0,if_neg (by omega),if_neg (fun h=>q h.2),if_neg (by omega)]
   exact .inl ⟨hs,hd⟩
 by_cases c3:240≤b0∧b0 < 245
 ·by_cases q:(1 < n∧b1 / 64=2)∧(2 < n∧b2 / 64=2)∧(3 < n∧b3 / 64=2)
  ·by_cases v:65536≤64*(64*(64*(b0 - 240)+b1%64)+b2%64)+b3%64∧64*(64*(64*(b0 - 240)+b1%64)+b2%64)+b3%64≤1114111
   ·skip
    have hs:A2v n b0 b1 b2 b3=4:=by unfold A2v;rw[if_neg c0,if_neg c1,if_neg c2,if_pos c3,if_pos ⟨q.1,q.2.1,q.2.2,v⟩]
    have hd:∃ r,Lib.decodeN n b0 b1 b2 b3=(r,4)∧¬ (r=65533∧4=1):=by
     unfold Lib.decodeN
     rw[if_neg c0,if_neg (by omega),if_neg (by omega),if_pos ⟨by omega,q.1,q.2.1,q.2.2⟩,if_pos (by omega)]
     exact⟨_,rfl,by omega⟩
    rw[hs]
    exact .inr ⟨by omega,hd⟩
   ·skip
    have hs:A2v n b0 b1 b2 b3=0:=by unfold A2v;rw[if_neg c0,if_neg c1,if_neg c2,if_pos c3,if_neg (fun h=>v h.2.2.2)]
    have hd:Lib.decodeN n b0 b1 b2 b3=(65533,1):=by unfold Lib.decodeN;rw[if_neg c0,if_neg (by omega),if_neg (by omega),if_pos ⟨by omega,q.1,q.2.1,q.2.2⟩,if_neg (by omega)]
    exact .inl ⟨hs,hd⟩
  ·skip
   have hs:A2v n b0 b1 b2 b3=0:=by unfold A2v;rw[if_neg c0,if_neg c1,if_neg c2,if_pos c3,if_neg (fun h=>q ⟨h.1,h.2.1,h.2.2.1⟩)]
   have hd:Lib.decodeN n b0 b1 b2 b3=(65533,1):=by unfold Lib.decodeN;rw[if_neg c0,if_neg (by omega),if_neg (by omega),if_neg (fun h=>q h.2)]
   exact .inl ⟨hs,hd⟩
 left
 refine⟨by unfold A2v;rw[if_neg c0,if_neg c1,if_neg c2,if_neg c3],?_⟩
 unfold Lib.decodeN
 rw[if_neg c0]
 by_cases d1:b0 / 32=6∧(1 < n∧b1 / 64=2)
 ·rw[if_pos d1,if_neg (by omega)]
 rw[if_neg d1,if_neg (by omega)]
 by_cases d3:b0 / 8=30∧(1 < n∧b1 / 64=2)∧(2 < n∧b2 / 64=2)∧(3 < n∧b3 / 64=2)
 ·rw[if_pos d3,if_neg (by omega)]
 rw[if_neg d3]
theorem C3o (l:List UInt8) (hne:l≠[]):Lib.validD l=if A2v l.length (l.getD 0 0).toNat (l.getD 1 0).toNat (l.getD 2 0).toNat (l.getD 3 0).toNat=0 then false else Lib.validD (l.drop (A2v l.length (l.getD 0 0).toNat (l.getD 1 0).toNat (l.getD 2 0).toNat (l.getD 3 0).toNat)):=by
 rw[Lib.validD_step l hne,Lib.decodeL_N]
 rcases D1f l.length (l.getD 0 0).toNat (l.getD 1 0).toNat (l.getD 2 0).toNat (l.getD 3 0).toNat (l.getD 0 0).toNat_lt (l.getD 1 0).toNat_lt (l.getD 2 0).toNat_lt (l.getD 3 0).toNat_lt with⟨h1,h2⟩|⟨h1,r,h2,h3⟩
 ·rw[h1,h2];simp
 ·rw[if_neg h1,h2,if_neg h3]
open Go.RowKit
theorem A7u {w:World}{ao:Option Addr}{len cap:Nat}{l:List UInt8}(h:RdL 1 YAt w (.slice ao len cap) l):(convert 32 9 (.slice ao len cap)).run Tryz.prog w = .ok (.string ⟨l.toArray⟩) w:=by
 obtain⟨ac,n',cap',e,h1,h2,h3,h4,h5⟩:=h
 cases e
 cases ao with
 | none=>
  have hc0:=(h4 rfl).1
  have hm:l = []:=List.eq_nil_of_length_eq_zero (by omega)
  subst hm
  rw[run_convert_bytes_nil w 32 5 Tryz.underlying32 Tryz.underlying5 len cap 9 Tryz.underlying9]
  rfl
 | some x=>
  have hl:(loadCells x len).run Tryz.prog w = .ok ((l.map fun c=>((c.toNat:Nat):Int)).map (Value.int .u8)).toArray w:=by
   have:=run_loadCells_list (P:=Tryz.prog) w x ((l.map fun c=>((c.toNat:Nat):Int)).map (Value.int .u8)) (fun j v hj=>by
    rw[List.getElem?_map,List.getElem?_map] at hj
    cases hc:l[j]? with
    | none=>rw[hc] at hj;cases hj
    | some c=>
     rw[hc] at hj
     have:=h5 x rfl j c hc
     rw[Nat.mul_one] at this
     rw[show w.cell? (x.add j)=_ from this]
     exact hj)
   simpa [h1] using this
  rw[run_convert_bytes_string w 32 9 5 _ len cap Tryz.underlying32 Tryz.underlying5 Tryz.underlying9,run_bytesToString w _ len cap _ hl,foldl_push_bytes]
  have e:∀ l:List UInt8,(l.map fun c=>((c.toNat:Nat):Int)).map (fun n:Int=>UInt8.ofNat n.toNat)=l:=by
   intro l
   rw[List.map_map]
   conv=>rhs;rw[←List.map_id l]
   apply List.map_congr_left
   intro c _
   simp
  rw[e]
  simp[ByteArray.empty,ByteArray.emptyWithCapacity]
  rfl
end L
end Go.Proofs.YtgaoojpakjjdnaaGreatDoor
