import Derived.Test.YtgaoojpakjjdnaaGreatDoorV22
import Derived.Test.YtgaoojpakjjdnaaGreatDoorV27
set_option maxHeartbeats 32000000
set_option maxRecDepth 100000
set_option linter.unusedVariables false
namespace Go.Proofs.YtgaoojpakjjdnaaGreatDoor
open Go.RowKit
def A2u (p:Rcd×Value):List Value:=[.int .i64 p.1.num,.int .i64 p.1.how,.int .u64 (p.1.bits:Int),p.2]
def flat (ps:List (Rcd×Value)):List Value:=ps.flatMap A2u
def OwnR (w:World)(base:Nat)(v:Value)(ps:List (Rcd×Value)):Prop:=
 w.ownsRow base 106 4 v ps.length (flat ps)∧∀ p∈ps,OwnB w base p.2 p.1.bytes∧p.1.wf
theorem OwnR.nil (w:World)(base:Nat):OwnR w base (.slice none 0 0) []:=⟨World.ownsRow_nil _ _ _ _,fun p hp=>by cases hp⟩
theorem flat_len (ps:List (Rcd×Value)):(flat ps).length=ps.length*4:=by
 unfold flat
 induction ps with
 | nil=>rfl
 | cons p r ih=>rw[List.flatMap_cons,List.length_append,ih,List.length_cons];simp[A2u];omega
theorem flat_at (ps:List (Rcd×Value))(i:Nat)(p:Rcd×Value)(h:ps[i]?=some p) :
  (flat ps)[i*4]?=some (.int .i64 p.1.num)∧(flat ps)[i*4+1]?=some (.int .i64 p.1.how)∧(flat ps)[i*4+2]?=some (.int .u64 (p.1.bits:Int))∧(flat ps)[i*4+3]?=some p.2:=by
 unfold flat
 induction ps generalizing i with
 | nil=>simp at h
 | cons q r ih=>
  rw[List.flatMap_cons]
  cases i with
  | zero=>
   simp at h
   subst h
   simp[A2u]
  | succ i=>
   have h':r[i]?=some p:=by simpa using h
   have:=ih i h'
   rw[show(i+1)*4=(A2u q).length+i*4 by simp[A2u];omega]
   simp only[Nat.add_assoc,List.getElem?_append_right (Nat.le_add_right _ _),Nat.add_sub_cancel_left]
   exact this
theorem OwnB.ne_row {w:World}{base base':Nat}{sv v:Value}{l:List UInt8}{n:Nat}{xs:List Value}(h:OwnB w base sv l)(h':w.ownsRow base' 106 4 v n xs):sv.ownBlock=none∨sv.ownBlock≠v.ownBlock:=by
 rcases h.2 with⟨hv,_⟩|⟨g,cap,cur,hv,_,hg,_⟩
 ·left;rw[hv];rfl
 ·rcases h'.2 with⟨hv',_⟩|⟨g',cap',cur',hv',_,hg',_⟩
  ·right;rw[hv,hv'];simp[Value.ownBlock]
  ·right
   rw[hv,hv']
   simp only[Value.ownBlock,ne_eq,Option.some.injEq]
   intro e
   rw[e,hg'] at hg
   simp at hg
theorem OwnR.keptB {w w':World}{base:Nat}{v:Value}{ps:List (Rcd×Value)}(h:OwnR w base v ps)(hb:Below w.heap.size w w'):OwnR w' base v ps:=by
 refine⟨⟨h.1.1,?_⟩,fun p hp=>⟨(h.2 p hp).1.keptB hb,(h.2 p hp).2⟩⟩
 rcases h.1.2 with hn|⟨g,cap,cur,hv,hbg,hg,r⟩
 ·exact .inl hn
 ·exact .inr ⟨g,cap,cur,hv,hbg,by rw[hb.block g (Array.getElem?_eq_some_iff.1 hg).1];exact hg,r⟩
theorem D8p (b o i:Nat):(⟨b,o,none⟩:Addr).add i=⟨b,o+i,none⟩:=by unfold Addr.add;split <;> simp_all
theorem OwnR.rd {w:World}{base:Nat}{v:Value}{ps:List (Rcd×Value)}(h:OwnR w base v ps):∃ ao len cap,v = .slice ao len cap∧RdR w ao len cap (ps.map Prod.fst):=by
 obtain⟨h1,h2⟩:=h
 have ah:∀ r∈ps.map Prod.fst,r.wf:=by
  intro r hr
  rw[List.mem_map] at hr
  obtain⟨p,hp,rfl⟩:=hr
  exact(h2 p hp).2
 rcases h1.2 with⟨hv,hn⟩|⟨g,cap,cur,hv,hb,hg,hn,hm,hs,ht⟩
 ·have:ps = []:=List.eq_nil_of_length_eq_zero hn
  subst this
  exact⟨none,0,0,hv,rfl,Nat.le_refl _,by unfold maxLen;omega,fun _=>rfl,fun r hr=>by simp at hr,fun x hx=>by cases hx⟩
 ·refine⟨some ⟨g,0,none⟩,ps.length,cap,hv,by simp,hn,hm,by simp,ah,?_⟩
  intro x hx i r hr
  cases hx
  rw[List.getElem?_map] at hr
  cases hp:ps[i]? with
  | none=>rw[hp] at hr;cases hr
  | some p=>
   rw[hp] at hr
   cases hr
   obtain⟨ao,len,cap',ag,ac⟩:=(h2 p (List.mem_of_getElem? hp)).1.rd
   obtain⟨f0,f1,f2,f3⟩:=flat_at ps i p hp
   have hc:=World.ownsRow.cells h1 (g:=g) (by rw[hv];rfl)
   refine⟨ao,len,cap',hc _ _ f0,?_,?_,?_,ac⟩
   ·rw[B5i];exact hc _ _ f1
   ·rw[B5i];exact hc _ _ f2
   ·rw[B5i,←ag];exact hc _ _ f3
theorem D2b:(Tryz.prog.info? 106).map (fun i=>(i.zero,i.size,i.bytes))=some (some (.agg #[.int .i64 0,.int .i64 0,.int .u64 0,.slice none 0 0]),4,48):=by kernel_rfl
theorem B2s (ps:List (Rcd×Value))(p:Rcd×Value):flat (ps++[p])=flat ps++A2u p:=by simp[flat]
theorem C1n {w:World}{ops:Array Oper}{rest:List Oper}{o:Oper}{a:Act}{Q:Exit→Act→World→Prop}(hgd:o.guard=none)(s x:Operand)
  (ho:o.op = .call { callee:=.builtin .append,args:=#[s,x],argTypes:=#[27,27] })
  (base:Nat) (v:Value) (ps:List (Rcd×Value)) (p:Rcd×Value) (hs:a.eval s=v) (hown:OwnR w base v ps) (hp:OwnB w base p.2 p.1.bytes) (ag:p.1.wf) (g:Nat) (hx:a.eval x = .slice (some ⟨g,0,none⟩) 1 1)
  (hc:w.cell? ⟨g,0,none⟩=some (.int .i64 p.1.num)∧w.cell? ⟨g,1,none⟩=some (.int .i64 p.1.how)∧w.cell? ⟨g,2,none⟩=some (.int .u64 (p.1.bits:Int))∧w.cell? ⟨g,3,none⟩=some p.2)
  (hlen:ps.length+1≤1000000) (hb:base≤w.heap.size)
  (h:∀ v' w',OwnR w' base v' (ps++[p])→Below base w w'→wpList Tryz.prog ops Q rest (a.put o.dst v') w'):wpList Tryz.prog ops Q (o::rest) a w:=by
 obtain⟨i0,hi,hz0,hz1,hz2⟩:=info_parts D2b
 obtain⟨c0,c1,c2,c3⟩:=hc
 obtain⟨ao,len,cap,ac,_⟩:=hp.rd
 refine wpList_append_own w hgd s x 27 ho base 106 i0 _ 4 48 Tryz.underlying27 hi hz0 hz1 hz2 rfl (by decide) v ps.length _ hs hown.1 ⟨g,0,none⟩ 1 1
  (A2u p) hx rfl ?_ ?_ (by unfold maxLen;omega) (by omega) hb ?_
 ·intro j u hj
  rw[D8p]
  match j,hj with
  | 0,hj=>simp[A2u] at hj;subst hj;exact c0
  | 1,hj=>simp[A2u] at hj;subst hj;exact c1
  | 2,hj=>simp[A2u] at hj;subst hj;exact c2
  | 3,hj=>simp[A2u] at hj;subst hj;exact c3
  | j+4,hj=>simp[A2u] at hj
 ·intro u hu
  simp only[A2u,List.mem_cons,List.mem_nil_iff,or_false] at hu
  rcases hu with rfl|rfl|rfl|rfl
  ·rfl
  ·rfl
  ·rfl
  ·rw[ac];rfl
 ·intro v' w' h1 h2 _
  refine h v' w' ⟨?_,?_⟩ ((Below.refl base w).grown h2 hb (fun k hk=>(World.ownsRow.lt hown.1 k hk).1))
  ·rw[List.length_append,B2s];exact h1
  ·intro q hq
   rw[List.mem_append,List.mem_singleton] at hq
   rcases hq with hq|rfl
   ·exact⟨World.ownsRow.kept (hown.2 q hq).1 h2 ((hown.2 q hq).1.ne_row hown.1),(hown.2 q hq).2⟩
   ·exact⟨World.ownsRow.kept hp h2 (hp.ne_row hown.1),ag⟩
end Go.Proofs.YtgaoojpakjjdnaaGreatDoor
namespace Go.Proofs.YtgaoojpakjjdnaaGreatDoor
open Go.RowKit
def A3c:Nat→Nat→List Rcd→List UInt8→List Rcd×Nat×Nat
 | 0,_,acc,_=>(acc,0,0)
 | f+1,at_,acc,l=>
  if l.length=0 then(acc,0,0)
  else if (A6b l).2.2≠0 then([],(A6b l).2.2,at_)
  else A3c f (at_+(A6b l).2.1) (acc++[(A6b l).1]) (l.drop (A6b l).2.1)
def A2b (l:List UInt8):List Rcd×Nat×Nat:=if 4000<l.length then([],4,0) else A3c l.length 0 [] l
theorem B6s {l:List UInt8}{r:Rcd}{n E:Nat}(h:A6b l=(r,n,E)):E≤3∧n≤l.length∧(E=0→1≤n∧r.bytes.length≤n∧1≤r.num∧r.num<536870912∧A2a r.how=true∧0≤r.how∧r.how<8)∧r.wf:=by
 obtain⟨A,B,C,D,hT⟩:∃ A B C D,B7h l=(A,B,C,D):=⟨_,_,_,_,rfl⟩
 obtain⟨t1,t2,t3,t4,t5,t6⟩:=B7a hT
 rw[A6b,hT] at h
 dsimp only at h
 split at h
 ·obtain⟨rfl,rfl,rfl⟩:=A0n h
  refine⟨by omega,by omega,fun h=>by omega,?_⟩
  simp[Rcd.wf]
 ·rename_i h0
  obtain⟨c1,c2,c3⟩:=t6 (by omega)
  unfold A6q at h
  split at h
  ·obtain⟨S,T,U,hs⟩:∃ S T U,A4h (l.drop C)=(S,T,U):=⟨_,_,_,rfl⟩
   obtain⟨s1,s2,s3,s4,s5⟩:=A9w hs
   rw[hs] at h
   dsimp only at h
   rw[List.length_drop] at s1 s2
   split at h
   ·obtain⟨rfl,rfl,rfl⟩:=A0n h
    refine⟨by omega,by omega,fun h=>by omega,?_⟩
    simp[Rcd.wf]
   ·obtain⟨rfl,rfl,rfl⟩:=A0n h
    refine⟨by omega,by omega,fun _=>⟨by omega,by dsimp only;omega,by dsimp only;omega,by dsimp only;omega,c3,by dsimp only;omega,by dsimp only;omega⟩,?_⟩
    simp[Rcd.wf]
    omega
  ·obtain⟨S,T,U,hs⟩:∃ S T U,A2z (l.drop C) (B:Int)=(S,T,U):=⟨_,_,_,rfl⟩
   obtain⟨s1,s2,s3,s4⟩:=B1r hs
   rw[hs] at h
   dsimp only at h
   rw[List.length_drop] at s2
   split at h
   ·obtain⟨rfl,rfl,rfl⟩:=A0n h
    refine⟨by omega,by omega,fun h=>by omega,?_⟩
    simp[Rcd.wf]
   ·obtain⟨rfl,rfl,rfl⟩:=A0n h
    refine⟨by omega,by omega,fun _=>⟨by omega,by simp,by dsimp only;omega,by dsimp only;omega,c3,by dsimp only;omega,by dsimp only;omega⟩,?_⟩
    simp[Rcd.wf]
    omega
theorem A6l {f at_:Nat}{acc:List Rcd}{l:List UInt8}(h:l.length=0):A3c f at_ acc l=(acc,0,0):=by
 cases f with
 | zero=>rfl
 | succ f=>rw[A3c,if_pos h]
theorem A8l {f at_ n E:Nat}{acc:List Rcd}{l:List UInt8}{r:Rcd}(h:l.length≠0)(hr:A6b l=(r,n,E))(hE:E≠0):A3c (f+1) at_ acc l=([],E,at_):=by
 rw[A3c,if_neg h,hr,if_pos hE]
theorem A7u {f at_ n:Nat}{acc:List Rcd}{l:List UInt8}{r:Rcd}(h:l.length≠0)(hr:A6b l=(r,n,0)):A3c (f+1) at_ acc l=A3c f (at_+n) (acc++[r]) (l.drop n):=by
 rw[A3c,if_neg h,hr,if_neg (by simp)]
theorem D4j {w w':World}{B g t:Nat}{a b:Value}(h:w.heap[g]?=some (.cells #[a,b] t (0,0)))(hb:Below B w w')(hg:g<B) :
  w'.cell? ⟨g,0,none⟩=some a∧w'.cell? ⟨g,1,none⟩=some b∧w'.frozen? ⟨g,0,none⟩=false∧w'.frozen? ⟨g,1,none⟩=false:=by
 have h':w'.heap[g]?=some (.cells #[a,b] t (0,0)):=by rw[hb.block g hg];exact h
 simp[World.cell?,World.frozen?,h']
theorem OwnR.alloc {w:World}{base:Nat}{v:Value}{ps:List (Rcd×Value)}(h:OwnR w base v ps)(o:Obj):OwnR (w.alloc o) base v ps:=
 h.keptB ((Below.refl _ _).alloc (Nat.le_refl _) _)
theorem OwnR.mono {w:World}{base base':Nat}{v:Value}{ps:List (Rcd×Value)}(h:OwnR w base v ps)(hb:base'≤base):OwnR w base' v ps:=by
 refine⟨⟨h.1.1,?_⟩,fun p hp=>⟨(h.2 p hp).1.mono hb,(h.2 p hp).2⟩⟩
 rcases h.1.2 with hn|⟨g,cap,cur,hv,hbg,r⟩
 ·exact .inl hn
 ·exact .inr ⟨g,cap,cur,hv,Nat.le_trans hb hbg,r⟩
theorem OwnR.set_below {w:World}{base:Nat}{v:Value}{ps:List (Rcd×Value)}(h:OwnR w base v ps){a:Addr}(ha:a.block<base)(u:Value):OwnR (w.setCell a u) base v ps:=
 ⟨ownsRow_setCell_below h.1 ha u,fun p hp=>⟨ownsRow_setCell_below (h.2 p hp).1 ha u,(h.2 p hp).2⟩⟩
theorem D3d {ao:Option Addr}{len cap:Nat}{l:List UInt8}{w:World}(hr:RdA w ao len cap l){rs:List Rcd}{E A:Nat}(h:A2b l=(rs,E,A)) :
  Calls Tryz.prog 45 #[.slice ao len cap] w fun e w'=>∃ v' ps,e = .returned (.tuple #[v',.agg #[.int .i64 (E:Int),.int .i64 (A:Int)]])∧OwnR w' w.heap.size v' ps∧ps.map Prod.fst=rs∧Below w.heap.size w w':=by
 have HL:Hid (l.length=len):=hr.1
 have hlc:len≤cap:=hr.2.1
 have hcm:cap≤9223372036854775807:=by have:=hr.2.2.1;unfold maxLen at this;omega
 rw[A2b,HL.out] at h
 have hb0:Below w.heap.size w (w.alloc (.cells #[.int .i64 0,.int .i64 0] 50)):=(Below.refl _ _).alloc (Nat.le_refl _) _
 by_cases hm:4000<len
 ·rw[if_pos hm] at h
  obtain⟨rfl,rfl,rfl⟩:=A0n h
  clear h
  go_enter Tryz.func45,Tryz.ntmps45
  go_wp2
  refine bodyPost_ret (v:=.tuple #[.slice none 0 0,.agg #[.int .i64 4,.int .i64 0]]) (by simp[results,Tryz.results45,go_sem]) rfl ⟨_,[],rfl,OwnR.nil _ _,rfl,?_⟩
  exact(Below.refl _ _).alloc (Nat.le_refl _) _
 ·rw[if_neg hm] at h
  have HP:Hid (A3c len 0 [] (l.drop 0)=(rs,E,A)):=by show _=_;rw[List.drop_zero];exact h
  clear h
  have bt:decide ((4000:Int)<(len:Int))=false:=by simp;omega
  go_enter Tryz.func45,Tryz.ntmps45
  go_wp2
  go_loopw [4,5] (fun v i wr=>∃ (f k:Nat) (ps:List (Rcd×Value)),i = .int .i64 (k:Int)∧k≤len∧len≤f+k∧ps.length≤k∧OwnR wr (w.heap.size+1) v ps∧Below (w.heap.size+1) (w.alloc (.cells #[.int .i64 0,.int .i64 0] 50)) wr∧Hid (A3c f k (ps.map Prod.fst) (l.drop k)=(rs,E,A)))
   (fun _ i _=>len-(intOf i).toNat)
  case atStart=>exact⟨len,0,[],rfl,Nat.zero_le _,by omega,by simp,OwnR.nil _ _,Below.refl _ _,HP⟩
  case round=>
   obtain⟨f,k,ps,rfl,hk,hf,hpl,hown,aw,HR⟩:=hrel
   have bh:Below w.heap.size w wr:=hb0.trans (aw.mono (by omega))
   have hsz:w.heap.size+1≤wr.heap.size:=by have:=aw.size;simpa using this
   by_cases hlt:k<len
   ·obtain⟨br,bu,bq⟩:=A7w hr hk .i64
    obtain⟨r,n,F,Hr⟩:∃ r n F,Hid (A6b (l.drop k)=(r,n,F)):=⟨_,_,_,rfl⟩
    obtain⟨r1,r2,r3,r4⟩:=B6s Hr.out
    rw[List.length_drop,HL.out] at r2
    have hne:(l.drop k).length≠0:=by rw[List.length_drop,HL.out];omega
    have bg:Hid ((l.drop k).length≠0):=hne
    obtain⟨f',rfl⟩:∃ f',f=f'+1:=⟨f-1,by omega⟩
    have bc:=bq.later bh
    clear hne
    go_wp2_with fail
    refine(B7z bc (by omega) Hr.out).mono ?_
    rintro e w1 ⟨sv,rfl,aj,hbl⟩
    obtain⟨au,ag,ac,hv3,hr3⟩:=aj.rd
    have HV:Hid (sv = .slice au ag ac):=hv3
    rw[hv3]
    rw[hv3] at aj
    clear hv3
    have ah:Below (w.heap.size+1) (w.alloc (.cells #[.int .i64 0,.int .i64 0] 50)) w1:=aw.trans (hbl.mono hsz)
    obtain⟨g0,g1,g2,g3⟩:=D4j (g:=w.heap.size) (t:=50) (a:=.int .i64 0) (b:=.int .i64 0) (by exact heap_alloc_new w _) ah (by omega)
    have hs1:w.heap.size+1≤w1.heap.size:=by have:=hbl.size;omega
    have ba:w.heap.size<w1.heap.size:=by omega
    by_cases h0:F=0
    ·have bn:((F:Int) != 0)=false:=by simp[h0]
     have bk:Hid (A3c f' (k+n) (ps.map Prod.fst++[r]) ((l.drop k).drop n)=(rs,E,A)):=by
      show _=_
      rw[←HR.out,A7u bg.out (by rw[Hr.out,h0])]
     obtain⟨n1,_,_,_,_,_,_⟩:=r3 h0
     clear h0 HR r3
     have ak:OwnB w1 (w.heap.size+1) (.slice au ag ac) r.bytes:=aj.mono hsz
     have hown1:OwnR w1 (w.heap.size+1) u4 ps:=hown.keptB hbl
     go_wp2_with (at_builtin;refine C1n rfl _ _ rfl (w.heap.size+1) _ ps (r,.slice au ag ac) rfl ((hown1.alloc _).alloc _) ((ak.alloc _).alloc _) r4 (w1.heap.size+1) rfl ?c1 ?c2 ?c3 ?_)
     case c2=>omega
     case c3=>simp;omega
     intro v2 w2 bp hb2
     go_wp2
     go_roundw
     case rel=>
      refine⟨f',k+n,ps++[(r,.slice au ag ac)],by go_num,by omega,by omega,by simp;omega,bp,((ah.alloc hs1 _).alloc (by simp;omega) _).trans hb2,?_⟩
      show _=_
      rw[←bk.out,List.drop_drop,List.map_append]
      rfl
     case measure=>simp[intOf];omega
    ·have bn:((F:Int) != 0)=true:=by rw[bne_iff_ne];omega
     obtain⟨rfl,rfl,rfl⟩:=A0n (show([],F,k)=(rs,E,A) by rw[←HR.out,A8l bg.out Hr.out h0])
     clear h0 HR r3
     go_wp2
     refine bodyPost_ret (v:=.tuple #[.slice none 0 0,.agg #[.int .i64 (F:Int),.int .i64 (k:Int)]]) (by simp[results,Tryz.results45,go_sem,g0,g1,ba]) rfl ⟨_,[],rfl,OwnR.nil _ _,rfl,?_⟩
     exact(((hb0.trans (ah.mono (by omega))).setCell (Nat.le_refl _) _).setCell (Nat.le_refl _) _).alloc (by simp;omega) _
   ·obtain⟨g0,g1,g2,g3⟩:=D4j (g:=w.heap.size) (t:=50) (a:=.int .i64 0) (b:=.int .i64 0) (by exact heap_alloc_new w _) aw (by omega)
    obtain⟨e1,rfl,rfl⟩:=A0n (show(ps.map Prod.fst,0,0)=(rs,E,A) by rw[←HR.out,A6l (by rw[List.length_drop,HL.out];omega)])
    have E1:Hid (ps.map Prod.fst=rs):=e1
    clear HR e1
    go_wp2
    refine bodyPost_ret (v:=.tuple #[u4,.agg #[.int .i64 0,.int .i64 0]]) (by simp[results,Tryz.results45,go_sem,g0,g1]) rfl ⟨u4,ps,rfl,?_,E1.out,?_⟩
    ·exact((hown.set_below (by simp) _).set_below (by simp) _).mono (by omega)
    ·exact(bh.setCell (Nat.le_refl _) _).setCell (Nat.le_refl _) _
end Go.Proofs.YtgaoojpakjjdnaaGreatDoor
namespace Go.Proofs.YtgaoojpakjjdnaaGreatDoor
theorem C9g {l:List UInt8}{r:Rcd}{n:Nat}(h:A6b l=(r,n,0)):r.bytes.length+1≤n:=by
 obtain⟨A,B,C,D,hT⟩:∃ A B C D,B7h l=(A,B,C,D):=⟨_,_,_,_,rfl⟩
 obtain⟨t1,t2,t3,t4,t5,t6⟩:=B7a hT
 rw[A6b,hT] at h
 dsimp only at h
 split at h
 ·obtain⟨_,_,h3⟩:=A0n h
  omega
 ·rename_i h0
  obtain⟨c1,c2,c3⟩:=t6 (by omega)
  unfold A6q at h
  split at h
  ·obtain⟨S,T,U,hs⟩:∃ S T U,A4h (l.drop C)=(S,T,U):=⟨_,_,_,rfl⟩
   obtain⟨s1,s2,s3,s4,s5⟩:=A9w hs
   rw[hs] at h
   dsimp only at h
   split at h
   ·obtain⟨_,_,h3⟩:=A0n h
    omega
   ·obtain⟨rfl,rfl,_⟩:=A0n h
    dsimp only
    omega
  ·split at h
   ·obtain⟨_,_,h3⟩:=A0n h
    omega
   ·obtain⟨rfl,rfl,_⟩:=A0n h
    simp only[List.length_nil]
    omega
namespace L
open Go.RowKit
def A6e (r:Rcd):RI:=⟨r.num,r.how,r.bits,r.bytes⟩
def rsW (rs:List Rcd):Nat:=(rs.map fun r=>r.bytes.length+1).sum
def C3i (r:Rcd):Prop:=r.wf∧r.bytes.length≤4000
theorem C1h (a b:List Rcd):rsW (a++b)=rsW a+rsW b:=by simp[rsW]
theorem B8q:∀ (f at_:Nat) (acc:List Rcd) (l:List UInt8) (rs:List Rcd) (A:Nat),l.length≤4000→(∀ r∈acc,C3i r)→A3c f at_ acc l=(rs,0,A)→rsW rs≤rsW acc+l.length∧∀ r∈rs,C3i r
 | 0,_,acc,l,rs,A,hl,ha,h=>by
  obtain⟨rfl,_,_⟩:=A0n (show(acc,0,0)=(rs,0,A) from h)
  exact⟨by omega,ha⟩
 | f+1,at_,acc,l,rs,A,hl,ha,h=>by
  by_cases h0:l.length=0
  ·rw[A6l h0] at h
   obtain⟨rfl,_,_⟩:=A0n h
   exact⟨by omega,ha⟩
  ·obtain⟨r,n,E,hr⟩:∃ r n E,A6b l=(r,n,E):=⟨_,_,_,rfl⟩
   obtain⟨b1,b2,b3,b4⟩:=B6s hr
   by_cases hE:E=0
   ·subst hE
    rw[A7u h0 hr] at h
    have ac:=C9g hr
    obtain⟨h1,h2⟩:=B8q f _ _ _ rs A (by rw[List.length_drop];omega) (fun q hq=>by
     rcases List.mem_append.1 hq with hq|hq
     ·exact ha q hq
     ·rw[List.mem_singleton.1 hq]
      exact⟨b4,by omega⟩) h
    rw[C1h,List.length_drop] at h1
    have:rsW [r]=r.bytes.length+1:=by simp[rsW]
    exact⟨by omega,h2⟩
   ·rw[A8l h0 hr hE] at h
    obtain⟨_,h2,_⟩:=A0n h
    omega
theorem B6o {l:List UInt8}{rs:List Rcd}{A:Nat}(h:A2b l=(rs,0,A)):rsW rs≤l.length∧(∀ r∈rs,C3i r)∧l.length≤4000:=by
 unfold A2b at h
 split at h
 ·obtain⟨_,h2,_⟩:=A0n h
  omega
 ·obtain⟨h1,h2⟩:=B8q _ _ _ _ _ _ (by omega) (fun r hr=>by cases hr) h
  exact⟨by simpa [rsW] using h1,h2,by omega⟩
def msgD (g:GI)(t:List UInt8):MI:=(g.msgs.find? (isN t)).getD ⟨[],[],[]⟩
def A1f {n:Nat}(g:GI)(rd:List UInt8→List UInt8→Except Int (BI n))(fs:List FI):List RI→BO (BI n)→List RI→Except Int (BO (BI n))
 | [],b,un=>.ok ⟨b.vals,un⟩
 | r::rs,b,un=>
  match fs.find? (isF r.number) with
  | none=>A1f g rd fs rs b (un++[r])
  | some x=>
   match A3q rd x r with
   | .error E=>.error E
   | .ok v=>
    match A1w g n fs x b v with
    | .error E=>.error E
    | .ok b'=>A1f g rd fs rs b' un
def A3t (g:GI):(n:Nat)→MI→List UInt8→Except Int (BI n)
 | 0=>fun _ _=>.error 10
 | n+1=>fun m l=>if (A2b l).2.1≠0 then .error (((A2b l).2.1:Nat):Int) else A1f g (fun t l=>A3t g n (msgD g t) l) m.fields ((A2b l).1.map A6e) ⟨[],[]⟩ []
theorem A5c {n:Nat}{g:GI}{rd:List UInt8→List UInt8→Except Int (BI n)}{fs:List FI}{r:RI}{rs:List RI}{b:BO (BI n)}{un:List RI}(h:fs.find? (isF r.number)=none):A1f g rd fs (r::rs) b un=A1f g rd fs rs b (un++[r]):=by
 rw[A1f,h]
theorem A8m {n:Nat}{g:GI}{rd:List UInt8→List UInt8→Except Int (BI n)}{fs:List FI}{r:RI}{rs:List RI}{b:BO (BI n)}{un:List RI}{x:FI}(h:fs.find? (isF r.number)=some x):A1f g rd fs (r::rs) b un=match A3q rd x r with
   | .error E=>.error E
   | .ok v=>
    match A1w g n fs x b v with
    | .error E=>.error E
    | .ok b'=>A1f g rd fs rs b' un:=by
 rw[A1f,h]
theorem A8n {n:Nat}{g:GI}{rd:List UInt8→List UInt8→Except Int (BI n)}{fs:List FI}{r:RI}{rs:List RI}{b:BO (BI n)}{un:List RI}{x:FI}{E:Int}(h:fs.find? (isF r.number)=some x)(ht:A3q rd x r = .error E):A1f g rd fs (r::rs) b un = .error E:=by
 rw[A8m h,ht]
theorem A5d {n:Nat}{g:GI}{rd:List UInt8→List UInt8→Except Int (BI n)}{fs:List FI}{r:RI}{rs:List RI}{b:BO (BI n)}{un:List RI}{x:FI}{E:Int}{v:VI (BI n)}(h:fs.find? (isF r.number)=some x)(ht:A3q rd x r = .ok v)(hw:A1w g n fs x b v = .error E):A1f g rd fs (r::rs) b un = .error E:=by
 rw[A8m h,ht]
 dsimp only
 rw[hw]
theorem A7f {n:Nat}{g:GI}{rd:List UInt8→List UInt8→Except Int (BI n)}{fs:List FI}{r:RI}{rs:List RI}{b b':BO (BI n)}{un:List RI}{x:FI}{v:VI (BI n)}(h:fs.find? (isF r.number)=some x)(ht:A3q rd x r = .ok v)(hw:A1w g n fs x b v = .ok b'):A1f g rd fs (r::rs) b un=A1f g rd fs rs b' un:=by
 rw[A8m h,ht]
 dsimp only
 rw[hw]
structure RSt {n:Nat}(fs:List FI) (b:BO (BI n)) (k:Nat):Prop where
 unk:b.unk = []
 qk:∀ v∈b.vals,VQk (BQk n) v
 sh:∀ v∈b.vals,∀ x,fs.find? (isF v.number)=some x→x.many=false→x.kind=10→v.bits = []∧v.bytes = []∧∃ s,v.subs = [s]
 w:(b.vals.map (jW (jWB n))).sum≤k
def D7d {n:Nat}(rd:List UInt8→List UInt8→Except Int (BI n)):Prop:=∀ t l s,l.length≤4000→rd t l = .ok s→BQk n s∧jWB n s≤2*l.length
structure TldOk {n:Nat}(x:FI) (k:Nat) (v:VI (BI n)):Prop where
 num:v.number=x.number
 qk:VQk (BQk n) v
 w:jW (jWB n) v≤2*k
 sh:x.kind=10→v.bits = []∧v.bytes = []∧∃ s,v.subs = [s]
theorem D0b (k:Int){n:Nat}(h:n≤18446744073709551615):A3i k n<18446744073709551616:=by
 unfold A3i
 split
 ·rw[IntKind.wrap_u64]
  omega
 ·split
  ·omega
  ·split
   ·split <;> omega
   ·omega
theorem D0c {n:Nat}{rd:List UInt8→List UInt8→Except Int (BI n)}(aj:D7d rd){x:FI}(hx:I64 x.number){r:RI}(hl:r.bytes.length≤4000)(hb:r.bits≤18446744073709551615){v:VI (BI n)}(h:A3q rd x r = .ok v):TldOk x (r.bytes.length+1) v:=by
 unfold A3q at h
 have ak:4000≤reachBytes:=by unfold reachBytes;omega
 split at h
 ·rename_i hk
  have ac:x.kind≠10:=fun e=>hk (by rw[e];rfl)
  split at h
  ·rename_i h0
   cases h
   have ag:(tnN x r).1.length≤r.bytes.length+1∧∀ m∈(tnN x r).1,m<18446744073709551616:=by
    unfold tnN
    split
    ·refine⟨by simp,fun m hm=>?_⟩
     rw[List.mem_singleton.1 hm]
     exact D0b _ hb
    ·split
     ·refine⟨?_,fun m hm=>?_⟩
      ·have:=D0g (how:=A3z x.kind) (f:=r.bytes.length) (l:=r.bytes) (acc:=[])
       simp only[List.length_map]
       show(unpGo (A3z x.kind) r.bytes.length r.bytes []).1.length≤_
       simp only[List.length_nil] at this
       omega
      ·obtain⟨m',ah,rfl⟩:=List.mem_map.1 hm
       exact D0b _ (D0f (how:=A3z x.kind) (f:=r.bytes.length) (l:=r.bytes) (acc:=[]) (fun q hq=>by cases hq) m' ah)
     ·exact⟨by simp,fun m hm=>by cases hm⟩
   exact⟨rfl,⟨hx,ag.2,fun l hl=>(List.not_mem_nil hl).elim,fun s hs=>(List.not_mem_nil hs).elim⟩,by unfold jW;simp only[List.length_nil,List.map_nil,List.sum_nil];omega,fun e=>absurd e ac⟩
  ·cases h
 ·split at h
  ·cases h
  ·split at h
   ·rename_i ac
    split at h
    ·cases h
    ·rename_i s hs
     cases h
     obtain⟨q1,q2⟩:=aj _ _ _ hl hs
     refine⟨rfl,⟨hx,fun m hm=>(List.not_mem_nil hm).elim,fun m hm=>(List.not_mem_nil hm).elim,fun t ht=>?_⟩,?_,fun _=>⟨rfl,rfl,s,rfl⟩⟩
     ·rw[List.mem_singleton.1 ht]
      exact q1
     ·unfold jW
      simp only[List.length_nil,List.map_cons,List.map_nil,List.sum_cons,List.sum_nil]
      omega
   ·rename_i ac
    split at h
    ·cases h
    ·cases h
     refine⟨rfl,⟨hx,fun m hm=>(List.not_mem_nil hm).elim,fun m hm=>?_,fun t ht=>(List.not_mem_nil ht).elim⟩,?_,fun e=>absurd e ac⟩
     ·rw[List.mem_singleton.1 hm]
      omega
     ·unfold jW
      simp only[List.length_cons,List.length_nil,List.map_nil,List.sum_nil]
      omega
theorem B5d {g:GI}{d:Nat}{fs:List FI}{x:FI}{b b':BO (BI d)}{v:VI (BI d)}(hx:fs.find? (isF v.number)=some x)(h:A1w g d fs x b v = .ok b'):b'=b∨b'=⟨A3h (jnB g.msgs d) g.msgs fs b.vals v,b.unk⟩:=by
 unfold A1w at h
 split at h
 ·exact .inl (Except.ok.inj h).symm
 ·refine .inr ?_
  unfold A3h
  rw[hx]
  dsimp only
  cases hf:b.vals.find? (isV v.number) with
  | none=>
   rw[hf] at h
   dsimp only at h ⊢
   split at h
   ·cases h
   ·exact(Except.ok.inj h).symm
  | some u=>
   rw[hf] at h
   dsimp only at h ⊢
   split at h
   ·cases h
   ·rename_i v' hv'
    split at h
    ·cases h
    ·rw[←C0r hv']
     exact(Except.ok.inj h).symm
theorem D0m {g:GI}{d k q:Nat}{fs:List FI}{x:FI}{b b':BO (BI d)}{v:VI (BI d)}(hx:fs.find? (isF v.number)=some x)(hb:RSt fs b k)(hv:TldOk x q v)(hm:x.kind=10→∃ M,g.msgs.find? (isN x.type)=some M)(h:A1w g d fs x b v = .ok b'):RSt fs b' (k+2*q):=by
 rcases B5d hx h with rfl|rfl
 ·exact⟨hb.unk,hb.qk,hb.sh,by have:=hb.w;omega⟩
 ·refine⟨hb.unk,C9u (fun M s t hs ht=>C0n g.msgs d M s t hs ht) hb.qk hv.qk,fun a ha y hy ag ac=>?_,Nat.le_trans (D5c (fun M s t=>C7y g.msgs d M s t) g.msgs fs b.vals v) (Nat.add_le_add hb.w hv.w)⟩
  have ha':a∈A3h (jnB g.msgs d) g.msgs fs b.vals v:=ha
  unfold A3h at ha'
  rw[hx] at ha'
  dsimp only at ha'
  cases hf:b.vals.find? (isV v.number) with
  | none=>
   rw[hf] at ha'
   rcases A7a ha' with rfl|h
   ·rw[hx] at hy
    cases hy
    exact hv.sh ac
   ·exact hb.sh a h y hy ag ac
  | some u=>
   rw[hf] at ha'
   rcases A7a ha' with rfl|h
   ·have ah:u.number=v.number:=by
     have:=List.find?_some hf
     simpa [isV] using this
    rw[B0n ah,hx] at hy
    cases hy
    obtain⟨M,hM⟩:=hm ac
    obtain⟨u1,u2,s,u3⟩:=hb.sh u (List.mem_of_find?_eq_some hf) x (by rw[ah];exact hx) ag ac
    obtain⟨v1,v2,t,v3⟩:=hv.sh ac
    unfold A4y
    rw[if_neg (by rw[ag];simp),if_pos ac,hM,u3,v3]
    exact⟨u1,u2,_,rfl⟩
   ·exact hb.sh a h y hy ag ac
structure FGd (g:GI):Prop where
 num:∀ M∈g.msgs,∀ x∈M.fields,I64 x.number
 sub:∀ M∈g.msgs,∀ x∈M.fields,x.kind=10→∃ N,g.msgs.find? (isN x.type)=some N
def D8d (g:GI)(fs:List FI):Prop:=∀ x∈fs,I64 x.number∧(x.kind=10→∃ N,g.msgs.find? (isN x.type)=some N)
theorem D5b {r:Rcd}(h:C3i r):B7j (A6e r):=⟨⟨h.1.1,h.1.2.1⟩,⟨h.1.2.2.1,h.1.2.2.2.1⟩,Nat.lt_succ_of_le h.1.2.2.2.2,by have:=h.2;show r.bytes.length*1≤reachBytes;unfold reachBytes;omega⟩
theorem B0s {g:GI}{n:Nat}{rd:List UInt8→List UInt8→Except Int (BI n)}(ag:D7d rd){fs:List FI}(ac:D8d g fs):∀ (rs:List Rcd) (b:BO (BI n)) (un:List RI) (k:Nat) (s:BO (BI n)),(∀ r∈rs,C3i r)→(∀ r∈un,B7j r)→RSt fs b k→A1f g rd fs (rs.map A6e) b un = .ok s→BQk (n+1) s∧jWB (n+1) s≤k+un.length+2*rsW rs
 | [],b,un,k,s,_,hu,hb,h=>by
  have e:(⟨b.vals,un⟩:BO (BI n))=s:=Except.ok.inj h
  subst e
  refine⟨⟨hb.qk,hu⟩,?_⟩
  show(b.vals.map (jW (jWB n))).sum+un.length≤_
  have:=hb.w
  omega
 | r::rs,b,un,k,s,hr,hu,hb,h=>by
  have hr1:=hr r (List.mem_cons_self ..)
  have e1:rsW (r::rs)=r.bytes.length+1+rsW rs:=by simp[rsW]
  rw[List.map_cons] at h
  cases hf:fs.find? (isF (A6e r).number) with
  | none=>
   rw[A5c hf] at h
   obtain⟨h1,h2⟩:=B0s ag ac rs b (un++[A6e r]) k s (fun q hq=>hr q (List.mem_cons_of_mem _ hq)) (fun q hq=>by
    rcases List.mem_append.1 hq with hq|hq
    ·exact hu q hq
    ·rw[List.mem_singleton.1 hq];exact D5b hr1) hb h
   simp only[List.length_append,List.length_cons,List.length_nil] at h2
   exact⟨h1,by omega⟩
  | some x=>
   have aj:=List.mem_of_find?_eq_some hf
   have ak:=A2d hf
   cases ht:A3q rd x (A6e r) with
   | error E=>rw[A8n hf ht] at h;cases h
   | ok v=>
    have ah:=D0c ag (ac x aj).1 (show(A6e r).bytes.length≤4000 from hr1.2) (show(A6e r).bits≤18446744073709551615 from hr1.1.2.2.2.2) ht
    cases hw:A1w g n fs x b v with
    | error E=>rw[A5d hf ht hw] at h;cases h
    | ok b'=>
     rw[A7f hf ht hw] at h
     obtain⟨h1,h2⟩:=B0s ag ac rs b' un _ s (fun q hq=>hr q (List.mem_cons_of_mem _ hq)) hu (D0m (by rw[ah.num,ak];exact hf) hb ah (ac x aj).2 hw) h
     have e2:(A6e r).bytes.length=r.bytes.length:=rfl
     exact⟨h1,by omega⟩
theorem FGd.fs {g:GI}(h:FGd g){M:MI}(hM:M∈g.msgs):D8d g M.fields:=fun x hx=>⟨h.num M hM x hx,h.sub M hM x hx⟩
theorem FGd.msgD {g:GI}(h:FGd g)(t:List UInt8):D8d g (msgD g t).fields:=by
 unfold L.msgD
 cases hf:g.msgs.find? (isN t) with
 | none=>exact fun x hx=>(List.not_mem_nil hx).elim
 | some M=>exact h.fs (List.mem_of_find?_eq_some hf)
theorem B3i {g:GI}{n:Nat}{m:MI}{l:List UInt8}{rs:List Rcd}{E A:Nat}(hp:A2b l=(rs,E,A))(hE:E≠0):A3t g (n+1) m l = .error (E:Int):=by
 show(if (A2b l).2.1≠0 then Except.error (((A2b l).2.1:Nat):Int) else A1f g (fun t l=>A3t g n (L.msgD g t) l) m.fields ((A2b l).1.map A6e) ⟨[],[]⟩ [])=_
 rw[hp,if_pos hE]
 rfl
theorem B1v {g:GI}{n:Nat}{m:MI}{l:List UInt8}{rs:List Rcd}{A:Nat}(hp:A2b l=(rs,0,A)):A3t g (n+1) m l=A1f g (fun t l=>A3t g n (L.msgD g t) l) m.fields (rs.map A6e) ⟨[],[]⟩ []:=by
 show(if (A2b l).2.1≠0 then Except.error (((A2b l).2.1:Nat):Int) else A1f g (fun t l=>A3t g n (L.msgD g t) l) m.fields ((A2b l).1.map A6e) ⟨[],[]⟩ [])=_
 rw[hp,if_neg (by simp)]
theorem B8v {g:GI}(hg:FGd g):∀ (n:Nat) (m:MI) (l:List UInt8) (s:BI n),D8d g m.fields→A3t g n m l = .ok s→BQk n s∧jWB n s≤2*l.length
 | 0,_,_,s,_,_=>nomatch (s:Empty)
 | n+1,m,l,s,hm,h=>by
  obtain⟨rs,E,A,hp⟩:∃ rs E A,A2b l=(rs,E,A):=⟨_,_,_,rfl⟩
  by_cases hE:E≠0
  ·rw[B3i hp hE] at h
   cases h
  ·have hE:E=0:=by omega
   subst hE
   rw[B1v hp] at h
   obtain⟨h1,h2,h3⟩:=B6o hp
   obtain⟨q1,q2⟩:=B0s (fun t l s _ h=>B8v hg n (L.msgD g t) l s (hg.msgD t) h) hm rs ⟨[],[]⟩ [] 0 s h2 (fun r hr=>(List.not_mem_nil hr).elim) ⟨rfl,fun v hv=>(List.not_mem_nil hv).elim,fun v hv=>(List.not_mem_nil hv).elim,by simp⟩ h
   simp only[List.length_nil] at q2
   exact⟨q1,by omega⟩
theorem D6i {g:GI}(hg:FGd g)(n:Nat):D7d (fun t l=>A3t g n (L.msgD g t) l):=fun t l s _ h=>B8v hg n _ l s (hg.msgD t) h
theorem D3q {β:Type}{J:MI→β→β→β}{ms:List MI}{fs:List FI}{l:List (VI β)}{v a:VI β}(h:a∈A3h J ms fs l v):a∈l∨a.number=v.number:=by
 unfold A3h at h
 cases hx:fs.find? (isF v.number) with
 | none=>rw[hx] at h;exact .inl h
 | some x=>
  rw[hx] at h
  cases hu:l.find? (isV v.number) with
  | none=>
   rw[hu] at h
   rcases A7a h with rfl|h
   ·exact .inr rfl
   ·exact .inl h
  | some u=>
   rw[hu] at h
   have ac:u.number=v.number:=by have:=List.find?_some hu;simpa [isV] using this
   rcases A7a h with rfl|h
   ·exact .inr (B0n ac)
   ·exact .inl h
structure NjC (g:GI) (N:Nat→MI→List UInt8→Prop):Prop where
 step:∀ {n:Nat}{M:MI}{l:List UInt8}{rs:List Rcd}{A i:Nat}{r:Rcd}{x:FI},N (n+1) M l→M∈g.msgs→A2b l=(rs,0,A)→rs[i]?=some r→M.fields.find? (isF (A6e r).number)=some x→x.kind=10→N n (L.msgD g x.type) (A6e r).bytes∧(x.many=false→A8e g x∨∀ j,j<i→∀ r',rs[j]?=some r'→(A6e r').number≠(A6e r).number)
def NumI {n:Nat}(rs:List Rcd)(i:Nat)(b:BO (BI n)):Prop:=∀ v∈b.vals,∃ j,j<i∧∃ r',rs[j]?=some r'∧(A6e r').number=v.number
theorem NumI.next {n:Nat}{rs:List Rcd}{i:Nat}{b:BO (BI n)}(h:NumI rs i b):NumI rs (i+1) b:=fun v hv=>by
 obtain⟨j,hj,h⟩:=h v hv
 exact⟨j,by omega,h⟩
theorem NumI.step {n:Nat}{g:GI}{fs:List FI}{rs:List Rcd}{i:Nat}{b b':BO (BI n)}(h:NumI rs i b){r:Rcd}(hr:rs[i]?=some r){x:FI}{v:VI (BI n)}(hx:fs.find? (isF v.number)=some x)(hn:(A6e r).number=v.number)(hw:A1w g n fs x b v = .ok b'):NumI rs (i+1) b':=by
 rcases B5d hx hw with rfl|rfl
 ·exact h.next
 ·intro a ha
  rcases D3q ha with ha|ha
  ·exact h.next a ha
  ·exact⟨i,by omega,r,hr,by rw[ha];exact hn⟩
end L
end Go.Proofs.YtgaoojpakjjdnaaGreatDoor
