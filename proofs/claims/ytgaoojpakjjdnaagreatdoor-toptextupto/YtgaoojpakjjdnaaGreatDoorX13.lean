import Derived.Test.YtgaoojpakjjdnaaGreatDoorX12
import Derived.Shelf.Spec.SlicesInsert
import Derived.Lib.AppendZerosOnto
import Derived.Laws.NewBlocks
set_option maxHeartbeats 32000000
set_option maxRecDepth 100000
set_option linter.unusedVariables false
namespace Go.Proofs.YtgaoojpakjjdnaaGreatDoor
namespace L
open Go.RowKit
theorem FrB.blk {F:List Nat}{w w':World}(h:FrB F w w'){k:Nat}(hk:k<w.heap.size)(hF:k∉F):w'.heap[k]?=w.heap[k]?:=h.block k hk (.inl hF)
theorem FrB.on {F:List Nat}{a b c:World}(h:FrB F a b)(hb:Below b.heap.size b c):FrB F a c:=h.trans (.of_below hb:FrB [] _ _) (fun _ hi=>hi) (fun _ hi=>by simp at hi)
theorem D3m {d:Nat}{P:World→Addr→BI d→Prop}(hP:A4p P){w:World}{base:Nat}{v:Value}{l:List (VL (LB d))}{fn:Nat}{a8:Array Value}{K:List Nat}{p:Int→Bool}(h:Row (ekV (LB d)) w base v l)(cw:RdL 4 (VAt P) w v (l.map (VL.pl (LB.pl d))))
  (cu:∀ (args:Array Value) (w:World),(callFunc fn args).run Tryz.prog w = .ok (.enter fn args) w) (hp:PredK fn a8 K w p) (hK:∀ k∈K,k<w.heap.size) (dp:∀ k∈K,v.ownBlock≠some k) (hI:∀ a∈l,I64 a.number) :
  Calls Tryz.prog 68 #[v,.func (.func fn) #[] a8] w fun e w'=>∃ q:PV,e = .returned q.v∧q.v.ownBlock=v.ownBlock∧Row (ekV (LB d)) w' base q.v (l.filter fun a=>!p a.number)∧FrB v.ownBlock.toList w w':=by
 have ag:=D4c hP cw cu hp hK (fun a ha=>by
  obtain⟨b,hb,rfl⟩:=List.mem_map.1 ha
  exact hI b hb)
 rw[show A0g (fun v:VI (BI d)=>p v.number) (l.map (VL.pl (LB.pl d)))=A0g (fun v:VL (LB d)=>p v.number) l by
  unfold A0g;rw[List.findIdx?_map];rfl] at ag
 obtain⟨ao,n,cap,rfl,Hn⟩:=h.shape'
 cases hf:l.findIdx? (fun v:VL (LB d)=>p v.number) with
 | none=>
  have e1:A0g (fun v:VL (LB d)=>p v.number) l = -1:=by unfold A0g;rw[hf]
  have HA:Hid (l.filter (fun a=>!p a.number)=l):=by
   show _=_
   refine List.filter_eq_self.2 fun a ha=>?_
   have:=B2p hf a ha
   simp[this]
  rw[e1] at ag
  clear hf e1 cw hp hI
  go_enter Tryz.func68,Tryz.ntmps68
  go_wp2_with fail
  refine ag.mono ?_
  rintro e w1 ⟨rfl,hb1⟩
  go_wp2
  go_ret
  exact⟨(ao,n,cap),rfl,rfl,by rw[HA.out];exact h.below hb1,.of_below hb1⟩
 | some k0=>
  have e1:A0g (fun v:VL (LB d)=>p v.number) l=(k0:Int):=by unfold A0g;rw[hf]
  obtain⟨a0,ha0,df⟩:=A8s hf
  have hst:Kept (fun a:VL (LB d)=>!p a.number) l (k0+1) k0 l:=Kept.start ha0 (by simp[df]) fun b hb=>by
   rw[List.findIdx?_eq_some_iff_getElem] at hf
   obtain⟨hk,_,hall⟩:=hf
   obtain⟨i,hi,rfl⟩:=List.mem_iff_getElem.1 hb
   rw[List.getElem_take]
   have:=hall i (by rw[List.length_take] at hi;omega)
   simp at this
   simp[this]
  have dy:k0<n:=by rw[Hn.out];exact(List.getElem?_eq_some_iff.1 ha0).1
  obtain⟨g,rfl⟩:∃ g,ao=some ⟨g,0,none⟩:=by
   rcases h.2 with⟨hv,hn⟩|⟨g,cap',cur,hv,_⟩
   ·have:=Hn.out;omega
   ·cases hv;exact⟨g,rfl⟩
  obtain⟨_,hbg,ei,hcm,dl,hg0,_⟩:=h.cur
  have dx:g<w.heap.size:=(Array.getElem?_eq_some_iff.1 hg0).1
  have bv:∀ k∈K,k∉[g]:=fun k hk hm=>by
   rw[List.mem_singleton] at hm
   exact dp k hk (by rw[hm];rfl)
  have dv:((k0:Int) == -1)=false:=beq_eq_false_iff_ne.2 (by omega)
  unfold maxLen at hcm
  rw[e1] at ag
  have HR:Hid (Row (ekV (LB d)) w base (.slice (some ⟨g,0,none⟩) n cap) l):=h
  clear hf e1 cw ha0 df hg0 h
  go_enter Tryz.func68,Tryz.ntmps68
  go_wp2_with fail
  refine ag.mono ?_
  rintro e w1 ⟨rfl,hb1⟩
  go_wp2_with fail
  go_loopg [5,6,7] n (fun gm s5 s6 _ wr=>∃ (k m:Nat) (l':List (VL (LB d))),k≤n∧n-k≤gm∧s5 = .int .i64 (m:Int)∧s6 = .int .i64 (k:Int)∧Hid (Row (ekV (LB d)) wr base (.slice (some ⟨g,0,none⟩) n cap) l')∧Kept (fun a:VL (LB d)=>!p a.number) l k m l'∧FrB [g] w wr)
  case atStart=>exact⟨k0+1,k0,l,by omega,by omega,rfl,by go_num,HR.out.below hb1,hst,.of_below hb1⟩
  case round=>
   obtain⟨k,m,l',d9,hk,rfl,rfl,HL,aj,bk⟩:=hrel
   have eh:=aj.lt
   have dg:=bk.size
   by_cases hlt:k<n
   ·obtain⟨a,Ha⟩:∃ a,Hid (l[k]?=some a):=⟨l[k]'(by rw[←Hn.out];exact hlt),List.getElem?_eq_getElem (by rw[←Hn.out];exact hlt)⟩
    have dn:=hI a (A3z Ha.out)
    have bu:Hid (l'[k]?=some a):=by show _=_;rw[aj.at];exact Ha.out
    obtain⟨am,Hm⟩:∃ am,Hid (l'[m]?=some am):=by
     have:=aj.len
     have hm:m<l'.length:=by rw[this,←Hn.out];omega
     exact⟨l'[m],List.getElem?_eq_getElem hm⟩
    obtain⟨nu,bi,di,su,⟨a1,n1,c1⟩,⟨a2,n2,c2⟩,⟨a3,n3,c3⟩⟩:=a
    have s0:wr.cell? ⟨g,k*4,none⟩=some (.int .i64 nu):=HL.out.cells bu.out (j:=0) rfl
    have s1:wr.cell? ⟨g,k*4+1,none⟩=some (.slice a1 n1 c1):=HL.out.cells bu.out (j:=1) rfl
    have s2:wr.cell? ⟨g,k*4+2,none⟩=some (.slice a2 n2 c2):=HL.out.cells bu.out (j:=2) rfl
    have s3:wr.cell? ⟨g,k*4+3,none⟩=some (.slice a3 n3 c3):=HL.out.cells bu.out (j:=3) rfl
    have dz:(k:Int)<(n:Int):=by omega
    have ee:(m:Int)<(n:Int):=by omega
    obtain⟨W1,aw⟩:∃ W1,Hid (W1=wr.alloc (.cells #[.int .i64 nu,.slice a1 n1 c1,.slice a2 n2 c2,.slice a3 n3 c3] 62)):=⟨_,rfl⟩
    have bw:Below wr.heap.size wr W1:=by rw[aw.out];exact(Below.refl _ _).alloc (Nat.le_refl _) _
    have xW:W1.heap[wr.heap.size]?=some (.cells #[.int .i64 nu,.slice a1 n1 c1,.slice a2 n2 c2,.slice a3 n3 c3] 62 (0,0)):=by rw[aw.out];exact heap_alloc_new _ _
    have zW:wr.heap.size+1≤W1.heap.size:=by rw[aw.out];simp
    have ac:=hp W1 (Nat.le_trans dg bw.size) (fun k hk=>(bw.block k (Nat.lt_of_lt_of_le (hK k hk) dg)).trans (bk.blk (hK k hk) (bv k hk))) nu dn a1 n1 c1 a2 n2 c2 a3 n3 c3
    cases hq:p nu with
    | true=>
     have ak:Kept (fun a:VL (LB d)=>!p a.number) l (k+1) m l':=aj.skip Ha.out (by simp[hq])
     rw[hq] at ac
     clear hq hp hI ag bv aj
     go_wp2_with fail
     rw[←aw.out]
     refine ac.mono ?_
     rintro e w2 ⟨rfl,hb2⟩
     have ah:Below wr.heap.size wr w2:=BTr bw hb2
     go_wp2_with fail
     go_roundg (n-(k+1))
     case measure=>omega
     case rel=>exact⟨k+1,m,l',by omega,by omega,rfl,by go_num,HL.out.below ah,ak,bk.on ah⟩
    | false=>
     have ak:=aj.keep Ha.out (by simp[hq])
     rw[hq] at ac
     clear hq hp hI ag bv aj
     go_wp2_with fail
     rw[←aw.out]
     refine ac.mono ?_
     rintro e w2 ⟨rfl,hb2⟩
     have ah:Below wr.heap.size wr w2:=BTr bw hb2
     have au:Hid (Row (ekV (LB d)) w2 base (.slice (some ⟨g,0,none⟩) n cap) l'):=HL.out.below ah
     obtain⟨_,_,_,_,dm,hg2,_⟩:=au.out.cur
     have y2:=(hb2.block _ (by omega)).trans xW
     have t0:=A0a y2 0 _ rfl
     have t1:=A0a y2 1 _ rfl
     have t2:=A0a y2 2 _ rfl
     have t3:=A0a y2 3 _ rfl
     obtain⟨mu,mi,my,ms,⟨b1,d1,f1⟩,⟨b2,d2,f2⟩,⟨b3,d3,f3⟩⟩:=am
     have u0:w2.cell? ⟨g,m*4,none⟩=some (.int .i64 mu):=au.out.cells Hm.out (j:=0) rfl
     have u1:w2.cell? ⟨g,m*4+1,none⟩=some (.slice b1 d1 f1):=au.out.cells Hm.out (j:=1) rfl
     have u2:w2.cell? ⟨g,m*4+2,none⟩=some (.slice b2 d2 f2):=au.out.cells Hm.out (j:=2) rfl
     have u3:w2.cell? ⟨g,m*4+3,none⟩=some (.slice b3 d3 f3):=au.out.cells Hm.out (j:=3) rfl
     have q0:=A0b hg2 (m*4)
     have q1:=A0b hg2 (m*4+1)
     have q2:=A0b hg2 (m*4+2)
     have q3:=A0b hg2 (m*4+3)
     have bh:=au.out.setV (i:=m) (a:=⟨nu,bi,di,su,(a1,n1,c1),(a2,n2,c2),(a3,n3,c3)⟩) rfl (by omega)
     have cj:Hid _:=bh
     have bp:=E1u hg2 (i:=m*4) (x0:=.int .i64 nu) (x1:=.slice a1 n1 c1) (x2:=.slice a2 n2 c2) (x3:=.slice a3 n3 c3)
     have bq:=A1x (bk.on ah) bp
     have dh:Hid _:=bq
     clear bh bp bq ac y2 xW hg2
     go_wp2_with fail
     go_roundg (n-(k+1))
     case measure=>omega
     case rel=>exact⟨k+1,m+1,_,by omega,by omega,by go_num,by go_num,cj.out,ak,dh.out⟩
   ·obtain rfl:k=n:=by omega
    have dt:m≤k:=by omega
    obtain⟨_,_,_,_,bg,cg,br⟩:=HL.out.cur
    have bt:bg.size=cap*4:=br
    obtain⟨vs,dw⟩:=C6x (w:=wr) (g:=g) (o:=m*4) (n:=k-m) (c:=cap-m) (by omega) (fun j hj=>by
     have:m*4+j<bg.size:=by omega
     rw[A0a cg (m*4+j) _ (Array.getElem?_eq_getElem this)];rfl) (fun j _=>A0b cg (m*4+j))
    have HF:Hid (Row (ekV (LB d)) (wr.setCells g (m*4) vs) base (.slice (some ⟨g,0,none⟩) m cap) (l'.take m)):=HL.out.cut dt vs (Nat.le_refl _)
    have HG:Hid (FrB [g] w (wr.setCells g (m*4) vs)):=FrB.setCells (o:=m*4) vs (m*4) bk cg (by show(62:TypeId)≠5;decide)
    have HE:Hid (l'.take m=l.filter fun a=>!p a.number):=by
     show _=_
     rw[aj.front,List.take_of_length_le (by rw[←Hn.out];exact Nat.le_refl _)]
    have dr:¬ (k:Int)<(k:Int):=by omega
    clear br bt cg ag hp hI bv aj
    go_wp2
    go_ret
    exact⟨some ⟨g,0,none⟩,m,cap,rfl,rfl,by rw[←HE.out];exact HF.out,HG.out⟩
theorem B0a {w:World}{ty:TypeId}{g o dLen ac:Nat}{a:Addr}{sLen ah m:Nat}{cs:List Value}(hm:Nat.min sLen dLen=m)(hl:cs.length=m*4)
  (ag:∀ j v,cs[j]?=some v→w.cell? (a.add j)=some v) (hc:∀ j,j<cs.length→(w.cell? ⟨g,o+j,none⟩).isSome=true) (hf:∀ j,j<cs.length→w.frozen? ⟨g,o+j,none⟩=false) (h1:∀ v∈cs,v.oneCell'=true) :
  (Builtin.copy_ #[26,26] ty #[.slice (some ⟨g,o,none⟩) dLen ac,.slice (some a) sLen ah]).run Tryz.prog w = .ok (goInt m) (w.setCells g o cs):=by
 have aj:=run_loadCells_list (P:=Tryz.prog) w a cs ag
 have hst:=run_storeCells_cells (P:=Tryz.prog) g o cs 0 w (by simpa using hc) (by simpa using hf) h1
 obtain⟨i,hi,_,hz1,_⟩:=info_parts (ekV Unit).info
 have hz1:i.size=4:=hz1
 have hi:Tryz.prog.info? 62=some i:=hi
 rw[hl] at aj
 simp only[Nat.add_zero] at hst
 simp[Builtin.copy_,run_underlying Tryz.underlying26,Builtin.lenOf,Builtin.firstCells,sizeOf,typeInfo,hi,hz1,hm,aj,hst]
section
variable {α:Type}{E:EK α}{V:World}{base g n cap i:Nat}{l:List α}{a : α}
theorem D1f {cur:Array Value}(hb:base≤g)(hg:V.heap[g]?=some (.cells cur E.elem (0,0)))(hsz:cur.size=cap*E.size)(hn:l.length=n)(hi:i≤n)(h1:n+1≤cap)(h2:cap≤maxLen)
  (hA:∀ k y,k<i→l[k]?=some y→∀ j u,(E.enc y)[j]?=some u→V.cell? ⟨g,k*E.size+j,none⟩=some u) (hB:∀ j u,(E.enc a)[j]?=some u→V.cell? ⟨g,i*E.size+j,none⟩=some u)
  (hC:∀ j u,(E.flat (l.drop i))[j]?=some u→V.cell? ⟨g,(i+1)*E.size+j,none⟩=some u):Row E V base (.slice (some ⟨g,0,none⟩) (n+1) cap) (l.take i++[a]++l.drop i):=by
 have ac:(l.take i).length=i:=by rw[List.length_take];omega
 refine Row.of_cells hb hg hsz (by simp;omega) h1 h2 fun k y hy j u hu=>?_
 have hj:j<E.size:=by have:=(List.getElem?_eq_some_iff.1 hu).1;rw[E.len] at this;exact this
 rw[List.append_assoc] at hy
 by_cases h3:k<i
 ·rw[List.getElem?_append_left (by omega),List.getElem?_take,if_pos h3] at hy
  exact hA k y h3 hy j u hu
 ·rw[List.getElem?_append_right (by omega),ac] at hy
  by_cases h4:k=i
  ·subst h4
   rw[Nat.sub_self] at hy
   simp at hy
   subst hy
   exact hB j u hu
  ·rw[List.getElem?_append_right (by simp;omega)] at hy
   simp only[List.length_singleton] at hy
   have:=hC ((k-i-1)*E.size+j) u (by rw[E.flat_at _ _ j y hy hj];exact hu)
   rw[←Nat.add_assoc,←Nat.add_mul,show i+1+(k-i-1)=k by omega] at this
   exact this
end
theorem B6f {w w':World}{v:Value}{F:List Nat}(h:w.grownBy w' v.ownBlock){t:TypeId}(ht:t≠5)(hv:∀ g,v.ownBlock=some g→∃ cs fr,w.heap[g]?=some (.cells cs t fr))(hF:∀ g,v.ownBlock=some g→g∈F):FrB F w w':=
 ⟨h.os,h.tape,h.output,h.size,fun k hk hc=>h.block k hk fun e=>by
  rcases hc with hc|⟨cs',fr',hc⟩
  ·exact hc (hF k e.symm)
  ·obtain⟨cs,fr,hg⟩:=hv k e.symm
   rw[hg] at hc
   simp only[Option.some.injEq,Obj.cells.injEq] at hc
   exact ht hc.2.1⟩
theorem C5u {β:Type}{w:World}{base:Nat}{ao:Option Addr}{n cap vb:Nat}{l:List (VL β)}{a:VL β}{x0 x1 x2 x3:Value}(h:Row (ekV β) w base (.slice ao n cap) l)(he:(ekV β).enc a = [x0,x1,x2,x3])(hv:w.heap[vb]?=some (.cells #[x0,x1,x2,x3] 62 (0,0)))
  (hlen:(n+1)*80≤140737488355328) (hb:base≤w.heap.size) :
  Calls Tryz.prog 71 #[.slice ao n cap,.int .i64 (n:Int),.slice (some ⟨vb,0,none⟩) 1 1] w fun e w'=>∃ q:PV,e = .returned q.v∧(∀ k,q.v.ownBlock=some k→(Value.slice ao n cap).ownBlock=some k∨w.heap.size≤k)∧Row (ekV β) w' base q.v (l++[a])∧FrB (Value.slice ao n cap).ownBlock.toList w w':=by
 have hn:l.length=n:=by
  obtain⟨ak,cap',e⟩:=h.shape
  cases e;rfl
 have ac:∀ ad,(some ⟨vb,0,none⟩:Option Addr)=some ad→∀ k y,[a][k]?=some y→∀ j u,((ekV β).enc y)[j]?=some u→w.cell? (ad.add (k*(ekV β).size+j))=some u:=A8z hv (by rw[he])
 have hl2:(l.length + [a].length)*(ekV β).bytes≤140737488355328:=by rw[hn];exact hlen
 have ag:n≤cap:=by
  rcases h.2 with⟨e,hn0⟩|⟨g,cap',cur,e,_,_,h1,_⟩
  ·cases e;omega
  ·cases e;exact h1
 have ah:∀ g,(Value.slice ao n cap).ownBlock=some g→∃ cs fr,w.heap[g]?=some (.cells cs 62 fr):=fun g hg=>by
  rcases h.2 with⟨e,_⟩|⟨g',cap',cur,e,_,hg',_⟩
  ·rw[e] at hg;simp[Value.ownBlock] at hg
  ·rw[e] at hg;simp[Value.ownBlock] at hg;subst hg;exact⟨_,_,hg'⟩
 have HN:Hid (l.length=n):=hn
 clear hn
 go_enter Tryz.func71,Tryz.ntmps71
 go_wp2_with (at_builtin;refine A1s rfl (ekV β) _ _ rfl base _ l [a] rfl h (some ⟨vb,0,none⟩) 1 1 rfl rfl (fun h=>by cases h) ac (show 1≤80 by omega) hl2 hb ?_)
 all_goals (
  try subst h
  intro v4 w4 hr4 hg4 hk4
  obtain⟨a4,n4,c4,rfl,aj⟩:=hr4.shape'
  go_wp2
  go_ret
  exact⟨(a4,n4,c4),rfl,hk4,hr4,B6f (t:=62) hg4 (by decide) ah fun g hg=>by rw[hg];simp⟩)
section
variable {α:Type}{w:World}
theorem Row.src {E:EK α}{base:Nat}{ao:Option Addr}{n cap:Nat}{m:List α}(h:Row E w base (.slice ao n cap) m):m.length=n∧(ao=none→n=0∧cap=0)∧∀ ad,ao=some ad→∀ k y,m[k]?=some y→∀ j u,(E.enc y)[j]?=some u→w.cell? (ad.add (k*E.size+j))=some u:=by
 refine⟨h.len.symm,?_,?_⟩
 ·intro e
  subst e
  rcases h.2 with⟨hv,hn⟩|⟨g,cap',cur,hv,_⟩
  ·cases hv;exact⟨rfl,rfl⟩
  ·cases hv
 ·intro ad e k y hy j u hu
  subst e
  rcases h.2 with⟨hv,hn⟩|⟨g,cap',cur,hv,hbg,hg,hnc,hcm,hcs,htake⟩
  ·cases hv
  ·cases hv
   rw[A0d,Nat.zero_add]
   exact h.cells hy hu
theorem Row.front {E:EK α}{base g n cap:Nat}{l m:List α}{w':World}(h:Row E w' base (.slice (some ⟨g,0,none⟩) (l.length+n) cap) (l++m)):Row E w' base (.slice (some ⟨g,0,none⟩) l.length cap) l:=by
 obtain⟨_,h1,h2,h3,cur,h4,h5⟩:=h.cur
 refine Row.of_cells h1 h4 h5 rfl (by omega) h3 fun k y hy j u hu=>?_
 exact h.cells (by rw[List.getElem?_append_left (List.getElem?_eq_some_iff.1 hy).1];exact hy) hu
theorem D5v (E:EK α)(ty:TypeId)(base:Nat)(p q:PV)(l m:List α)(hY:E.elem≠5)(hown:Row E w base p.v l)(hq:Row E w base q.v m)(hby:1≤E.bytes)(hlen:(l.length+m.length)*E.bytes≤140737488355328)(hb:base≤w.heap.size) :
  ∃ (a':Option Addr) (n' c':Nat) (w':World),(Builtin.append_ #[E.slice,E.slice] ty #[p.v,q.v]).run Tryz.prog w = .ok (.slice a' n' c') w'∧Row E w' base (.slice a' n' c') (l++m)∧Row E w' base p.v l∧FrB (own1 p) w w'∧∀ k∈own1 (a',n',c'),k∈own1 p∨w.heap.size≤k:=by
 obtain⟨ao,n,cap⟩:=q
 have hq':Row E w base (.slice ao n cap) m:=hq
 obtain⟨hm,hnil,hcell⟩:=hq'.src
 obtain⟨v',w',hr,h1,h2,h3⟩:=C3x E ty base p.v l m hown ao n cap hm hnil hcell hby hlen hb
 obtain⟨a',c',rfl⟩:=h1.shape
 have aj:FrB (own1 p) w w':=B6f h2 hY (fun g hg=>by
  rcases hown.2 with⟨hv,hn⟩|⟨g',cap',cur,hv,hbg,hgg,_⟩
  ·rw[hv] at hg;simp[Value.ownBlock] at hg
  ·rw[hv] at hg
   simp only[Value.ownBlock,Option.some.injEq] at hg
   subst hg
   exact⟨cur,_,hgg⟩) (fun g hg=>A0o.2 hg)
 refine⟨a',_,c',w',hr,h1,?_,aj,fun k hk=>(h3 k (A0o.1 hk)).imp A0o.2 id⟩
 obtain⟨i0,hi,hz0,hz1,hz2⟩:=info_parts E.info
 have h63:l.length+m.length≤maxLen:=by
  have:l.length+m.length≤(l.length+m.length)*E.bytes:=Nat.le_mul_of_pos_right _ hby
  unfold maxLen;omega
 rcases hown.2 with⟨hv,hn⟩|⟨g,cap',cur,hv,hbg,hg,hnc,hcm,hcs,htake⟩
 ·have hl0:l = []:=List.eq_nil_of_length_eq_zero hn
  rw[hv,hl0]
  exact Row.nil _ _ _
 ·cases ao with
  | none=>
   obtain⟨rfl,rfl⟩:=hnil rfl
   have hrun:=run_append_owned_none (P:=Tryz.prog) (w:=w) base E.slice ty E.elem i0 E.size E.under hi p.v l.length (E.flat l) hown
   have:(Builtin.append_ #[E.slice,E.slice] ty #[p.v,.slice none 0 0]).run Tryz.prog w = .ok (.slice a' (l++m).length c') w':=hr
   rw[hrun] at this
   simp only[Result.ok.injEq] at this
   rw[←this.2]
   exact hown
  | some ad=>
   have hl:(E.flat m).length=n*E.size:=by rw[E.flat_len,hm]
   have hnews:∀ j u,(E.flat m)[j]?=some u→w.cell? (ad.add j)=some u:=by
    intro j u hu
    obtain⟨y,h1,h2⟩:=E.flat_get hu
    have:=hcell ad rfl _ y h1 _ u h2
    rwa [Nat.mul_comm,Nat.div_add_mod] at this
   have h1c:∀ u∈E.flat m,u.oneCell'=true:=by
    intro y hy
    simp only[EK.flat,List.mem_flatMap] at hy
    obtain⟨p,hp,hy⟩:=hy
    exact E.one p y hy
   have ac:(Builtin.append_ #[E.slice,E.slice] ty #[.slice (some ⟨g,0,none⟩) l.length cap',.slice (some ad) n cap]).run Tryz.prog w = .ok (.slice a' (l++m).length c') w':=by rw[←hv];exact hr
   by_cases hroom:l.length+n≤cap'
   ·have ag:l.length*i0.size+(E.flat m).length≤cur.size:=by rw[hl,hcs,hz1,←Nat.add_mul];exact Nat.mul_le_mul_right _ hroom
    have hr2:=run_append_room (P:=Tryz.prog) w E.slice ty E.elem i0 E.under hi g l.length cap' cur hg ad n cap (E.flat m) (by rw[hl,hz1]) hnews h1c hroom ag
    rw[hr2] at ac
    simp only[Result.ok.injEq,Value.slice.injEq] at ac
    obtain⟨⟨rfl,_,rfl⟩,_⟩:=ac
    have ah:Row E w' base (.slice (some ⟨g,0,none⟩) (l.length+m.length) cap') (l++m):=by
     have:=h1
     rwa [List.length_append] at this
    rw[hv]
    exact ah.front
   ·have holds:=World.ownsRow.cells (show w.ownsRow base E.elem E.size (.slice (some ⟨g,0,none⟩) l.length cap') l.length (E.flat l) by rw[←hv];exact hown) (g:=g) rfl
    have hr2:=run_append_grow (P:=Tryz.prog) w E.slice ty E.elem i0 _ E.under hi hz0 ⟨g,0,none⟩ l.length cap' (E.flat l) (by rw[hz1];exact hown.1) holds ad n cap (E.flat m) (by rw[hl,hz1]) hnews (by omega) (by unfold maxLen at h63;omega) (growslice_fits (by omega) (by rw[hz2,←hm];exact hlen))
    rw[hr2] at ac
    simp only[Result.ok.injEq] at ac
    rw[←ac.2]
    exact hown.keep fun k _ hk=>by
     rw[Below.heap_alloc _ _ _ (show k<w.drew.heap.size from hk)]
     rfl
end
def From (w:World)(L L':List Nat):Prop:=∀ k,L'.count k≤1∧(k<w.heap.size→L'.count k≤L.count k)
theorem From.refl {w:World}{L:List Nat}(h:L.Nodup):From w L L:=fun k=>⟨List.nodup_iff_count.1 h k,fun _=>Nat.le_refl _⟩
theorem From.trans {w w':World}{A B C:List Nat}(h:From w A B)(k:From w' B C)(hs:w.heap.size≤w'.heap.size):From w A C:=fun i=>⟨(k i).1,fun hi=>Nat.le_trans ((k i).2 (by omega)) ((h i).2 hi)⟩
theorem From.mem {w:World}{L L':List Nat}(h:From w L L'){k:Nat}(hk:k∈L'):k∈L∨w.heap.size≤k:=by
 by_cases hs:k<w.heap.size
 ·left
  have:=(h k).2 hs
  have h1:=List.count_pos_iff.2 hk
  exact List.count_pos_iff.1 (by omega)
 ·right;omega
theorem From.of {w:World}{L L':List Nat}(hn:L'.Nodup)(hm:∀ k∈L',k∈L∨w.heap.size≤k):From w L L':=fun k=>⟨List.nodup_iff_count.1 hn k,fun hk=>by
 by_cases h:k∈L'
 ·have h1:=List.nodup_iff_count.1 hn k
  rcases hm k h with h2|h2
  ·have:=List.count_pos_iff.2 h2;omega
  ·omega
 ·rw[List.count_eq_zero_of_not_mem h];omega⟩
theorem C7w {A B:List Nat}{k:Nat}(h:A.count k+B.count k≤1)(ha:k∈A):k∉B:=fun hb=>by
 have:=List.count_pos_iff.2 ha
 have:=List.count_pos_iff.2 hb
 omega
section
variable {α:Type}(f : α→List Nat)
theorem A2x (l m:List α)(k:Nat):((l++m).flatMap f).count k=(l.flatMap f).count k+(m.flatMap f).count k:=by rw[List.flatMap_append,List.count_append]
theorem A5a (a : α)(l:List α)(k:Nat):((a::l).flatMap f).count k=(f a).count k+(l.flatMap f).count k:=by rw[List.flatMap_cons,List.count_append]
theorem A6b (p : α→Bool)(k:Nat):∀ l:List α,((l.filter p).flatMap f).count k≤(l.flatMap f).count k
 | []=>Nat.le_refl _
 | a::l=>by
  have:=A6b p k l
  rw[List.filter_cons,A5a]
  split
  ·rw[A5a];omega
  ·omega
theorem B3v (l:List α)(i:Nat)(a : α)(k:Nat):((l.take i++[a]++l.drop i).flatMap f).count k=(f a).count k+(l.flatMap f).count k:=by
 rw[A2x,A2x,A5a]
 have:=A2x f (l.take i) (l.drop i) k
 rw[List.take_append_drop] at this
 simp only[List.flatMap_nil,List.count_nil]
 omega
end
theorem A7z {β:Type}(f : β→List Nat)(v:VL β)(k:Nat):(VL.fp f v).count k=(own1 v.p1).count k+(own1 v.p2).count k+(own1 v.p3).count k+(v.subs.flatMap f).count k:=by
 unfold VL.fp;rw[List.count_append,List.count_append,List.count_append]
theorem C8k {β:Type}(f : β→List Nat)(b:BL β)(k:Nat):(BL.fp f b).count k=(own1 b.q0).count k+(own1 b.q1).count k+(b.vals.flatMap (VL.fp f)).count k:=by
 unfold BL.fp;rw[List.count_append,List.count_append]
theorem A9w (p:PV)(k:Nat):(own1 p).count k≤1:=by
 unfold own1
 cases p.v.ownBlock with
 | none=>simp
 | some b=>simp[List.count_cons];split <;> omega
theorem D0r {β:Type}{w:World}{c:Nat}{x:Int}(hc:w.heap[c]?=some (.cells #[.int .i64 x] 3 (0,0)))(v:VI β)(a1:Option Addr)(n1 c1:Nat)(a2:Option Addr)(n2 c2:Nat)(a3:Option Addr)(n3 c3:Nat) :
  Calls Tryz.prog 147 #[.agg #[.int .i64 v.number,.slice a1 n1 c1,.slice a2 n2 c2,.slice a3 n3 c3],.pointer (some ⟨c,0,none⟩)] w fun e w'=>e = .returned (.bool (decide (x<v.number)))∧Below w.heap.size w w':=by
 have c0:w.cell? ⟨c,0,none⟩=some (.int .i64 x):=A0a hc 0 _ rfl
 have ag:c<w.heap.size:=(Array.getElem?_eq_some_iff.1 hc).1
 have ac:=(Below.refl w.heap.size w).alloc (Nat.le_refl _) (.cells #[.int .i64 v.number,.slice a1 n1 c1,.slice a2 n2 c2,.slice a3 n3 c3] 62)
 obtain⟨q,Hq⟩:∃ q,Hid (q=decide (x<v.number)):=⟨_,rfl⟩
 have hq:decide (x<v.number)=q:=Hq.out.symm
 rw[←Hq.out]
 go_enter Tryz.func147,Tryz.ntmps147
 go_wp2
 go_ret
 exact⟨rfl,ac⟩
theorem C6p {β:Type}{P:World→Addr→β→Prop}(hP:A4p P){v:Value}{l:List (VI β)}{w:World}{c:Nat}{x:Int}(h:RdL 4 (VAt P) w v l)(hc:w.heap[c]?=some (.cells #[.int .i64 x] 3 (0,0))) :
  Calls Tryz.prog 79 #[v,.func (.func 147) #[] #[.pointer (some ⟨c,0,none⟩)]] w fun e w'=>e = .returned (.int .i64 (A0g (fun v=>decide (x<v.number)) l))∧Below w.heap.size w w':=by
 obtain⟨ao,n,cap,rfl,Hn,ag⟩:=h.shape
 go_enter Tryz.func79,Tryz.ntmps79
 go_wp2_with fail
 go_loopg [8] n (fun m i wr=>∃ k:Nat,k+m=n∧i = .int .i64 k∧Hid (∀ a∈l.take k,decide (x<a.number)=false)∧Below w.heap.size w wr)
 case atStart=>exact⟨0,by omega,rfl,by show ∀ a∈_,_;simp,Below.refl _ _⟩
 case round=>
  obtain⟨k,hk,rfl,HK,hb⟩:=hrel
  have ah:=(hb.block c (Array.getElem?_eq_some_iff.1 hc).1).trans hc
  by_cases hlt:k<n
  ·obtain⟨a,Ha⟩:∃ a,Hid (l[k]?=some a):=⟨l[k]'(by rw[←Hn.out];exact hlt),List.getElem?_eq_getElem (by rw[←Hn.out];exact hlt)⟩
   obtain⟨b,off,rfl,hat⟩:=(h.below (VAt.stays hP) hb).get VAt.plain Ha.out
   obtain⟨v1,v2,v3,s0,s1,s2,s3,r1,r2,r3⟩:=hat.at
   obtain⟨a1,n1,c1,rfl,_,_⟩:=r1.shape
   obtain⟨a2,n2,c2,rfl,_,_⟩:=r2.shape
   obtain⟨a3,n3,c3,rfl,_,_⟩:=r3.shape
   have aj:(k:Int)<(n:Int):=by omega
   have ac:=D0r ah a a1 n1 c1 a2 n2 c2 a3 n3 c3
   cases hq:decide (x<a.number) with
   | true=>
    have HF:Hid (A0g (fun v=>decide (x<v.number)) l=(k:Int)):=A8b Ha.out HK.out hq
    rw[hq] at ac
    clear hq hat r1 r2 r3
    go_wp2_with fail
    refine ac.mono ?_
    rintro e w1 ⟨rfl,hb1⟩
    go_wp2
    go_ret
    exact⟨by rw[HF.out];rfl,hb.trans (hb1.mono hb.size)⟩
   | false=>
    have HX:Hid (∀ a∈l.take (k+1),decide (x<a.number)=false):=by
     show ∀ a∈_,_
     rw[A0y Ha.out]
     intro y hy
     rcases List.mem_append.1 hy with hy|hy
     ·exact HK.out y hy
     ·rw[List.mem_singleton] at hy;rw[hy];exact hq
    rw[hq] at ac
    clear hq hat r1 r2 r3
    go_wp2_with fail
    refine ac.mono ?_
    rintro e w1 ⟨rfl,hb1⟩
    go_wp2_with fail
    go_roundg (n-(k+1))
    case measure=>omega
    case rel=>exact⟨k+1,by omega,by go_num,HX,hb.trans (hb1.mono hb.size)⟩
  ·have HF:Hid (A0g (fun v=>decide (x<v.number)) l = -1):=by
    have:=HK.out
    rw[List.take_of_length_le (by rw[←Hn.out];omega)] at this
    exact A4x this
   go_wp2
   go_ret
   exact⟨by rw[HF.out];rfl,hb⟩
def A1a {β:Type}(x:Int)(l:List (VI β)):Nat:=(l.findIdx? fun v=>decide (x<v.number)).getD l.length
theorem C1s {β:Type}{P:World→Addr→β→Prop}(hP:A4p P){v0:Value}{l:List (VI β)}{w:World}(h:RdL 4 (VAt P) w v0 l)(x:Int) :
  Calls Tryz.prog 72 #[.int .i64 x,v0] w fun e w'=>e = .returned (.int .i64 ((A1a x l:Nat):Int))∧Below w.heap.size w w':=by
 obtain⟨ao,n,cap,rfl,Hn,ac⟩:=h.shape
 have hb2:Below w.heap.size w (w.alloc (.cells #[.int .i64 x] 3)):=(Below.refl _ _).alloc (Nat.le_refl _) _
 have hi:=C6p hP (h.below (VAt.stays hP) hb2) (heap_alloc_new w _)
 have ag:=A4s
 cases hp:l.findIdx? (fun v=>decide (x<v.number)) with
 | some k=>
  have e1:A0g (fun v:VI β=>decide (x<v.number)) l=(k:Int):=by unfold A0g;rw[hp]
  have HP:Hid (A1a x l=k):=by show _=_;unfold A1a;rw[hp];rfl
  have hk:¬ (k:Int)<0:=by omega
  rw[e1] at hi
  clear hp e1
  go_enter Tryz.func72,Tryz.ntmps72
  go_wp2_with fail
  refine hi.mono ?_
  rintro e w1 ⟨rfl,hb1⟩
  go_wp2
  go_ret
  exact⟨by rw[HP.out];rfl,hb2.trans (hb1.mono hb2.size)⟩
 | none=>
  have e1:A0g (fun v:VI β=>decide (x<v.number)) l = -1:=by unfold A0g;rw[hp]
  have HP:Hid (A1a x l=n):=by show _=_;unfold A1a;rw[hp,Hn.out];rfl
  rw[e1] at hi
  clear hp e1
  go_enter Tryz.func72,Tryz.ntmps72
  go_wp2_with fail
  refine hi.mono ?_
  rintro e w1 ⟨rfl,hb1⟩
  go_wp2
  go_ret
  exact⟨by rw[HP.out];rfl,hb2.trans (hb1.mono hb2.size)⟩
def isF (n:Int)(f:FI):Bool:=decide (f.number=n)
def isN (t:List UInt8)(m:MI):Bool:=decide (m.name=t)
def isV {β:Type}(n:Int)(v:VI β):Bool:=decide (v.number=n)
def A6v {β:Type}(fs:List FI)(x:FI)(l:List (VI β))(y:VI β):List (VI β):=
 if A0p x y then l.filter (fun a=>!A0m fs x a.number)
 else(l.filter fun a=>!A0m fs x a.number).take (A1a y.number (l.filter fun a=>!A0m fs x a.number))++[y]++(l.filter fun a=>!A0m fs x a.number).drop (A1a y.number (l.filter fun a=>!A0m fs x a.number))
def A6y {β:Type}(J:MI→β→β→β)(ms:List MI)(x:FI)(a b:VI β):VI β:=
 if x.many then⟨a.number,a.bits++b.bits,a.bytes++b.bytes,a.subs++b.subs⟩
 else if x.kind=10 then
  match ms.find? (isN x.type),a.subs,b.subs with
  | some M,s::_,t::_=>⟨a.number,a.bits,a.bytes,[J M s t]⟩
  | _,_,_=>a
 else b
def A4b {β:Type}(J:MI→β→β→β)(ms:List MI)(fs:List FI)(l:List (VI β))(v:VI β):List (VI β):=
 match fs.find? (isF v.number) with
 | none=>l
 | some x=>
  match l.find? (isV v.number) with
  | none=>A6v fs x l v
  | some u=>A6v fs x l (A6y J ms x u v)
def jnB (ms:List MI):(d:Nat)→MI→BI d→BI d→BI d
 | 0=>fun _ a _=>a
 | d+1=>fun M a b=>(⟨(BO.vals b).foldl (A4b (jnB ms d) ms M.fields) (BO.vals a),BO.unk a++BO.unk b⟩:BO (BI d))
def jW {β:Type}(f : β→Nat)(v:VI β):Nat:=1+v.bits.length+v.bytes.length+(v.subs.map fun s=>1+f s).sum
def jWB:(d:Nat)→BI d→Nat
 | 0=>fun _=>0
 | d+1=>fun b=>((BO.vals b).map (jW (jWB d))).sum+(BO.unk b).length
theorem A4r {fs:List FI}{n:Int}{x:FI}(h:fs.find? (isF n)=some x):x.number=n:=by
 have:=List.find?_some h
 simpa [isF] using this
theorem A9u {fs:List FI}{n:Int}{x:FI}(h:fs.find? (isF n)=some x):A0m fs x n=true:=by
 have hn:=A4r h
 unfold A0m
 split
 ·simp[hn]
 ·unfold A1u
  have:fs.find? (fun f=>decide (f.number=n))=some x:=h
  rw[this]
  simp
theorem B2y {β:Type}{J:MI→β→β→β}{ms:List MI}{x:FI}{a b:VI β}(h:a.number=b.number):(A6y J ms x a b).number=b.number:=by
 unfold A6y
 split
 ·exact h
 ·split
  ·split
   ·exact h
   ·exact h
  ·rfl
theorem B0o {β:Type}{fs:List FI}{x:FI}{l:List (VI β)}{y a:VI β}(h:a∈A6v fs x l y):a=y∨a∈l:=by
 unfold A6v at h
 split at h
 ·exact .inr (List.mem_filter.1 h).1
 ·rw[List.mem_append,List.mem_append,List.mem_singleton] at h
  rcases h with(h|h)|h
  ·exact .inr (List.mem_filter.1 (List.mem_of_mem_take h)).1
  ·exact .inl h
  ·exact .inr (List.mem_filter.1 (List.mem_of_mem_drop h)).1
theorem B0y {α:Type}(f : α→Nat)(p : α→Bool):∀ l:List α,((l.filter p).map f).sum≤(l.map f).sum
 | []=>Nat.le_refl _
 | a::l=>by
  have:=B0y f p l
  rw[List.filter_cons]
  split <;> simp only[List.map_cons,List.sum_cons] <;> omega
theorem D1v {α:Type}(f : α→Nat){p : α→Bool}{a : α}(hp:p a=false):∀ {l:List α},a∈l→f a+((l.filter p).map f).sum≤(l.map f).sum
 | b::l,h=>by
  rw[List.filter_cons]
  rcases List.mem_cons.1 h with rfl|h
  ·have:=B0y f p l
   rw[hp]
   simp only[Bool.false_eq_true,if_false,List.map_cons,List.sum_cons]
   omega
  ·have:=D1v f hp h
   split <;> simp only[List.map_cons,List.sum_cons] <;> omega
theorem D9m {α:Type}(f : α→Nat)(l:List α)(i:Nat)(a : α):((l.take i++[a]++l.drop i).map f).sum=f a+(l.map f).sum:=by
 have h:(l.map f).sum=((l.take i).map f).sum+((l.drop i).map f).sum:=by rw[←List.sum_append,←List.map_append,List.take_append_drop]
 simp only[List.map_append,List.sum_append,List.map_cons,List.map_nil,List.sum_cons,List.sum_nil]
 omega
theorem E0p {β:Type}(f : β→Nat)(fs:List FI)(x:FI)(l:List (VI β))(y:VI β):((A6v fs x l y).map (jW f)).sum≤jW f y+((l.filter fun a=>!A0m fs x a.number).map (jW f)).sum:=by
 unfold A6v
 split
 ·omega
 ·rw[D9m];omega
theorem E0l {β:Type}{f : β→Nat}{J:MI→β→β→β}(hJ:∀ M s t,f (J M s t)≤f s+f t)(ms:List MI)(x:FI)(a b:VI β):jW f (A6y J ms x a b)≤jW f a+jW f b:=by
 unfold A6y
 split
 ·unfold jW
  simp only[List.length_append,List.map_append,List.sum_append]
  omega
 ·split
  ·split
   ·rename_i M s l t m h1 h2 h3
    have:=hJ M s t
    unfold jW
    rw[h2,h3]
    simp only[List.map_cons,List.sum_cons,List.map_nil,List.sum_nil]
    omega
   ·omega
  ·omega
theorem D7r {β:Type}{f : β→Nat}{J:MI→β→β→β}(hJ:∀ M s t,f (J M s t)≤f s+f t)(ms:List MI)(fs:List FI)(l:List (VI β))(v:VI β):((A4b J ms fs l v).map (jW f)).sum≤(l.map (jW f)).sum+jW f v:=by
 unfold A4b
 split
 ·omega
 ·rename_i x hx
  split
  ·have:=E0p f fs x l v
   have:=B0y (jW f) (fun a=>!A0m fs x a.number) l
   omega
  ·rename_i u hu
   have ac:u.number=v.number:=by have:=List.find?_some hu;simpa [isV] using this
   have h1:=E0p f fs x l (A6y J ms x u v)
   have h2:=E0l hJ ms x u v
   have h3:=D1v (jW f) (p:=fun a:VI β=>!A0m fs x a.number) (a:=u) (by simp[ac,A9u hx]) (List.mem_of_find?_eq_some hu)
   omega
theorem D7a {β:Type}{f : β→Nat}{J:MI→β→β→β}(hJ:∀ M s t,f (J M s t)≤f s+f t)(ms:List MI)(fs:List FI):∀ (m l:List (VI β)),((m.foldl (A4b J ms fs) l).map (jW f)).sum≤(l.map (jW f)).sum+(m.map (jW f)).sum
 | [],_=>by simp
 | v::m,l=>by
  have h1:=D7a hJ ms fs m (A4b J ms fs l v)
  have h2:=D7r hJ ms fs l v
  simp only[List.foldl_cons,List.map_cons,List.sum_cons]
  omega
theorem C9k (ms:List MI):∀ (d:Nat) (M:MI) (a b:BI d),jWB d (jnB ms d M a b)≤jWB d a+jWB d b
 | 0,_,a,_=>nomatch (a:Empty)
 | d+1,M,a,b=>by
  have:=D7a (fun M s t=>C9k ms d M s t) ms M.fields (BO.vals b) (BO.vals a)
  show(List.map (jW (jWB d)) ((BO.vals b).foldl (A4b (jnB ms d) ms M.fields) (BO.vals a))).sum+(BO.unk a++BO.unk b).length≤((List.map (jW (jWB d)) (BO.vals a)).sum+(BO.unk a).length)+((List.map (jW (jWB d)) (BO.vals b)).sum+(BO.unk b).length)
  rw[List.length_append]
  omega
theorem A5t {α:Type}(f : α→Nat)(hf:∀ a,1≤f a):∀ l:List α,l.length≤(l.map f).sum
 | []=>Nat.le_refl _
 | a::l=>by
  have:=A5t f hf l
  have:=hf a
  simp only[List.length_cons,List.map_cons,List.sum_cons]
  omega
end L
end Go.Proofs.YtgaoojpakjjdnaaGreatDoor
