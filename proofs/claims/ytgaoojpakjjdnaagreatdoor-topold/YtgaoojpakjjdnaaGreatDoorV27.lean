import Derived.Test.YtgaoojpakjjdnaaGreatDoorV26
import Derived.Laws.MakeOwn
set_option maxHeartbeats 32000000
set_option maxRecDepth 100000
set_option linter.unusedVariables false
namespace Go.Proofs.YtgaoojpakjjdnaaGreatDoor
namespace L
open Go.RowKit
def DOut (n:Nat)(V:World)(res:Except Int (BI n))(e:Ending)(w':World):Prop:=
 match res with
 | .error E=>E≠0∧e = .returned (.tuple #[.agg #[.slice none 0 0,.slice none 0 0],.int .i64 E])∧Below V.heap.size V w'
 | .ok s=>∃ (c:LB n) (i0:Option Addr) (j0 l0:Nat) (i1:Option Addr) (j1 l1:Nat),C0f n c = [.slice i0 j0 l0,.slice i1 j1 l1]∧e = .returned (.tuple #[.agg #[.slice i0 j0 l0,.slice i1 j1 l1],.int .i64 0])∧LB.pl n c=s∧OwnB V.heap.size n w' c∧(LB.fp n c).Nodup∧Below V.heap.size V w'
def DDeep (n:Nat)(W:World)(fn:Nat)(cap:Array Value)(name:List UInt8)(rd:List UInt8→Except Int (BI n))(Q:List UInt8→Prop):Prop:=
 ∀ (V:World) (ao:Option Addr) (m c:Nat) (l:List UInt8),Q l→Below W.heap.size W V→RdL 1 YAt V (.slice ao m c) l→l.length≤4000→Calls Tryz.prog fn (#[.string (S name),.slice ao m c]++cap) V fun e w'=>DOut n V (rd l) e w'
theorem DDeep.below {n:Nat}{W W':World}{fn:Nat}{cap:Array Value}{name:List UInt8}{rd:List UInt8→Except Int (BI n)}{Q:List UInt8→Prop}(h:DDeep n W fn cap name rd Q)(hb:Below W.heap.size W W'):DDeep n W' fn cap name rd Q:=
 fun V ao m c l hQ hV=>h V ao m c l hQ (KBT hb hV)
def A3q {n:Nat}(rd:List UInt8→List UInt8→Except Int (BI n))(x:FI)(r:RI):Except Int (VI (BI n)):=
 if A3z x.kind≠2 then(if (tnN x r).2=0 then .ok ⟨x.number,(tnN x r).1,[],[]⟩ else .error (((tnN x r).2:Nat):Int))
 else if r.how≠2 then .error 8
 else if x.kind=10 then(match rd x.type r.bytes with|.error E=>.error E|.ok s=>.ok ⟨x.number,[],[],[s]⟩)
 else if x.kind=8∧Lib.validD r.bytes=false then .error 9
 else .ok ⟨x.number,[],[r.bytes],[]⟩
def TOut (n:Nat)(B:Nat)(w:World)(res:Except Int (VI (BI n)))(e:Ending)(w':World):Prop:=
 Below w.heap.size w w'∧match res with
 | .error E=>E≠0∧∃ (q:Int) (a1:Option Addr) (n1 c1:Nat) (a2:Option Addr) (n2 c2:Nat) (a3:Option Addr) (n3 c3:Nat),e = .returned (.tuple #[.agg #[.int .i64 q,.slice a1 n1 c1,.slice a2 n2 c2,.slice a3 n3 c3],.int .i64 E])
 | .ok y=>∃ y':VL (LB n),e = .returned (.tuple #[.agg #[.int .i64 y'.number,y'.p1.v,y'.p2.v,y'.p3.v],.int .i64 0])∧VL.pl (LB.pl n) y'=y∧OwnV (ekB n) (OwnB B n) w' B y'∧(∀ k∈VL.fp (LB.fp n) y',w.heap.size≤k)∧(VL.fp (LB.fp n) y').Nodup
theorem C1g {α:Type}{E:EK α}{w:World}{base g:Nat}{a : α}(hb:base≤g)(h:w.heap[g]?=some (.cells (E.enc a).toArray E.elem (0,0))):Row E w base (.slice (some ⟨g,0,none⟩) 1 1) [a]:=by
 refine⟨E.flat_len [a],.inr ⟨g,1,_,rfl,hb,h,Nat.le_refl _,by unfold maxLen;omega,by simp[E.len],?_⟩⟩
 have:(E.enc a).length=([a]:List α).length*E.size:=by rw[E.len];simp
 simp only[EK.flat,List.flatMap_cons,List.flatMap_nil,List.append_nil]
 rw[←this]
 simp
theorem A6v {w:World}{g:Nat}{a0 a1 a2 a3:Value}{t:TypeId}(h:w.heap[g]?=some (.cells #[a0,a1,a2,a3] t (0,0))) :
  w.cell? ⟨g,0,none⟩=some a0∧w.cell? ⟨g,1,none⟩=some a1∧w.cell? ⟨g,2,none⟩=some a2∧w.cell? ⟨g,3,none⟩=some a3:=⟨A0a h 0 _ rfl,A0a h 1 _ rfl,A0a h 2 _ rfl,A0a h 3 _ rfl⟩
theorem D5n (w:World)(o1 o2 o3 o4:Obj):((((w.alloc o1).alloc o2).alloc o3).alloc o4).heap[w.heap.size]?=some o1∧((((w.alloc o1).alloc o2).alloc o3).alloc o4).heap[w.heap.size+1]?=some o2∧((((w.alloc o1).alloc o2).alloc o3).alloc o4).heap[w.heap.size+2]?=some o3∧((((w.alloc o1).alloc o2).alloc o3).alloc o4).heap[w.heap.size+3]?=some o4∧((((w.alloc o1).alloc o2).alloc o3).alloc o4).heap.size=w.heap.size+4:=by
 have z1:(w.alloc o1).heap.size=w.heap.size+1:=by simp
 have z2:((w.alloc o1).alloc o2).heap.size=w.heap.size+2:=by simp
 have z3:(((w.alloc o1).alloc o2).alloc o3).heap.size=w.heap.size+3:=by simp
 refine⟨?_,?_,?_,?_,by simp⟩
 ·rw[Below.heap_alloc _ _ _ (by omega),Below.heap_alloc _ _ _ (by omega),Below.heap_alloc _ _ _ (by omega)];exact heap_alloc_new w o1
 ·rw[Below.heap_alloc _ _ _ (by omega),Below.heap_alloc _ _ _ (by omega),←z1];exact heap_alloc_new _ o2
 ·rw[Below.heap_alloc _ _ _ (by omega),←z2];exact heap_alloc_new _ o3
 ·rw[←z3];exact heap_alloc_new _ o4
theorem E0a {w:World}{g:Nat}{cs:Array Value}{x0 x1 x2 x3:Value}{t:TypeId}(h:w.heap[g]?=some (.cells cs t (0,0)))(ht:t≠5):FrB [g] w ((((w.setCell ⟨g,0,none⟩ x0).setCell ⟨g,1,none⟩ x1).setCell ⟨g,2,none⟩ x2).setCell ⟨g,3,none⟩ x3):=
 A2c (A2c (A2c (A1l h ht) (A1l (heap_setCell_same _ _ 0 _ _ x0 h) ht)) (A1l (heap_setCell_same _ _ 1 _ _ x1 (heap_setCell_same _ _ 0 _ _ x0 h)) ht)) (A1l (heap_setCell_same _ _ 2 _ _ x2 (heap_setCell_same _ _ 1 _ _ x1 (heap_setCell_same _ _ 0 _ _ x0 h))) ht)
theorem D2k (W:World):(Instr.makeSlice 60 (.int .i64 1) (.int .i64 1)).run Tryz.prog W = .ok (.slice (some ⟨W.heap.size,0,none⟩) 1 1) (W.alloc (.cells #[.slice none 0 0,.slice none 0 0] 29)):=by
 obtain⟨i0,hi,hz0,hz1,hz2⟩:=info_parts (ekB 0).info
 have h:=run_make (P:=Tryz.prog) W 60 29 i0 _ (ekB 0).under hi hz0 .i64 .i64 1 1 (by decide) (by decide) (by rw[hz2];decide) (by decide)
 rw[hz1] at h
 have e:madeCells (ekB 0).zero.cells (Int.toNat 1*(ekB 0).size)=#[.slice none 0 0,.slice none 0 0]:=by
  unfold madeCells
  have e2:Array.range (Int.toNat 1*(ekB 0).size)=#[0,1]:=by show Array.range 2=_;decide
  rw[e2]
  simp[ekB,Value.cells]
 rw[e] at h
 exact h
theorem D3w {n:Nat}{w:World}{B:Nat}(hB:B≤w.heap.size)(x:FI)(r:RI){ao:Option Addr}{nb cap:Nat}(hrow:Row ekY w B (.slice ao nb cap) r.bytes)(hl:r.bytes.length≤4000)(hb:r.bits≤18446744073709551615)(hT:Tabs w){fn:Nat}{cp:Array Value}(fz:∀ (args:Array Value) (w:World),(callFunc fn args).run Tryz.prog w = .ok (.enter fn args) w){rd:List UInt8→List UInt8→Except Int (BI n)}{Q:List UInt8→List UInt8→Prop}(ah:x.kind=10→DDeep n w fn cp x.type (rd x.type) (Q x.type))(hQ:x.kind=10→Q x.type r.bytes) :
  Calls Tryz.prog 47 #[fdV x,.agg #[.int .i64 r.number,.int .i64 r.how,.int .u64 (r.bits:Int),.slice ao nb cap],.func (.func fn) #[] cp] w fun e w'=>TOut n B w (A3q rd x r) e w':=by
 have h:=hrow.rdY
 have cg:Hid (Row ekY w B (.slice ao nb cap) r.bytes):=hrow
 clear hrow
 obtain⟨W4,bv⟩:∃ W4,Hid (W4=(((w.alloc (.cells #[.string (S x.name),.int .i64 x.number,.int .i64 x.kind,.string (S x.type),.bool x.many,.int .i64 x.choice] 40)).alloc (.cells #[.int .i64 r.number,.int .i64 r.how,.int .u64 (r.bits:Int),.slice ao nb cap] 106)).alloc (.cells #[.int .i64 0,.slice none 0 0,.slice none 0 0,.slice none 0 0] 62)).alloc (.cells #[.int .i64 x.number,.slice none 0 0,.slice none 0 0,.slice none 0 0] 62)):=⟨_,rfl⟩
 obtain⟨x1,x2,x3,x4,z0⟩:=D5n w (.cells #[.string (S x.name),.int .i64 x.number,.int .i64 x.kind,.string (S x.type),.bool x.many,.int .i64 x.choice] 40) (.cells #[.int .i64 r.number,.int .i64 r.how,.int .u64 (r.bits:Int),.slice ao nb cap] 106) (.cells #[.int .i64 0,.slice none 0 0,.slice none 0 0,.slice none 0 0] 62) (.cells #[.int .i64 x.number,.slice none 0 0,.slice none 0 0,.slice none 0 0] 62)
 rw[←bv.out] at x1 x2 x3 x4 z0
 have hb4:Below w.heap.size w W4:=by rw[bv.out];exact((((Below.refl _ _).alloc (Nat.le_refl _) _).alloc (by simp) _).alloc (by simp;omega) _).alloc (by simp;omega) _
 have ie:w.heap.size+4≤W4.heap.size:=Nat.le_of_eq z0.symm
 have gi:=Nat.le_of_eq z0
 have g8:Hid (W4.heap.size=w.heap.size+4):=z0
 clear z0
 have dr:∀ V,Below W4.heap.size W4 V→(V.cell? ⟨w.heap.size,0,none⟩=some (.string (S x.name))∧V.cell? ⟨w.heap.size,1,none⟩=some (.int .i64 x.number)∧V.cell? ⟨w.heap.size,2,none⟩=some (.int .i64 x.kind)∧V.cell? ⟨w.heap.size,3,none⟩=some (.string (S x.type))∧V.cell? ⟨w.heap.size,4,none⟩=some (.bool x.many)∧V.cell? ⟨w.heap.size,5,none⟩=some (.int .i64 x.choice))∧(V.cell? ⟨w.heap.size+1,0,none⟩=some (.int .i64 r.number)∧V.cell? ⟨w.heap.size+1,1,none⟩=some (.int .i64 r.how)∧V.cell? ⟨w.heap.size+1,2,none⟩=some (.int .u64 (r.bits:Int))∧V.cell? ⟨w.heap.size+1,3,none⟩=some (.slice ao nb cap)):=fun V hV=>by
  have y1:=(hV.block _ (by omega)).trans x1
  exact⟨⟨A0a y1 0 _ rfl,A0a y1 1 _ rfl,A0a y1 2 _ rfl,A0a y1 3 _ rfl,A0a y1 4 _ rfl,A0a y1 5 _ rfl⟩,A6v ((hV.block _ (by omega)).trans x2)⟩
 have au:∀ V,Below W4.heap.size W4 V→V.heap[w.heap.size+2]?=some (.cells #[.int .i64 0,.slice none 0 0,.slice none 0 0,.slice none 0 0] 62 (0,0))∧V.heap[w.heap.size+3]?=some (.cells #[.int .i64 x.number,.slice none 0 0,.slice none 0 0,.slice none 0 0] 62 (0,0)):=fun V hV=>⟨(hV.block _ (by omega)).trans x3,(hV.block _ (by omega)).trans x4⟩
 obtain⟨R,HR⟩:∃ R,Hid (A3q rd x r=R):=⟨_,rfl⟩
 rw[HR.out]
 have dt:Hid (RdL 1 YAt w (.slice ao nb cap) r.bytes):=h
 have cw:=B5y x.kind W4
 obtain⟨H,HH⟩:∃ H,Hid (A3z x.kind=H):=⟨_,rfl⟩
 rw[HH.out] at cw
 obtain⟨⟨t0,t1,t2,t3,t4,t5⟩,t6,t7,t8,t9⟩:=dr W4 (Below.refl _ _)
 obtain⟨y2,y3⟩:=au W4 (Below.refl _ _)
 by_cases hH:H=2
 ·have eH:(H != 2)=false:=by simp[hH]
  have bk:Hid (A3z x.kind=2):=by show _=_;rw[HH.out];exact hH
  by_cases hR:r.how=2
  ·have eR:(r.how != 2)=false:=by simp[hR]
   by_cases hk:x.kind=10
   ·have ek:(x.kind==10)=true:=beq_iff_eq.2 hk
    have HD:Hid (DDeep n w fn cp x.type (rd x.type) (Q x.type)):=ah hk
    have HQ:Hid (Q x.type r.bytes):=hQ hk
    have ag:Hid (R=match rd x.type r.bytes with|.error E=>.error E|.ok s=>.ok ⟨x.number,[],[],[s]⟩):=by
     show _=_
     rw[←HR.out]
     unfold A3q
     rw[if_neg (by rw[bk.out];simp),if_neg (by rw[hR];simp),if_pos hk]
    clear hH hR hk ah
    obtain⟨s0,s1,s2,s3⟩:=A6v y3
    have bc:=A0b y3
    have f6:=D2k
    obtain⟨sb,dn⟩:∃ sb,Hid (W4.heap.size=sb):=⟨_,rfl⟩
    have gg:sb≤W4.heap.size:=Nat.le_of_eq dn.out.symm
    have gh:W4.heap.size≤sb:=Nat.le_of_eq dn.out
    obtain⟨Y5,dm⟩:∃ Y5,Hid (Y5=W4.alloc (.cells #[.slice none 0 0,.slice none 0 0] 29)):=⟨_,rfl⟩
    have dp:Below W4.heap.size W4 Y5:=by rw[dm.out];exact(Below.refl _ _).alloc (Nat.le_refl _) _
    have fu:Y5.heap[sb]?=some (.cells #[.slice none 0 0,.slice none 0 0] 29 (0,0)):=by rw[←dn.out,dm.out];exact heap_alloc_new _ _
    have ij:sb<Y5.heap.size:=(Array.getElem?_eq_some_iff.1 fu).1
    obtain⟨g7,ew⟩:=au Y5 dp
    obtain⟨p0,p1,p2,p3⟩:=A6v ew
    have fe:=A0b ew
    rw[dm.out] at p0 p1 p2 p3 fe
    obtain⟨W5,bn⟩:∃ W5,Hid (W5=Y5.setCell ⟨w.heap.size+3,3,none⟩ (.slice (some ⟨sb,0,none⟩) 1 1)):=⟨_,rfl⟩
    have bh:Below w.heap.size w W5:=by rw[bn.out];exact KB_set (KBT hb4 dp) (by omega)
    have eo:W5.heap[sb]?=some (.cells #[.slice none 0 0,.slice none 0 0] 29 (0,0)):=by rw[bn.out,Below.heap_setCell _ _ _ _ (show sb≠w.heap.size+3 by omega)];exact fu
    have et:W5.heap[w.heap.size+3]?=some (.cells #[.int .i64 x.number,.slice none 0 0,.slice none 0 0,.slice (some ⟨sb,0,none⟩) 1 1] 62 (0,0)):=by rw[bn.out];exact heap_setCell_same _ _ 3 _ _ _ ew
    have ft:W5.heap[w.heap.size+2]?=some (.cells #[.int .i64 0,.slice none 0 0,.slice none 0 0,.slice none 0 0] 62 (0,0)):=by rw[bn.out,Below.heap_setCell _ _ _ _ (show w.heap.size+2≠w.heap.size+3 by omega)];exact g7
    have ig:sb<W5.heap.size:=(Array.getElem?_eq_some_iff.1 eo).1
    have gw:W5.heap[w.heap.size]?=W4.heap[w.heap.size]?:=by rw[bn.out,Below.heap_setCell _ _ _ _ (show w.heap.size≠w.heap.size+3 by omega)];exact dp.block _ (by omega)
    have gy:W5.heap[w.heap.size+1]?=W4.heap[w.heap.size+1]?:=by rw[bn.out,Below.heap_setCell _ _ _ _ (show w.heap.size+1≠w.heap.size+3 by omega)];exact dp.block _ (by omega)
    have ac:∀ V,Below sb W5 V→V.cell? ⟨w.heap.size,3,none⟩=some (.string (S x.type))∧V.cell? ⟨w.heap.size+1,3,none⟩=some (.slice ao nb cap)∧V.cell? ⟨w.heap.size+3,3,none⟩=some (.slice (some ⟨sb,0,none⟩) 1 1):=fun V hV=>
     ⟨A0a (((hV.block _ (by omega)).trans gw).trans x1) 3 _ rfl,A0a (((hV.block _ (by omega)).trans gy).trans x2) 3 _ rfl,A0a ((hV.block _ (by omega)).trans et) 3 _ rfl⟩
    have hD:Below sb W5 W5.drew:=(Below.refl _ _).drew
    have ba:Below W5.heap.size W5 W5.drew:=(Below.refl _ _).drew
    obtain⟨RS,fc⟩:∃ RS,Hid (rd x.type r.bytes=RS):=⟨_,rfl⟩
    have dz:=HD.out W5.drew ao nb cap r.bytes HQ.out (KBT bh ba) (dt.out.below YAt.stays (KBT bh ba)) hl
    rw[fc.out] at dz
    rw[fc.out] at ag
    obtain⟨v0,v1,v2⟩:=ac W5.drew hD
    unfold fdV
    go_enter Tryz.func47,Tryz.ntmps47
    go_wp2_with fail
    rw[←bv.out]
    refine cw.mono ?_
    rintro e w5 ⟨rfl,rfl⟩
    go_upto_region 9 with fail
    rw[←dm.out,dn.out,←bn.out]
    clear t0 t1 t2 t3 t4 t5 t6 t7 t8 t9 y2 y3 s0 s1 s2 s3 p0 p1 p2 p3 bc fe f6
    cases RS with
    | error E=>
     refine wp_region_held_drew (S:=fun V=>Below sb W5 V) (by kernel_rfl) hD (fun hHeld=>?_)
     refine tK (i:=0) (v:=?ve1) rfl ⟨by rfl,?hye1⟩ ?_
     case hye1=>(intro W h;have:=ac W h;go_simp;first|done|with_reducible rfl)
     try simp only[pT,Act.put]
     refine tK (i:=1) (v:=?ve2) rfl ⟨by rfl,?hye2⟩ ?_
     case hye2=>(intro W h;have:=ac W h;go_simp;first|done|with_reducible rfl)
     try simp only[pT,Act.put]
     refine tK (i:=2) (v:=?ve3) rfl ⟨by rfl,?hye3⟩ ?_
     case hye3=>(intro W h;have:=ac W h;go_simp;first|done|with_reducible rfl)
     try simp only[pT,Act.put]
     refine tK (i:=3) (v:=?ve4) rfl ⟨by rfl,?hye4⟩ ?_
     case hye4=>(intro W h;have:=ac W h;go_simp;first|done|with_reducible rfl)
     try simp only[pT,Act.put]
     refine tK (i:=4) (v:=?ve5) rfl ⟨by rfl,?hye5⟩ ?_
     case hye5=>(intro W h;have:=ac W h;go_simp;first|done|with_reducible rfl)
     try simp only[pT,Act.put]
     refine tK (i:=5) (v:=?ve6) rfl ⟨by rfl,?hye6⟩ ?_
     case hye6=>(intro W h;have:=ac W h;go_simp;first|done|with_reducible rfl)
     try simp only[pT,Act.put]
     refine tK (i:=6) (v:=?ve7) rfl ⟨by rfl,?hye7⟩ ?_
     case hye7=>(intro W h;have:=ac W h;go_simp;first|done|with_reducible rfl)
     try simp only[pT,Act.put]
     refine rA (i:=7) rfl fun K hK=>?_
     go_simp
     refine dz.mono ?_
     rintro e w7 ⟨fx,rfl,bq⟩
     have ak:Below sb W5 w7:=hD.trans (bq.mono (by have:=ba.size;omega))
     have br:=(bq.block _ (by have:=ba.size;omega)).trans eo
     obtain⟨g0,g1⟩:=A0y br
     have fg:=A0b br
     refine hK.out _ _ ?_ (fun hHeld=>?_)
     ·(try dsimp only);first|with_reducible exact hD|with_reducible exact ak|exact KB_set (KB_set ak (Nat.le_refl _)) (Nat.le_refl _)
     clear hK K
     try simp only[pT,Act.put]
     refine tK (i:=8) (v:=?ve8) rfl ⟨by rfl,?hye8⟩ ?_
     case hye8=>(intro W h;have:=ac W h;go_simp;first|done|with_reducible rfl)
     try simp only[pT,Act.put]
     refine tK (i:=9) (v:=?ve9) rfl ⟨by rfl,?hye9⟩ ?_
     case hye9=>(intro W h;have:=ac W h;go_simp;first|done|with_reducible rfl)
     try simp only[pT,Act.put]
     refine tK (i:=10) (v:=?ve10) rfl ⟨by rfl,?hye10⟩ ?_
     case hye10=>(intro W h;have:=ac W h;go_simp;first|done|with_reducible rfl)
     try simp only[pT,Act.put]
     refine tK (i:=11) (v:=?ve11) rfl ⟨by rfl,?hye11⟩ ?_
     case hye11=>(intro W h;have:=ac W h;go_simp;first|done|with_reducible rfl)
     try simp only[pT,Act.put]
     refine rA (i:=12) rfl fun K hK=>?_
     go_simp
     refine hK.out _ _ ?_ (fun hHeld=>?_)
     ·(try dsimp only);first|with_reducible exact hD|with_reducible exact ak|exact KB_set (KB_set ak (Nat.le_refl _)) (Nat.le_refl _)
     clear hK K
     try simp only[pT,Act.put]
     refine tK (i:=13) (v:=?ve12) rfl ⟨by rfl,?hye12⟩ ?_
     case hye12=>(intro W h;have:=ac W h;go_simp;first|done|with_reducible rfl)
     try simp only[pT,Act.put]
     refine wpAnyH_done (by kernel_rfl) ?_ _
     have eu:=(ak.block _ (by omega)).trans et
     have bw:=(ak.block _ (by omega)).trans ft
     obtain⟨s0,s1,s2,s3⟩:=A6v eu
     obtain⟨u0,u1,u2,u3⟩:=A6v bw
     have aj:=A0b bw
     have gl:¬ w.heap.size+3=sb:=by omega
     have ei:¬ w.heap.size+2=sb:=by omega
     have gp:¬ sb=w.heap.size+3:=by omega
     have dh:¬ sb=w.heap.size+2:=by omega
     have gq:¬ w.heap.size+3=w.heap.size+2:=by omega
     have gu:¬ w.heap.size+2=w.heap.size+3:=by omega
     have dy:Below w.heap.size w w7:=KBT (KBT bh ba) bq
     go_wp2_with fail
     refine bodyPost_ret (v:=.tuple #[.agg #[.int .i64 x.number,.slice none 0 0,.slice none 0 0,.slice (some ⟨sb,0,none⟩) 1 1],.int .i64 E]) (by simp[results,Tryz.results47,go_sem, *]) rfl ?_
     refine⟨KB_set (KB_set (KB_set (KB_set (KB_set (KB_set dy (by omega)) (by omega)) (by omega)) (by omega)) (by omega)) (by omega),?_⟩
     rw[ag.out]
     exact⟨fx,_,_,_,_,_,_,_,_,_,_,rfl⟩
    | ok s=>
     refine wp_region_held_drew (S:=fun V=>Below sb W5 V) (by kernel_rfl) hD (fun hHeld=>?_)
     refine tK (i:=0) (v:=?vo1) rfl ⟨by rfl,?hyo1⟩ ?_
     case hyo1=>(intro W h;have:=ac W h;go_simp;first|done|with_reducible rfl)
     try simp only[pT,Act.put]
     refine tK (i:=1) (v:=?vo2) rfl ⟨by rfl,?hyo2⟩ ?_
     case hyo2=>(intro W h;have:=ac W h;go_simp;first|done|with_reducible rfl)
     try simp only[pT,Act.put]
     refine tK (i:=2) (v:=?vo3) rfl ⟨by rfl,?hyo3⟩ ?_
     case hyo3=>(intro W h;have:=ac W h;go_simp;first|done|with_reducible rfl)
     try simp only[pT,Act.put]
     refine tK (i:=3) (v:=?vo4) rfl ⟨by rfl,?hyo4⟩ ?_
     case hyo4=>(intro W h;have:=ac W h;go_simp;first|done|with_reducible rfl)
     try simp only[pT,Act.put]
     refine tK (i:=4) (v:=?vo5) rfl ⟨by rfl,?hyo5⟩ ?_
     case hyo5=>(intro W h;have:=ac W h;go_simp;first|done|with_reducible rfl)
     try simp only[pT,Act.put]
     refine tK (i:=5) (v:=?vo6) rfl ⟨by rfl,?hyo6⟩ ?_
     case hyo6=>(intro W h;have:=ac W h;go_simp;first|done|with_reducible rfl)
     try simp only[pT,Act.put]
     refine tK (i:=6) (v:=?vo7) rfl ⟨by rfl,?hyo7⟩ ?_
     case hyo7=>(intro W h;have:=ac W h;go_simp;first|done|with_reducible rfl)
     try simp only[pT,Act.put]
     refine rA (i:=7) rfl fun K hK=>?_
     go_simp
     refine dz.mono ?_
     rintro e w7 ⟨cc,i0,j0,l0,i1,j1,l1,d9,rfl,hpl,hown,f9,bq⟩
     have ak:Below sb W5 w7:=hD.trans (bq.mono (by have:=ba.size;omega))
     have br:=(bq.block _ (by have:=ba.size;omega)).trans eo
     obtain⟨g0,g1⟩:=A0y br
     have fg:=A0b br
     refine hK.out _ _ ?_ (fun hHeld=>?_)
     ·(try dsimp only);first|with_reducible exact hD|with_reducible exact ak|exact KB_set (KB_set ak (Nat.le_refl _)) (Nat.le_refl _)
     clear hK K
     try simp only[pT,Act.put]
     refine tK (i:=8) (v:=?vo8) rfl ⟨by rfl,?hyo8⟩ ?_
     case hyo8=>(intro W h;have:=ac W h;go_simp;first|done|with_reducible rfl)
     try simp only[pT,Act.put]
     refine tK (i:=9) (v:=?vo9) rfl ⟨by rfl,?hyo9⟩ ?_
     case hyo9=>(intro W h;have:=ac W h;go_simp;first|done|with_reducible rfl)
     try simp only[pT,Act.put]
     refine tK (i:=10) (v:=?vo10) rfl ⟨by rfl,?hyo10⟩ ?_
     case hyo10=>(intro W h;have:=ac W h;go_simp;first|done|with_reducible rfl)
     try simp only[pT,Act.put]
     refine tK (i:=11) (v:=?vo11) rfl ⟨by rfl,?hyo11⟩ ?_
     case hyo11=>(intro W h;have:=ac W h;go_simp;first|done|with_reducible rfl)
     try simp only[pT,Act.put]
     refine rA (i:=12) rfl fun K hK=>?_
     go_simp
     refine hK.out _ _ ?_ (fun hHeld=>?_)
     ·(try dsimp only);first|with_reducible exact hD|with_reducible exact ak|exact KB_set (KB_set ak (Nat.le_refl _)) (Nat.le_refl _)
     clear hK K
     try simp only[pT,Act.put]
     refine tK (i:=13) (v:=?vo12) rfl ⟨by rfl,?hyo12⟩ ?_
     case hyo12=>(intro W h;have:=ac W h;go_simp;first|done|with_reducible rfl)
     try simp only[pT,Act.put]
     refine wpAnyH_done (by kernel_rfl) ?_ _
     have eu:=(ak.block _ (by omega)).trans et
     have bw:=(ak.block _ (by omega)).trans ft
     obtain⟨s0,s1,s2,s3⟩:=A6v eu
     obtain⟨u0,u1,u2,u3⟩:=A6v bw
     have aj:=A0b bw
     have gl:¬ w.heap.size+3=sb:=by omega
     have ei:¬ w.heap.size+2=sb:=by omega
     have gp:¬ sb=w.heap.size+3:=by omega
     have dh:¬ sb=w.heap.size+2:=by omega
     have gq:¬ w.heap.size+3=w.heap.size+2:=by omega
     have gu:¬ w.heap.size+2=w.heap.size+3:=by omega
     have dy:Below w.heap.size w w7:=KBT (KBT bh ba) bq
     go_wp2_with fail
     refine bodyPost_ret (v:=.tuple #[.agg #[.int .i64 x.number,.slice none 0 0,.slice none 0 0,.slice (some ⟨sb,0,none⟩) 1 1],.int .i64 0]) (by simp[results,Tryz.results47,go_sem, *]) rfl ?_
     refine⟨KB_set (KB_set (KB_set (KB_set (KB_set (KB_set dy (by omega)) (by omega)) (by omega)) (by omega)) (by omega)) (by omega),?_⟩
     rw[ag.out]
     have f1:=fr2 br (x0:=.slice i0 j0 l0) (x1:=.slice i1 j1 l1)
     have gz:((w7.setCell ⟨sb,0,none⟩ (.slice i0 j0 l0)).setCell ⟨sb,1,none⟩ (.slice i1 j1 l1)).heap[w.heap.size+2]?=some (.cells #[.int .i64 0,.slice none 0 0,.slice none 0 0,.slice none 0 0] 62 (0,0)):=by rw[Below.heap_setCell _ _ _ _ (show w.heap.size+2≠sb from ei),Below.heap_setCell _ _ _ _ (show w.heap.size+2≠sb from ei)];exact bw
     have f2:=E0a (x0:=.int .i64 x.number) (x1:=.slice none 0 0) (x2:=.slice none 0 0) (x3:=.slice (some ⟨sb,0,none⟩) 1 1) gz (by decide)
     have f3:=f1.trans f2 (H:=[sb,w.heap.size+2]) (fun i h=>by rw[List.mem_singleton.1 h];simp) (fun i h=>.inl (by rw[List.mem_singleton.1 h];simp))
     have fh:=OwnB.inB n hown
     have gc:=OwnB.fr n [sb,w.heap.size+2] _ _ cc hown f3 (fun k hk hm=>by have h1:=(fh k hk).1;have h2:=ba.size;simp only[List.mem_cons,List.not_mem_nil,or_false] at hm;omega)
     have xF:((((((w7.setCell ⟨sb,0,none⟩ (.slice i0 j0 l0)).setCell ⟨sb,1,none⟩ (.slice i1 j1 l1)).setCell ⟨w.heap.size+2,0,none⟩ (.int .i64 x.number)).setCell ⟨w.heap.size+2,1,none⟩ (.slice none 0 0)).setCell ⟨w.heap.size+2,2,none⟩ (.slice none 0 0)).setCell ⟨w.heap.size+2,3,none⟩ (.slice (some ⟨sb,0,none⟩) 1 1)).heap[sb]?=some (.cells #[.slice i0 j0 l0,.slice i1 j1 l1] 29 (0,0)):=by
      rw[Below.heap_setCell _ _ _ _ (show sb≠w.heap.size+2 from dh),Below.heap_setCell _ _ _ _ (show sb≠w.heap.size+2 from dh),Below.heap_setCell _ _ _ _ (show sb≠w.heap.size+2 from dh),Below.heap_setCell _ _ _ _ (show sb≠w.heap.size+2 from dh)]
      exact heap_setCell_same _ _ 1 _ _ _ (heap_setCell_same _ _ 0 _ _ _ br)
     have cu:∀ k∈LB.fp n cc,sb<k:=fun k hk=>by have h1:=(fh k hk).1;have h2:=ba.size;omega
     refine⟨⟨x.number,[],[],[cc],(none,0,0),(none,0,0),(some ⟨sb,0,none⟩,1,1)⟩,rfl,by show(⟨x.number,[],[],[LB.pl n cc]⟩:VI (BI n))=_;rw[hpl],⟨Row.nil _ _ _,Row.nil _ _ _,fun z hz=>(List.not_mem_nil hz).elim,C1g (E:=ekB n) (by omega) (by rw[xF];show some (Obj.cells _ _ _)=some (Obj.cells (C0f n cc).toArray _ _);rw[d9];rfl),fun z hz=>?_⟩,fun k hk=>?_,?_⟩
     ·rw[List.mem_singleton.1 hz]
      exact OwnB.mono n gc (by have h1:=ba.size;omega)
     ·have hk:k∈[]++[]++[sb]++[cc].flatMap (LB.fp n):=hk
      simp only[List.nil_append,List.flatMap_cons,List.flatMap_nil,List.append_nil,List.mem_append,List.mem_singleton] at hk
      rcases hk with rfl|hk
      ·omega
      ·have:=cu k hk;omega
     ·show([]++[]++[sb]++[cc].flatMap (LB.fp n)).Nodup
      simp only[List.nil_append,List.flatMap_cons,List.flatMap_nil,List.append_nil,List.singleton_append]
      exact List.nodup_cons.2 ⟨fun hk=>by have:=cu _ hk;omega,f9⟩
   ·have ek:(x.kind==10)=false:=beq_eq_false_iff_ne.2 hk
    have ee:x.kind=8∨x.kind=9:=by
     have:=bk.out
     unfold A3z at this
     split at this
     ·cases this
     ·split at this
      ·cases this
      ·split at this
       ·omega
       ·cases this
    have ag:Hid (R=if x.kind=8∧Lib.validD r.bytes=false then .error 9 else .ok ⟨x.number,[],[r.bytes],[]⟩):=by
     show _=_
     rw[←HR.out]
     unfold A3q
     rw[if_neg (by rw[bk.out];simp),if_neg (by rw[hR];simp),if_neg hk]
    have fo:=B9g (h.below YAt.stays hb4) (hT.below hb4)
    obtain⟨vB,fd⟩:∃ vB,Hid (Lib.validD r.bytes=vB):=⟨_,rfl⟩
    rw[fd.out] at fo
    rw[fd.out] at ag
    obtain⟨k8,dw⟩:∃ k8,Hid (decide (x.kind=8)=k8):=⟨_,rfl⟩
    have g9:(x.kind==8)=k8:=by rw[←dw.out];rfl
    clear hH hR hk ah ee
    unfold fdV
    go_enter Tryz.func47,Tryz.ntmps47
    go_wp2_with fail
    rw[←bv.out]
    refine cw.mono ?_
    rintro e w5 ⟨rfl,rfl⟩
    go_upto_region 10 with fail
    clear t0 t1 t2 t3 t4 t5 t6 t7 t8 t9 y2 y3
    cases k8 with
    | true=>
     have df:x.kind=8:=of_decide_eq_true dw.out
     obtain⟨⟨t0,t1,t2,t3,t4,t5⟩,t6,t7,t8,t9⟩:=dr W4 (Below.refl _ _)
     have dl:Hid (R=if vB=false then .error 9 else .ok ⟨x.number,[],[r.bytes],[]⟩):=by
      show _=_
      rw[ag.out]
      cases vB <;> simp[df]
     clear df ag
     go_wp2_with fail
     refine fo.mono ?_
     rintro e w6 ⟨rfl,bg⟩
     clear t0 t1 t2 t3 t4 t5 t6 t7 t8 t9
     cases vB with
     | true=>
      have ag:Hid (R = .ok ⟨x.number,[],[r.bytes],[]⟩):=by show _=_;rw[dl.out];rfl
      have gj:W4.heap.size≤w6.heap.size:=bg.size
      obtain⟨X7,aw⟩:∃ X7,Hid (X7=w6.alloc (.cells #[.slice ao nb cap] 32)):=⟨_,rfl⟩
      have dx:Below w6.heap.size w6 X7:=by rw[aw.out];exact(Below.refl _ _).alloc (Nat.le_refl _) _
      have di:X7.heap[w6.heap.size]?=some (.cells #[.slice ao nb cap] 32 (0,0)):=by rw[aw.out];exact heap_alloc_new _ _
      have bp:Below W4.heap.size W4 X7:=KBT bg dx
      obtain⟨bt,bu⟩:=au (w6.alloc (.cells #[.slice ao nb cap] 32)) (by rw[←aw.out];exact bp)
      obtain⟨s0,s1,s2,s3⟩:=A6v bu
      obtain⟨u0,u1,u2,u3⟩:=A6v bt
      have aj:=A0b bt
      have bc:=A0b bu
      have fq:¬ w.heap.size+3=w.heap.size+2:=by omega
      have ej:¬ w.heap.size+2=w.heap.size+3:=by omega
      obtain⟨⟨t0,t1,t2,t3,t4,t5⟩,t6,t7,t8,t9⟩:=dr w6 bg
      have dg:=dt.out.below YAt.stays (KBT hb4 bp)
      have fw:Hid (RdL 1 YAt X7 (.slice ao nb cap) r.bytes):=dg
      have dv:Hid (X7.heap[w6.heap.size]?=some (.cells #[.slice ao nb cap] 32 (0,0))):=di
      clear dg di bt bu
      go_wp2_with fail
      rw[←aw.out]
      refine bodyPost_ret (v:=.tuple #[.agg #[.int .i64 x.number,.slice none 0 0,.slice (some ⟨w6.heap.size,0,none⟩) 1 1,.slice none 0 0],.int .i64 0]) (by rw[aw.out];simp[results,Tryz.results47,go_sem, *]) rfl ?_
      have cj:∀ q:Value,Below w.heap.size w (((((X7.setCell ⟨w.heap.size+3,2,none⟩ q).setCell ⟨w.heap.size+2,0,none⟩ (.int .i64 x.number)).setCell ⟨w.heap.size+2,1,none⟩ (.slice none 0 0)).setCell ⟨w.heap.size+2,2,none⟩ q).setCell ⟨w.heap.size+2,3,none⟩ (.slice none 0 0)):=fun q=>KB_set (KB_set (KB_set (KB_set (KB_set (KBT hb4 bp) (by omega)) (by omega)) (by omega)) (by omega)) (by omega)
      refine⟨cj _,?_⟩
      rw[ag.out]
      have xF:∀ q:Value,(((((X7.setCell ⟨w.heap.size+3,2,none⟩ q).setCell ⟨w.heap.size+2,0,none⟩ (.int .i64 x.number)).setCell ⟨w.heap.size+2,1,none⟩ (.slice none 0 0)).setCell ⟨w.heap.size+2,2,none⟩ q).setCell ⟨w.heap.size+2,3,none⟩ (.slice none 0 0)).heap[w6.heap.size]?=some (.cells #[.slice ao nb cap] 32 (0,0)):=fun q=>by
       rw[Below.heap_setCell _ _ _ _ (show w6.heap.size≠w.heap.size+2 by omega),Below.heap_setCell _ _ _ _ (show w6.heap.size≠w.heap.size+2 by omega),Below.heap_setCell _ _ _ _ (show w6.heap.size≠w.heap.size+2 by omega),Below.heap_setCell _ _ _ _ (show w6.heap.size≠w.heap.size+2 by omega),Below.heap_setCell _ _ _ _ (show w6.heap.size≠w.heap.size+3 by omega)]
       exact dv.out
      refine⟨⟨x.number,[],[(r.bytes,(ao,nb,cap))],[],(none,0,0),(some ⟨w6.heap.size,0,none⟩,1,1),(none,0,0)⟩,rfl,rfl,⟨Row.nil _ _ _,C1g (E:=ekZ) (by omega) (xF _),fun z hz=>?_,Row.nil _ _ _,fun z hz=>(List.not_mem_nil hz).elim⟩,fun k hk=>?_,?_⟩
      ·rw[List.mem_singleton.1 hz]
       exact cg.out.below (cj _)
      ·have hk:k∈[]++[w6.heap.size]++[]++[]:=hk
       simp at hk
       omega
      ·show([]++[w6.heap.size]++[]++[]).Nodup
       simp
     | false=>
      have ag:Hid (R = .error 9):=by show _=_;rw[dl.out];rfl
      obtain⟨y2,y3⟩:=au w6 bg
      obtain⟨s0,s1,s2,s3⟩:=A6v y3
      obtain⟨u0,u1,u2,u3⟩:=A6v y2
      have aj:=A0b y2
      have ej:¬ w.heap.size+2=w.heap.size+3:=by omega
      go_wp2_with fail
      refine bodyPost_ret (v:=.tuple #[.agg #[.int .i64 x.number,.slice none 0 0,.slice none 0 0,.slice none 0 0],.int .i64 9]) (by simp[results,Tryz.results47,go_sem, *]) rfl ?_
      rw[ag.out]
      exact⟨KB_set (KB_set (KB_set (KB_set (KBT hb4 bg) (by omega)) (by omega)) (by omega)) (by omega),by decide,_,_,_,_,_,_,_,_,_,_,rfl⟩
    | false=>
     have df:¬ x.kind=8:=of_decide_eq_false dw.out
     have dl:Hid (R = .ok ⟨x.number,[],[r.bytes],[]⟩):=by
      show _=_
      rw[ag.out,if_neg (fun h=>df h.1)]
     clear ag
     have ag:=dl
     clear df
     have hbr:Below W4.heap.size W4 W4:=Below.refl _ _
     have gj:W4.heap.size≤W4.heap.size:=hbr.size
     obtain⟨X7,aw⟩:∃ X7,Hid (X7=W4.alloc (.cells #[.slice ao nb cap] 32)):=⟨_,rfl⟩
     have dx:Below W4.heap.size W4 X7:=by rw[aw.out];exact(Below.refl _ _).alloc (Nat.le_refl _) _
     have di:X7.heap[W4.heap.size]?=some (.cells #[.slice ao nb cap] 32 (0,0)):=by rw[aw.out];exact heap_alloc_new _ _
     have bp:Below W4.heap.size W4 X7:=KBT hbr dx
     obtain⟨bt,bu⟩:=au (W4.alloc (.cells #[.slice ao nb cap] 32)) (by rw[←aw.out];exact bp)
     obtain⟨s0,s1,s2,s3⟩:=A6v bu
     obtain⟨u0,u1,u2,u3⟩:=A6v bt
     have aj:=A0b bt
     have bc:=A0b bu
     have fq:¬ w.heap.size+3=w.heap.size+2:=by omega
     have ej:¬ w.heap.size+2=w.heap.size+3:=by omega
     obtain⟨⟨t0,t1,t2,t3,t4,t5⟩,t6,t7,t8,t9⟩:=dr W4 hbr
     have dg:=dt.out.below YAt.stays (KBT hb4 bp)
     have fw:Hid (RdL 1 YAt X7 (.slice ao nb cap) r.bytes):=dg
     have dv:Hid (X7.heap[W4.heap.size]?=some (.cells #[.slice ao nb cap] 32 (0,0))):=di
     clear dg di bt bu
     go_wp2_with fail
     rw[←aw.out]
     refine bodyPost_ret (v:=.tuple #[.agg #[.int .i64 x.number,.slice none 0 0,.slice (some ⟨W4.heap.size,0,none⟩) 1 1,.slice none 0 0],.int .i64 0]) (by rw[aw.out];simp[results,Tryz.results47,go_sem, *]) rfl ?_
     have cj:∀ q:Value,Below w.heap.size w (((((X7.setCell ⟨w.heap.size+3,2,none⟩ q).setCell ⟨w.heap.size+2,0,none⟩ (.int .i64 x.number)).setCell ⟨w.heap.size+2,1,none⟩ (.slice none 0 0)).setCell ⟨w.heap.size+2,2,none⟩ q).setCell ⟨w.heap.size+2,3,none⟩ (.slice none 0 0)):=fun q=>KB_set (KB_set (KB_set (KB_set (KB_set (KBT hb4 bp) (by omega)) (by omega)) (by omega)) (by omega)) (by omega)
     refine⟨cj _,?_⟩
     rw[ag.out]
     have xF:∀ q:Value,(((((X7.setCell ⟨w.heap.size+3,2,none⟩ q).setCell ⟨w.heap.size+2,0,none⟩ (.int .i64 x.number)).setCell ⟨w.heap.size+2,1,none⟩ (.slice none 0 0)).setCell ⟨w.heap.size+2,2,none⟩ q).setCell ⟨w.heap.size+2,3,none⟩ (.slice none 0 0)).heap[W4.heap.size]?=some (.cells #[.slice ao nb cap] 32 (0,0)):=fun q=>by
      rw[Below.heap_setCell _ _ _ _ (show W4.heap.size≠w.heap.size+2 by omega),Below.heap_setCell _ _ _ _ (show W4.heap.size≠w.heap.size+2 by omega),Below.heap_setCell _ _ _ _ (show W4.heap.size≠w.heap.size+2 by omega),Below.heap_setCell _ _ _ _ (show W4.heap.size≠w.heap.size+2 by omega),Below.heap_setCell _ _ _ _ (show W4.heap.size≠w.heap.size+3 by omega)]
      exact dv.out
     refine⟨⟨x.number,[],[(r.bytes,(ao,nb,cap))],[],(none,0,0),(some ⟨W4.heap.size,0,none⟩,1,1),(none,0,0)⟩,rfl,rfl,⟨Row.nil _ _ _,C1g (E:=ekZ) (by omega) (xF _),fun z hz=>?_,Row.nil _ _ _,fun z hz=>(List.not_mem_nil hz).elim⟩,fun k hk=>?_,?_⟩
     ·rw[List.mem_singleton.1 hz]
      exact cg.out.below (cj _)
     ·have hk:k∈[]++[W4.heap.size]++[]++[]:=hk
      simp at hk
      omega
     ·show([]++[W4.heap.size]++[]++[]).Nodup
      simp
  ·have eR:(r.how != 2)=true:=by simpa using hR
   have ag:Hid (R = .error 8):=by
    show _=_
    rw[←HR.out]
    unfold A3q
    rw[if_neg (by rw[bk.out];simp),if_pos hR]
   clear hH hR ah
   obtain⟨s0,s1,s2,s3⟩:=A6v y3
   obtain⟨u0,u1,u2,u3⟩:=A6v y2
   have aj:=A0b y2
   unfold fdV
   go_enter Tryz.func47,Tryz.ntmps47
   go_wp2_with fail
   rw[←bv.out]
   refine cw.mono ?_
   rintro e w5 ⟨rfl,rfl⟩
   go_wp2_with fail
   refine bodyPost_ret (v:=.tuple #[.agg #[.int .i64 x.number,.slice none 0 0,.slice none 0 0,.slice none 0 0],.int .i64 8]) (by simp[results,Tryz.results47,go_sem, *]) rfl ?_
   rw[ag.out]
   exact⟨KB_set (KB_set (KB_set (KB_set hb4 (by omega)) (by omega)) (by omega)) (by omega),by decide,_,_,_,_,_,_,_,_,_,_,rfl⟩
 ·have eH:(H != 2)=true:=by simpa using hH
  have bk:Hid (A3z x.kind≠2):=by show _≠_;rw[HH.out];exact hH
  obtain⟨U,HU⟩:∃ U,Hid (tnN x r=U):=⟨_,rfl⟩
  have ag:Hid (R=if U.2=0 then .ok ⟨x.number,U.1,[],[]⟩ else .error ((U.2:Nat):Int)):=by
   show _=_
   rw[←HR.out]
   unfold A3q
   rw[if_pos bk.out,HU.out]
  have eh:=B3m x bk.out r (h.below YAt.stays hb4) hl hb
  rw[HU.out] at eh
  unfold fdV at eh
  clear hH ah
  unfold fdV
  go_enter Tryz.func47,Tryz.ntmps47
  go_wp2_with fail
  rw[←bv.out]
  refine cw.mono ?_
  rintro e w5 ⟨rfl,rfl⟩
  go_wp2_with fail
  refine eh.mono ?_
  rintro e w6 ⟨a6,n6,c6,rfl,fj,bg⟩
  clear t0 t1 t2 t3 t4 t5 t6 t7 t8 t9 y2 y3
  obtain⟨y2,y3⟩:=au w6 bg
  have ii:=bg.size
  obtain⟨s0,s1,s2,s3⟩:=A6v y3
  obtain⟨u0,u1,u2,u3⟩:=A6v y2
  have aj:=A0b y2
  have bc:=A0b y3
  have fy:=KBT hb4 bg
  have fq:¬ w.heap.size+3=w.heap.size+2:=by omega
  have ej:¬ w.heap.size+2=w.heap.size+3:=by omega
  have fk:=((((fj.low (show w.heap.size+3<W4.heap.size by omega) 1 (.slice a6 n6 c6)).low (show w.heap.size+2<W4.heap.size by omega) 0 (.int .i64 x.number)).low (show w.heap.size+2<W4.heap.size by omega) 1 (.slice a6 n6 c6)).low (show w.heap.size+2<W4.heap.size by omega) 2 (.slice none 0 0)).low (show w.heap.size+2<W4.heap.size by omega) 3 (.slice none 0 0)
  clear fj
  go_wp2_with fail
  refine bodyPost_ret (v:=.tuple #[.agg #[.int .i64 x.number,.slice a6 n6 c6,.slice none 0 0,.slice none 0 0],.int .i64 ((U.2:Nat):Int)]) (by simp[results,Tryz.results47,go_sem, *]) rfl ?_
  refine⟨KB_set (KB_set (KB_set (KB_set (KB_set fy (by omega)) (by omega)) (by omega)) (by omega)) (by omega),?_⟩
  rw[ag.out]
  by_cases hU:U.2=0
  ·rw[if_pos hU]
   refine⟨⟨x.number,U.1,[],[],(a6,n6,c6),(none,0,0),(none,0,0)⟩,by rw[hU];rfl,rfl,⟨fk.mono (by omega),Row.nil _ _ _,fun z hz=>(List.not_mem_nil hz).elim,Row.nil _ _ _,fun z hz=>(List.not_mem_nil hz).elim⟩,fun k hk=>?_,?_⟩
   ·have hk:k∈own1 (a6,n6,c6)++[]++[]++[]:=hk
    simp only[List.append_nil] at hk
    have:=(Row.own1 (p:=(a6,n6,c6)) fk k hk).1
    omega
   ·show(own1 (a6,n6,c6)++[]++[]++[]).Nodup
    simp only[List.append_nil]
    exact B6n _
  ·rw[if_neg hU]
   exact⟨by omega,_,_,_,_,_,_,_,_,_,_,rfl⟩
end L
end Go.Proofs.YtgaoojpakjjdnaaGreatDoor
