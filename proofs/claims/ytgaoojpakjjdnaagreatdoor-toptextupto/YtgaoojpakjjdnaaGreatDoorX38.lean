import Derived.Test.YtgaoojpakjjdnaaGreatDoorX35
import Derived.Shelf.Sort.Plain
import Derived.Shelf.Slices.In.SortNone
import Derived.Sort.OwnSortedInts
import Derived.Laws.BytesArg
set_option maxHeartbeats 32000000
set_option maxRecDepth 100000
namespace Go.Proofs.YtgaoojpakjjdnaaGreatDoor
namespace L
open Go.RowKit
theorem C7c {w:World}{vm ve:Value}{g:GI}(hg:GRd w vm ve g)(x:FI):Calls Tryz.prog 62 #[.agg #[vm,ve],fv x] w fun e w'=>e = .returned (tv (A2w g x))∧Below w.heap.size w w':=by
 obtain⟨a1,n1,c1,rfl,H1,_⟩:=hg.1.shape
 obtain⟨a2,n2,c2,rfl,H2,_⟩:=hg.2.shape
 obtain⟨W0,aj⟩:∃ W0,Hid (W0=((w.alloc (.cells #[.slice a1 n1 c1,.slice a2 n2 c2] 25)).alloc (.cells #[.string (S x.name),.int .i64 x.number,.int .i64 x.kind,.string (S x.type),.bool x.many,.int .i64 x.choice] 40)).alloc (.cells #[.int .i64 0,.int .i64 0,.int .i64 0,.int .i64 0,.int .i64 0] 122)):=⟨_,rfl⟩
 have hb0:Below w.heap.size w W0:=by rw[aj.out];exact(((Below.refl _ _).alloc (Nat.le_refl _) _).alloc (by simp) _).alloc (by simp;omega) _
 have hz0:w.heap.size+3≤W0.heap.size:=by rw[aj.out];simp
 obtain⟨x3,x2,x1⟩:=B7u w (.cells #[.slice a1 n1 c1,.slice a2 n2 c2] 25) (.cells #[.string (S x.name),.int .i64 x.number,.int .i64 x.kind,.string (S x.type),.bool x.many,.int .i64 x.choice] 40) (.cells #[.int .i64 0,.int .i64 0,.int .i64 0,.int .i64 0,.int .i64 0] 122)
 rw[←aj.out] at x1 x2 x3
 have ak:∀ V,Below W0.heap.size W0 V→V.heap[w.heap.size]?=some (.cells #[.slice a1 n1 c1,.slice a2 n2 c2] 25 (0,0))∧V.heap[w.heap.size+1]?=some (.cells #[.string (S x.name),.int .i64 x.number,.int .i64 x.kind,.string (S x.type),.bool x.many,.int .i64 x.choice] 40 (0,0))∧V.heap[w.heap.size+2]?=some (.cells #[.int .i64 0,.int .i64 0,.int .i64 0,.int .i64 0,.int .i64 0] 122 (0,0)):=fun V hV=>⟨(hV.block _ (by omega)).trans x1,(hV.block _ (by omega)).trans x2,(hV.block _ (by omega)).trans x3⟩
 have au:=C5w x
 have bk:=C1a x.kind
 unfold fv at au ⊢
 have hd:Below W0.heap.size W0 W0.drew:=(Below.refl _ _).drew
 obtain⟨K,HK⟩:∃ K,Hid (K=A3d x):=⟨_,rfl⟩
 obtain⟨Hw,a8⟩:∃ Hw,Hid (Hw=A2e x.kind):=⟨_,rfl⟩
 rw[←HK.out] at au
 rw[←a8.out] at bk
 have ah:∀ V,Below W0.heap.size W0 V→Below W0.heap.size W0 V∧V.cell? ⟨w.heap.size+1,0,none⟩=some (.string (S x.name))∧V.cell? ⟨w.heap.size+1,1,none⟩=some (.int .i64 x.number)∧V.cell? ⟨w.heap.size+1,2,none⟩=some (.int .i64 x.kind)∧V.cell? ⟨w.heap.size+1,3,none⟩=some (.string (S x.type))∧V.cell? ⟨w.heap.size+1,4,none⟩=some (.bool x.many)∧V.cell? ⟨w.heap.size+1,5,none⟩=some (.int .i64 x.choice):=fun V hV=>⟨hV,B1g (ak V hV).2.1⟩
 have bq:∀ V,Below (W0.alloc (.cells #[.int .i64 0,.int .i64 0,.int .i64 0,.int .i64 0,.int .i64 0] 122)).drew.heap.size (W0.alloc (.cells #[.int .i64 0,.int .i64 0,.int .i64 0,.int .i64 0,.int .i64 0] 122)).drew V→V.heap[W0.heap.size]?=some (.cells #[.int .i64 0,.int .i64 0,.int .i64 0,.int .i64 0,.int .i64 0] 122 (0,0)):=fun V hV=>(hV.block W0.heap.size (by show _<(W0.alloc _).heap.size;simp)).trans (heap_alloc_new W0 _)
 have bt:Below W0.heap.size W0 (W0.alloc (.cells #[.int .i64 0,.int .i64 0,.int .i64 0,.int .i64 0,.int .i64 0] 122)).drew:=(A2l (Below.refl _ _) (Nat.le_refl _) _).drew
 go_enter Tryz.func62,Tryz.ntmps62
 go_wp2_with fail
 rw[←aj.out]
 go_cut [5] from 16 to 25 (fun s5 wc=>∃ (C:Nat),s5 = .pointer (some ⟨C,0,none⟩)∧W0.heap.size≤C∧wc.heap[C]?=some (.cells #[.int .i64 K,.int .i64 x.number,.int .i64 Hw,.int .i64 x.kind,.int .i64 (-1)] 122 (0,0))∧Below W0.heap.size W0 wc)
 case first=>
  go_region_held3 (fun V=>Below W0.heap.size W0 V∧V.cell? ⟨w.heap.size+1,0,none⟩=some (.string (S x.name))∧V.cell? ⟨w.heap.size+1,1,none⟩=some (.int .i64 x.number)∧V.cell? ⟨w.heap.size+1,2,none⟩=some (.int .i64 x.kind)∧V.cell? ⟨w.heap.size+1,3,none⟩=some (.string (S x.type))∧V.cell? ⟨w.heap.size+1,4,none⟩=some (.bool x.many)∧V.cell? ⟨w.heap.size+1,5,none⟩=some (.int .i64 x.choice)) ((with_reducible refine ah _ ?_;with_reducible (first|exact hd|exact bt|exact ac|exact A2l ac (Nat.le_refl _) _|exact A2l hd (Nat.le_refl _) _|exact B5m ac (Nat.le_refl _)))) ((first|(go_at_call 139;go_split_ands;refine(au _).mono ?_;rintro e wn ⟨rfl,br⟩;have ac:=KBT (by with_reducible assumption) br;try(have ag:=bq _ br;obtain⟨q0,q1,q2,q3,q4⟩:=C4r ag;have r0:=A0b ag 0;have r1:=A0b ag 1;have r2:=A0b ag 2;have r3:=A0b ag 3;have r4:=A0b ag 4))|(go_at_call 83;refine(bk _).mono ?_;rintro e wm ⟨rfl,rfl⟩)))
  all_goals
   go_wp2_with fail
   go_meet
  case rel=>exact⟨wn.heap.size,rfl,ac.size,heap_alloc_new _ _,A2l ac (Nat.le_refl _) _⟩
  case rel=>exact⟨wn.heap.size,rfl,ac.size,heap_alloc_new _ _,A2l ac (Nat.le_refl _) _⟩
  case rel=>exact⟨W0.heap.size,rfl,Nat.le_refl _,D9k ag,B5m ac (Nat.le_refl _)⟩
 case rest=>
  obtain⟨C,rfl,hC,hc,hb1⟩:=hcut
  obtain⟨t0,t1,t2,t3,t4⟩:=C4r hc
  obtain⟨y1,y2,y3⟩:=ak wc hb1
  obtain⟨u0,u1⟩:=A0r y1
  obtain⟨v0,v1,v2,v3,v4,v5⟩:=B1g y2
  have bg:Below w.heap.size w wc:=KBT hb0 hb1
  have hz1:W0.heap.size≤wc.heap.size:=hb1.size
  clear au bk ah bq bt hd
  have aw:K=4↔x.kind=10:=by rw[HK.out];exact E1x x
  have hz2:w.heap.size+3≤wc.heap.size:=Nat.le_trans hz0 hz1
  have cg:w.heap.size+3≤C:=Nat.le_trans hz0 hC
  have bv:=A0b hc
  have bh:=A0b (g:=w.heap.size+1+1) y3
  obtain⟨p0,p1,p2,p3,p4⟩:=C4r (g:=w.heap.size+1+1) y3
  by_cases h4:K=4
  ·have hk4:(K==4)=true:=by simp[h4]
   have HN:Hid (tv (A2w g x) = .agg #[.int .i64 K,.int .i64 x.number,.int .i64 Hw,.int .i64 x.kind,.int .i64 (A0g (fun m=>decide (m.name=x.type)) g.msgs)]):=by
    show _=_;unfold tv A2w D9v;rw[if_pos (aw.1 h4),←HK.out,←a8.out]
   have bp:=A2u (hg.below bg).1 ⟨a2,n2,c2,rfl⟩ x.type
   generalize A0g (fun m=>decide (m.name=x.type)) g.msgs=N at bp HN
   clear h4 aw y1 y2 ak
   go_wp2_with fail
   refine bp.mono ?_
   rintro e w2 ⟨rfl,hb2⟩
   have hc2:=(hb2.block C (by have:=(Array.getElem?_eq_some_iff.1 hc).1;exact this)).trans hc
   have bu:w2.heap[w.heap.size+1+1]?=_:=(hb2.block (w.heap.size+2) (by omega)).trans y3
   obtain⟨q0,q1,q2,q3,q4⟩:=C4r hc2
   obtain⟨r0,r1,r2,r3,r4⟩:=C4r bu
   have f0:=A0b hc2
   have f2:=A0b bu
   have hne:¬ C=w.heap.size+1+1:=by omega
   have bw:¬ w.heap.size+1+1=C:=by omega
   clear t0 t1 t2 t3 t4 u0 u1 v0 v1 v2 v3 v4 v5 p0 p1 p2 p3 p4 bv bh bp
   go_wp2_with fail
   refine bodyPost_ret (v:=.agg #[.int .i64 K,.int .i64 x.number,.int .i64 Hw,.int .i64 x.kind,.int .i64 N]) (by simp[results,Tryz.results62,go_sem, *]) rfl ?_
   exact⟨by rw[HN.out],B5m ((KBT bg hb2).setCell (p:=⟨C,4,none⟩) (by show w.heap.size≤C;omega) _) (by omega)⟩
  ·have hk4:(K==4)=false:=by simp[h4]
   have HN:Hid (tv (A2w g x) = .agg #[.int .i64 K,.int .i64 x.number,.int .i64 Hw,.int .i64 x.kind,.int .i64 (-1)]):=by
    show _=_;unfold tv A2w;rw[if_neg (fun h=>h4 (aw.2 h)),←HK.out,←a8.out]
   clear h4 aw y1 y2 ak
   go_wp2_with fail
   refine bodyPost_ret (v:=.agg #[.int .i64 K,.int .i64 x.number,.int .i64 Hw,.int .i64 x.kind,.int .i64 (-1)]) (by simp[results,Tryz.results62,go_sem, *]) rfl ?_
   exact⟨by rw[HN.out],B5m bg (by omega)⟩
end L
end Go.Proofs.YtgaoojpakjjdnaaGreatDoor
namespace Go.Proofs
open Go.Shelf
def Tryz.lays189_ren:Go.Shelf.Ren:=⟨fun|189=>138|125=>198|257=>197|128=>242|129=>243|294=>233|295=>234|296=>235|297=>236|298=>237|299=>238|216=>239|300=>240|301=>241|328=>251|329=>252|330=>253|331=>254|332=>255|215=>256|343=>262|n=>n,fun|28=>30|3=>3|46=>214|0=>0|51=>279|53=>63|4=>4|183=>272|182=>271|131=>254|5=>5|9=>9|218=>287|222=>291|228=>298|229=>299|n=>n,fun|n=>n⟩
theorem Tryz.lays189:Go.Proofs.Lays.n189 Tryz.prog Tryz.lays189_ren:={
 mixed:=by kernel_rfl
 f125:=Tryz.func198.trans (congrArg some (by kernel_rfl))
 f128:=Tryz.func242.trans (congrArg some (by kernel_rfl))
 f129:=Tryz.func243.trans (congrArg some (by kernel_rfl))
 f189:=Tryz.func138.trans (congrArg some (by kernel_rfl))
 f215:=Tryz.func256.trans (congrArg some (by kernel_rfl))
 f216:=Tryz.func239.trans (congrArg some (by kernel_rfl))
 f257:=Tryz.func197.trans (congrArg some (by kernel_rfl))
 f294:=Tryz.func233.trans (congrArg some (by kernel_rfl))
 f295:=Tryz.func234.trans (congrArg some (by kernel_rfl))
 f296:=Tryz.func235.trans (congrArg some (by kernel_rfl))
 f297:=Tryz.func236.trans (congrArg some (by kernel_rfl))
 f298:=Tryz.func237.trans (congrArg some (by kernel_rfl))
 f299:=Tryz.func238.trans (congrArg some (by kernel_rfl))
 f300:=Tryz.func240.trans (congrArg some (by kernel_rfl))
 f301:=Tryz.func241.trans (congrArg some (by kernel_rfl))
 f328:=Tryz.func251.trans (congrArg some (by kernel_rfl))
 f329:=Tryz.func252.trans (congrArg some (by kernel_rfl))
 f330:=Tryz.func253.trans (congrArg some (by kernel_rfl))
 f331:=Tryz.func254.trans (congrArg some (by kernel_rfl))
 f332:=Tryz.func255.trans (congrArg some (by kernel_rfl))
 f343:=Tryz.func262.trans (congrArg some (by kernel_rfl))
 t0:=Tryz.underlying0
 a0:=Tryz.isAgg0
 z0:=Tryz.sizeOf0
 v0:=Tryz.zeroValue0
 t3:=Tryz.underlying3
 a3:=Tryz.isAgg3
 z3:=Tryz.sizeOf3
 v3:=Tryz.zeroValue3
 t4:=Tryz.underlying4
 a4:=Tryz.isAgg4
 z4:=Tryz.sizeOf4
 v4:=Tryz.zeroValue4
 t5:=Tryz.underlying5
 a5:=Tryz.isAgg5
 z5:=Tryz.sizeOf5
 v5:=Tryz.zeroValue5
 t9:=Tryz.underlying9
 a9:=Tryz.isAgg9
 z9:=Tryz.sizeOf9
 v9:=Tryz.zeroValue9
 t28:=Tryz.underlying30
 a28:=Tryz.isAgg30
 z28:=Tryz.sizeOf30
 v28:=Tryz.zeroValue30
 t46:=Tryz.underlying214
 a46:=Tryz.isAgg214
 z46:=Tryz.sizeOf214
 v46:=Tryz.zeroValue214
 t51:=Tryz.underlying279
 a51:=Tryz.isAgg279
 z51:=Tryz.sizeOf279
 v51:=Tryz.zeroValue279
 t53:=Tryz.underlying63
 a53:=Tryz.isAgg63
 z53:=Tryz.sizeOf63
 v53:=Tryz.zeroValue63
 t131:=Tryz.underlying254
 a131:=Tryz.isAgg254
 z131:=Tryz.sizeOf254
 v131:=Tryz.zeroValue254
 t182:=Tryz.underlying271
 a182:=Tryz.isAgg271
 z182:=Tryz.sizeOf271
 v182:=Tryz.zeroValue271
 t183:=Tryz.underlying272
 a183:=Tryz.isAgg272
 z183:=Tryz.sizeOf272
 v183:=Tryz.zeroValue272
 t218:=Tryz.underlying287
 a218:=Tryz.isAgg287
 z218:=Tryz.sizeOf287
 v218:=Tryz.zeroValue287
 t222:=Tryz.underlying291
 a222:=Tryz.isAgg291
 z222:=Tryz.sizeOf291
 v222:=Tryz.zeroValue291
 t228:=Tryz.underlying298
 a228:=Tryz.isAgg298
 z228:=Tryz.sizeOf298
 v228:=Tryz.zeroValue298
 t229:=Tryz.underlying299
 a229:=Tryz.isAgg299
 z229:=Tryz.sizeOf299
 v229:=Tryz.zeroValue299 }
open Go.Sort Go.RowKit in
theorem Tryz.slices_Sort_int (blk off cap:Nat)(zs:List Int)(w:World)(hH:Holds (Value.int .i64) w blk off zs.toArray)(hblk:blk<w.heap.size)(hsz:zs.length<4611686018427387904) :
  Calls Tryz.prog 138 #[.slice (some ⟨blk,off,none⟩) zs.length cap] w fun e w'=>
   e = .returned (.tuple #[])∧∃ n os,w'=grow (putRow (Value.int .i64) (Sort.ahead w n) blk off (zs.mergeSort fun x y=>decide (x≤y)).toArray) os:=Any.slices_Sort_int Tryz.lays189 blk off cap zs w hH hblk hsz
open Go.RowKit Go.Sort in
theorem Tryz.slices_Sort_int_none (p:Option Addr)(cap:Nat)(w:World) :
  Calls Tryz.prog 138 #[.slice p 0 cap] w fun e w'=>e = .returned (.tuple #[])∧w'=w:=Any.slices_Sort_int_none Tryz.lays189 p cap w
end Go.Proofs
namespace Go.Proofs.YtgaoojpakjjdnaaGreatDoor
namespace L
open Go.RowKit Go.Sort
theorem D8k:∀ l:List Int,ekN.flat l=l.map (Value.int .i64)
 | []=>rfl
 | a::l=>by
  have:=D8k l
  unfold EK.flat at this ⊢
  rw[List.flatMap_cons,this]
  rfl
theorem D5y {w:World}{base:Nat}{ao:Option Addr}{n cap:Nat}{l:List Int}(h:Row ekN w base (.slice ao n cap) l)(hl:l.length≤1000000000000)(hB:base≤w.heap.size) :
  Calls Tryz.prog 138 #[.slice ao n cap] w fun e w'=>e = .returned (.tuple #[])∧Row ekN w' base (.slice ao n cap) (l.mergeSort fun x y=>decide (x≤y))∧Below base w w':=by
 have hlen:=h.len
 subst hlen
 rcases h.2 with⟨hv,hn⟩|⟨g,cap',cur,hv,hbg,hg,hn,hm,hsz,ht⟩
 ·have:l = []:=List.eq_nil_of_length_eq_zero hn
  subst this
  refine(Tryz.slices_Sort_int_none ao cap w).mono ?_
  rintro e w' ⟨rfl,rfl⟩
  exact⟨rfl,by simpa using h,Below.refl _ _⟩
 ·cases hv
  have ag:cur.toList.take l.length=l.map (Value.int .i64):=by rw[←D8k,←ht];simp[ekN]
  have ac:g<w.heap.size:=(Array.getElem?_eq_some_iff.1 hg).1
  refine(Tryz.slices_Sort_int g 0 cap l w (holds_of_blockI hg ag) ac (by omega)).mono ?_
  rintro e w' ⟨rfl,q,os,rfl⟩
  refine⟨rfl,?_,(Below.refl base w).grown (grownBy_sortedI _) hB (fun k hk=>by cases hk;exact hbg)⟩
  have:=ownsRow_sortedI (n:=q) (os:=os) (ss:=l) (ts:=l.mergeSort fun x y=>decide (x≤y)) (by simp) hbg hg hn hm hsz
  show World.ownsRow _ base 3 1 _ _ _
  rw[D8k,List.length_mergeSort]
  exact this
theorem C1o {w:World}{nm:List UInt8}{vf vb:Value}{m:MI}(h:RdL 6 FAt w vf m.fields)(au:∃ ao n cap,vb = .slice ao n cap)(hl:m.fields.length≤1000000000000) :
  Calls Tryz.prog 61 #[.agg #[.string (S nm),vf,vb]] w fun e w'=>∃ ao n cap,e = .returned (.slice ao n cap)∧Row ekN w' w.heap.size (.slice ao n cap) (A8l m)∧Below w.heap.size w w':=by
 obtain⟨a1,n1,c1,rfl,H1,_⟩:=h.shape
 obtain⟨a2,n2,c2,rfl⟩:=au
 have bg:n1≤1000000000000:=by rw[H1.out];exact hl
 obtain⟨W0,ac⟩:∃ W0,Hid (W0=w.alloc (.cells #[.string (S nm),.slice a1 n1 c1,.slice a2 n2 c2] 38)):=⟨_,rfl⟩
 have hb0:Below w.heap.size w W0:=by rw[ac.out];exact(Below.refl _ _).alloc (Nat.le_refl _) _
 have hz0:w.heap.size+1≤W0.heap.size:=by rw[ac.out];simp
 go_enter Tryz.func61,Tryz.ntmps61
 go_wp2_with fail
 rw[←ac.out]
 go_loopg [3,9] n1 (fun m' v i wr=>∃ (k:Nat) (ao:Option Addr) (no co:Nat),k+m'=n1∧i = .int .i64 k∧v = .slice ao no co∧Row ekN wr W0.heap.size (.slice ao no co) ((m.fields.take k).map FI.number)∧Below W0.heap.size W0 wr)
 case atStart=>exact⟨0,none,0,0,by omega,rfl,rfl,by rw[List.take_zero];exact Row.nil _ _ _,Below.refl _ _⟩
 case round=>
  obtain⟨k,ao,no,co,hk,rfl,rfl,hr,hb⟩:=hrel
  have ak:Below w.heap.size w wr:=KBT hb0 hb
  have aw:=hb.size
  by_cases hlt:k<n1
  ·obtain⟨x,Hx⟩:∃ x,Hid (m.fields[k]?=some x):=⟨m.fields[k]'(by rw[←H1.out];exact hlt),List.getElem?_eq_getElem (by rw[←H1.out];exact hlt)⟩
   obtain⟨b,off,rfl,hat⟩:=(h.below FAt.stays ak).get FAt.plain Hx.out
   obtain⟨s0,s1,s2,s3,s4,s5⟩:=hat.at
   have a8:(k:Int)<(n1:Int):=by omega
   have hlk:((m.fields.take k).map FI.number).length≤n1:=by rw[List.length_map,List.length_take];omega
   clear hat
   go_wp2_with (at_builtin;refine A1o (by rfl) ekN _ _ (by rfl) W0.heap.size (.slice ao no co) ((m.fields.take k).map FI.number) [x.number] (by rfl) ?a1 (some ⟨wr.heap.size+1,0,none⟩) 1 1 (by rfl) (by rfl) ?a2 ?a3 (by decide) ?a4 ?a5 ?_)
   case a1=>exact hr.below (((Below.refl _ _).alloc (Nat.le_refl _) _).alloc (by simp) _)
   case a2=>intro e;cases e
   case a3=>
    have:=A9p ekN (wr.alloc (.cells #[.string (S x.name),.int .i64 x.number,.int .i64 x.kind,.string (S x.type),.bool x.many,.int .i64 x.choice] 40)) x.number
    rw[show(wr.alloc (.cells #[.string (S x.name),.int .i64 x.number,.int .i64 x.kind,.string (S x.type),.bool x.many,.int .i64 x.choice] 40)).heap.size=wr.heap.size+1 by simp] at this
    exact this
   case a4=>simp[ekN];omega
   case a5=>simp;omega
   intro v' w1 hr1 hg1
   obtain⟨a',n',c',rfl,_⟩:=hr1.shape'
   have ah:Below W0.heap.size W0 w1:=C9l (A2l (A2l hb (Nat.le_refl _) _) (Nat.le_refl _) _) (Nat.le_refl _) hg1 (fun k hk=>(hr.own k hk).1)
   have ag:Row ekN w1 W0.heap.size (.slice a' n' c') ((m.fields.take (k+1)).map FI.number):=by
    rw[A0y Hx.out,List.map_append,List.map_take];exact hr1
   clear hr1
   go_wp2_with fail
   go_roundg (n1-(k+1))
   case measure=>omega
   case rel=>exact⟨k+1,a',n',c',by omega,by go_num,rfl,ag,ah⟩
  ·have hr1:Row ekN wr W0.heap.size (.slice ao no co) (m.fields.map FI.number):=by
    rw[List.take_of_length_le (by rw[←H1.out];omega)] at hr;exact hr
   have hs:=D5y hr1 (by rw[List.length_map];exact hl) aw
   clear hr hr1
   go_wp2_with fail
   refine hs.mono ?_
   rintro e w1 ⟨rfl,hr1,hb1⟩
   have aj:Below w.heap.size w w1:=hb0.trans ((hb.trans hb1).mono (by omega))
   go_wp2
   go_ret
   exact⟨ao,no,co,rfl,hr1.mono (by omega),aj⟩
open Go.RowKit
theorem B6v {w:World}{vm ve vf vb:Value}{g:GI}{m:MI}(hg:GRd w vm ve g)(h:RdL 6 FAt w vf m.fields)(dh:∃ ao n cap,vb = .slice ao n cap)(hl:m.fields.length≤1000000000000) :
  Calls Tryz.prog 26 #[.agg #[vm,ve],.agg #[.string (S m.name),vf,vb]] w fun e w'=>∃ ao n cap,e = .returned (.slice ao n cap)∧Row ekP w' w.heap.size (.slice ao n cap) (A4d g m)∧Below w.heap.size w w':=by
 obtain⟨a1,n1,c1,rfl,H1,_⟩:=hg.1.shape
 obtain⟨a2,n2,c2,rfl,H2,_⟩:=hg.2.shape
 obtain⟨a3,n3,c3,rfl,H3,_⟩:=h.shape
 obtain⟨a4,n4,c4,rfl⟩:=dh
 obtain⟨W0,ag⟩:∃ W0,Hid (W0=(w.alloc (.cells #[.slice a1 n1 c1,.slice a2 n2 c2] 25)).alloc (.cells #[.string (S m.name),.slice a3 n3 c3,.slice a4 n4 c4] 38)):=⟨_,rfl⟩
 have hb0:Below w.heap.size w W0:=by rw[ag.out];exact((Below.refl _ _).alloc (Nat.le_refl _) _).alloc (by simp) _
 have hz0:w.heap.size+2≤W0.heap.size:=by rw[ag.out];simp
 have x1:W0.heap[w.heap.size]?=some (.cells #[.slice a1 n1 c1,.slice a2 n2 c2] 25 (0,0)):=by rw[ag.out];exact A0l _ _ _
 have x2:W0.heap[w.heap.size+1]?=some (.cells #[.string (S m.name),.slice a3 n3 c3,.slice a4 n4 c4] 38 (0,0)):=by rw[ag.out];exact A0i _ _ _
 have aj:=C1o (nm:=m.name) (h.below FAt.stays hb0) ⟨a4,n4,c4,rfl⟩ hl
 go_enter Tryz.func26,Tryz.ntmps26
 go_wp2_with fail
 rw[←ag.out]
 refine aj.mono ?_
 rintro e W2 ⟨av,nv,cv,rfl,bv,hb2⟩
 have ac:Below w.heap.size w W2:=KBT hb0 hb2
 have hz2:=hb2.size
 have bg:=bv.len
 have a8:Hid (nv=(A8l m).length):=bg
 have cu:nv≤1000000000000:=by rw[bg];unfold A8l;rw[List.length_mergeSort,List.length_map];exact hl
 have y1:=(hb2.block _ (by omega)).trans x1
 have y2:=(hb2.block _ (by omega)).trans x2
 have ah:∀ V x,Below W2.heap.size W2 V→Calls Tryz.prog 37 #[.agg #[.string (S m.name),.slice a3 n3 c3,.slice a4 n4 c4],.int .i64 x] V fun e w'=>e = .returned (.int .i64 (A0g (fun f=>decide (f.number=x)) m.fields))∧Below V.heap.size V w':=fun V x hV=>A3g (h.below FAt.stays (KBT ac hV)) ⟨a4,n4,c4,rfl⟩ ⟨m.name,rfl⟩ x
 have ak:∀ V x,Below W2.heap.size W2 V→Calls Tryz.prog 62 #[.agg #[.slice a1 n1 c1,.slice a2 n2 c2],fv x] V fun e w'=>e = .returned (tv (A2w g x))∧Below V.heap.size V w':=fun V x hV=>C7c (hg.below (KBT ac hV)) x
 clear aj bg
 go_wp2_with fail
 go_loopg [5,11] nv (fun m' v i wr=>∃ (k:Nat) (ao:Option Addr) (no co:Nat),k+m'=nv∧i = .int .i64 k∧v = .slice ao no co∧Row ekP wr W2.heap.size (.slice ao no co) ((A4d g m).take k)∧Below W2.heap.size W2 wr)
 case atStart=>exact⟨0,none,0,0,by omega,rfl,rfl,by rw[List.take_zero];exact Row.nil _ _ _,Below.refl _ _⟩
 case round=>
  obtain⟨k,ao,no,co,hk,rfl,rfl,hr,hb⟩:=hrel
  have dn:=hb.size
  by_cases hlt:k<nv
  ·obtain⟨x,Hx⟩:∃ x,Hid ((A8l m)[k]?=some x):=⟨(A8l m)[k]'(by rw[←a8.out];exact hlt),List.getElem?_eq_getElem (by rw[←a8.out];exact hlt)⟩
   obtain⟨gv,rfl,hcv⟩:=(bv.below hb).get Hx.out
   have s0:wr.cell? ⟨gv,k,none⟩=some (.int .i64 x):=by simpa [ekN] using hcv 0 _ rfl
   obtain⟨j,hj,aw,_,_⟩:=B1r (B1w (List.mem_of_getElem? Hx.out))
   obtain⟨f,Hf⟩:∃ f,Hid (f=A0h m.fields x):=⟨_,rfl⟩
   rw[←Hf.out] at aw
   have dl:j<n3:=by rw[H3.out];exact(List.getElem?_eq_some_iff.1 aw).1
   obtain⟨b,off,rfl,hat⟩:=(h.below FAt.stays ac).get FAt.plain aw
   have cw:(A4d g m)[k]?=some (A2w g f):=by unfold A4d;rw[List.getElem?_map,Hx.out,Hf.out];rfl
   obtain⟨st,br⟩:∃ st,Hid (st=A2w g f):=⟨_,rfl⟩
   have bu:∀ V,Below W2.heap.size W2 V→Below W2.heap.size W2 V∧(V.cell? ⟨w.heap.size,0,none⟩=some (.slice a1 n1 c1)∧V.cell? ⟨w.heap.size,1,none⟩=some (.slice a2 n2 c2))∧(V.cell? ⟨w.heap.size+1,0,none⟩=some (.string (S m.name))∧V.cell? ⟨w.heap.size+1,1,none⟩=some (.slice (some ⟨b,off,none⟩) n3 c3)∧V.cell? ⟨w.heap.size+1,2,none⟩=some (.slice a4 n4 c4))∧V.cell? ⟨b,off+j*6,none⟩=some (.string (S f.name))∧V.cell? ⟨b,off+j*6+1,none⟩=some (.int .i64 f.number)∧V.cell? ⟨b,off+j*6+2,none⟩=some (.int .i64 f.kind)∧V.cell? ⟨b,off+j*6+3,none⟩=some (.string (S f.type))∧V.cell? ⟨b,off+j*6+4,none⟩=some (.bool f.many)∧V.cell? ⟨b,off+j*6+5,none⟩=some (.int .i64 f.choice):=
    fun V hV=>⟨hV,A0r ((hV.block _ (by omega)).trans y1),A5w ((hV.block _ (by omega)).trans y2),(FAt.stays _ _ _ _ hV hat).at⟩
   have cg:∀ V,Below W2.heap.size W2 V→Calls Tryz.prog 37 #[.agg #[.string (S m.name),.slice (some ⟨b,off,none⟩) n3 c3,.slice a4 n4 c4],.int .i64 x] V fun e w'=>e = .returned (.int .i64 (j:Int))∧Below V.heap.size V w':=fun V hV=>by have:=ah V x hV;rw[hj] at this;exact this
   have dg:∀ V,Below W2.heap.size W2 V→Calls Tryz.prog 62 #[.agg #[.slice a1 n1 c1,.slice a2 n2 c2],.agg #[.string (S f.name),.int .i64 f.number,.int .i64 f.kind,.string (S f.type),.bool f.many,.int .i64 f.choice]] V fun e w'=>e = .returned (.agg #[.int .i64 st.kind,.int .i64 st.number,.int .i64 st.how,.int .i64 st.field,.int .i64 st.next])∧Below V.heap.size V w':=fun V hV=>by have:=ak V f hV;rw[←br.out] at this;exact this
   have dm:(k:Int)<(nv:Int):=by omega
   have di:(j:Int)<(n3:Int):=by omega
   have hbytes:(((A4d g m).take k).length + [st].length)*ekP.bytes≤140737488355328:=by
    rw[List.length_take];simp[ekP];omega
   have df:Row ekP wr.drew W2.heap.size (.slice ao no co) ((A4d g m).take k):=hr.keep fun _ _ _=>rfl
   have hd:Below W2.heap.size W2 wr.drew:=hb.drew
   have bq:∀ V:World,∀ ad,some (⟨V.heap.size,0,none⟩:Addr)=some ad→∀ k z,[st][k]?=some z→∀ j u,(ekP.enc z)[j]?=some u→(V.alloc (.cells #[.int .i64 st.kind,.int .i64 st.number,.int .i64 st.how,.int .i64 st.field,.int .i64 st.next] 122)).cell? (ad.add (k*ekP.size+j))=some u:=fun V=>A9p ekP V st
   have bw:∀ V:World,Row ekP V W2.heap.size (.slice ao no co) ((A4d g m).take k)→Row ekP (V.alloc (.cells #[.int .i64 st.kind,.int .i64 st.number,.int .i64 st.how,.int .i64 st.field,.int .i64 st.next] 122)) W2.heap.size (.slice ao no co) ((A4d g m).take k):=fun V hV=>hV.below ((Below.refl _ _).alloc (Nat.le_refl _) _)
   have hown:∀ k,(Value.slice ao no co).ownBlock=some k→W2.heap.size≤k:=fun k hk=>(hr.own k hk).1
   obtain⟨hb',⟨t0,t1⟩,⟨t2,t3,t4⟩,t5⟩:=bu wr hb
   clear hat ah ak hcv y1 y2 x1 x2 hj aw hb'
   go_wp2_with fail
   go_region_held3 (fun V=>Below W2.heap.size W2 V∧(V.cell? ⟨w.heap.size,0,none⟩=some (.slice a1 n1 c1)∧V.cell? ⟨w.heap.size,1,none⟩=some (.slice a2 n2 c2))∧(V.cell? ⟨w.heap.size+1,0,none⟩=some (.string (S m.name))∧V.cell? ⟨w.heap.size+1,1,none⟩=some (.slice (some ⟨b,off,none⟩) n3 c3)∧V.cell? ⟨w.heap.size+1,2,none⟩=some (.slice a4 n4 c4))∧V.cell? ⟨b,off+j*6,none⟩=some (.string (S f.name))∧V.cell? ⟨b,off+j*6+1,none⟩=some (.int .i64 f.number)∧V.cell? ⟨b,off+j*6+2,none⟩=some (.int .i64 f.kind)∧V.cell? ⟨b,off+j*6+3,none⟩=some (.string (S f.type))∧V.cell? ⟨b,off+j*6+4,none⟩=some (.bool f.many)∧V.cell? ⟨b,off+j*6+5,none⟩=some (.int .i64 f.choice)) ((with_reducible refine bu _ ?_;with_reducible (first|exact hd|exact bh|exact au|exact A2l au (Nat.le_refl _) _|exact bt))) ((first|(go_at_call 37;refine(cg _ (by with_reducible exact hd)).mono ?_;rintro e w3 ⟨rfl,hb3⟩;have bh:=KBT hd hb3;have hr3:=df.below hb3)|(go_at_call 62;refine(dg _ (by with_reducible exact bh)).mono ?_;rintro e w4 ⟨rfl,hb4⟩;have au:=KBT bh hb4;have hr4:=hr3.below hb4)|(refine A6k (by rfl) ekP _ _ (by rfl) W2.heap.size (.slice ao no co) ((A4d g m).take k) [st] (by rfl) (bw _ hr4) (some ⟨w4.heap.size,0,none⟩) 1 1 (by rfl) (by rfl) (by intro e;cases e) (bq w4) (by decide) hbytes (A2l au (Nat.le_refl _) _).size ?_;intro v5 w5 bk cj;obtain⟨a5,n5,c5,rfl,_⟩:=bk.shape';have bt:=C9l (A2l au (Nat.le_refl _) _) (Nat.le_refl _) cj hown)))
   all_goals
    have bp:Row ekP w5 W2.heap.size (.slice a5 n5 c5) ((A4d g m).take (k+1)):=by
     rw[A0y cw,←br.out];exact bk
    clear bk
    go_wp2_with fail
    go_roundg (nv-(k+1))
    case measure=>omega
    case rel=>exact⟨k+1,a5,n5,c5,by omega,by go_num,rfl,bp,bt⟩
  ·have hr1:Row ekP wr W2.heap.size (.slice ao no co) (A4d g m):=by
    rw[List.take_of_length_le (by rw[show(A4d g m).length=(A8l m).length by simp[A4d],←a8.out];omega)] at hr;exact hr
   clear hr
   go_wp2
   go_ret
   exact⟨ao,no,co,rfl,hr1.mono (by omega),ac.trans (hb.mono (by omega))⟩
theorem D5c {w4 w6:World}{base:Nat}{v v':Value}{lo:List (List TI×KV)}{p:List TI}{q:KV}{o:Obj}(h:OwnQ w4 base v lo)(hp:Row ekP w4 base q.v p)(hr:Row ekQ w6 base v' (lo++[(p,q)]))(hg:(w4.alloc o).grownBy w6 v.ownBlock):OwnQ w6 base v' (lo++[(p,q)]):=by
  refine⟨hr,fun y hy=>?_⟩
  have hb:Below w4.heap.size w4 (w4.alloc o):=(Below.refl _ _).alloc (Nat.le_refl _) _
  have hq:=h.row
  rcases List.mem_append.1 hy with hy|hy
  · exact((h.each y hy).below hb).grown hg ((h.each y hy).ne hq (by decide))
  · rw[List.mem_singleton] at hy
    subst hy
    exact(hp.below hb).grown hg (hp.ne hq (by decide))
theorem D4n {w:World}{vm ve:Value}{g:GI}(hg:GRd w vm ve g)(cu:g.msgs.length≤140737488355328)(cw:g.enums.length≤140737488355328)(hf:Fits g) :
    Calls Tryz.prog 13 #[.agg #[vm,ve]] w fun e w'=>Below w.heap.size w w'∧
      (((wrongL g).1≠0∧e = .returned (.tuple #[.slice none 0 0,.agg #[.int .i64 (wrongL g).1,.int .i64 (((wrongL g).2:Nat):Int)]]))∨
       ((wrongL g).1=0∧∃ ao n cap l,e = .returned (.tuple #[.slice ao n cap,.agg #[.int .i64 0,.int .i64 0]])∧OwnQ w' w.heap.size (.slice ao n cap) l∧l.map Prod.fst=A3s g)):=by
  obtain⟨a1,n1,c1,rfl,H1,_⟩:=hg.1.shape
  obtain⟨a2,n2,c2,rfl,H2,_⟩:=hg.2.shape
  obtain⟨W0,ah⟩:∃ W0,Hid (W0=(w.alloc (.cells #[.slice a1 n1 c1,.slice a2 n2 c2] 25)).alloc (.cells #[.int .i64 0,.int .i64 0] 50)):=⟨_,rfl⟩
  have hb0:Below w.heap.size w W0:=by rw[ah.out];exact((Below.refl _ _).alloc (Nat.le_refl _) _).alloc (by simp) _
  have hz0:w.heap.size+2≤W0.heap.size:=by rw[ah.out];simp
  have x1:W0.heap[w.heap.size]?=some (.cells #[.slice a1 n1 c1,.slice a2 n2 c2] 25 (0,0)):=by rw[ah.out];exact A0l _ _ _
  have x2:W0.heap[w.heap.size+1]?=some (.cells #[.int .i64 0,.int .i64 0] 50 (0,0)):=by rw[ah.out];exact A0i _ _ _
  have hwr:=A9d (hg.below hb0) cu cw hf
  obtain⟨ze,zi,Hq⟩:∃ ze zi,Hid (wrongL g=(ze,zi)):=⟨_,_,rfl⟩
  rw[Hq.out] at hwr ⊢
  go_enter Tryz.func13,Tryz.ntmps13
  go_wp2_with fail
  rw[←ah.out]
  refine hwr.mono ?_
  rintro e w1 ⟨rfl,hb1⟩
  have aw:Below w.heap.size w w1:=KBT hb0 hb1
  have hz1:=hb1.size
  have y1:=(hb1.block _ (by omega)).trans x1
  have y2:=(hb1.block _ (by omega)).trans x2
  clear hwr
  obtain⟨W2,ag⟩:∃ W2,Hid (W2=w1.alloc (.cells #[.int .i64 ze,.int .i64 (zi:Int)] 50)):=⟨_,rfl⟩
  have hb2:Below w1.heap.size w1 W2:=by rw[ag.out];exact(Below.refl _ _).alloc (Nat.le_refl _) _
  have hz2:w1.heap.size+1≤W2.heap.size:=by rw[ag.out];simp
  have aj:Below w.heap.size w W2:=KBT aw hb2
  have y3:=(hb2.block _ (by omega)).trans y1
  have y4:=(hb2.block _ (by omega)).trans y2
  have y5:W2.heap[w1.heap.size]?=some (.cells #[.int .i64 ze,.int .i64 (zi:Int)] 50 (0,0)):=by rw[ag.out];exact heap_alloc_new _ _
  obtain⟨u0,u1⟩:=A0r y4
  have f0:=A0b y4
  obtain⟨u2,u3⟩:=A0r y5
  obtain⟨u4,u5⟩:=A0r y3
  have u6:=u4
  rw[ag.out] at u6
  clear y1 y2
  by_cases h0:ze=0
  · subst h0
    go_wp2_with fail
    rw[←ag.out]
    have br:=A7s (g:=g) (by rw[Hq.out])
    have bw:n1≤10:=by rw[H1.out];omega
    have cg:∀ m∈g.msgs,m.fields.length≤16:=fun m hm=>(B2z (br.2.2 m hm)).1
    have cj:(A3s g).length=g.msgs.length:=C3b g
    clear br
    go_loopg [5,17] n1 (fun m' v i wr=>∃ (k:Nat) (ao:Option Addr) (no co:Nat) (lo:List (List TI×KV)),k+m'=n1∧i = .int .i64 k∧v = .slice ao no co∧OwnQ wr W2.heap.size (.slice ao no co) lo∧Hid (lo.map Prod.fst=(A3s g).take k)∧lo.length≤k∧Below W2.heap.size W2 wr)
    case atStart=>exact⟨0,none,0,0,[],by omega,rfl,rfl,⟨Row.nil _ _ _,fun _ hp=>(List.not_mem_nil hp).elim⟩,by show _=_;simp,Nat.le_refl _,Below.refl _ _⟩
    case round=>
      obtain⟨k,ao,no,co,lo,hk,rfl,rfl,hr,HL,dl,hb⟩:=hrel
      have dm:=hb.size
      have ac:Below w.heap.size w wr:=KBT aj hb
      by_cases hlt:k<n1
      · obtain⟨a,Ha⟩:∃ a,Hid (g.msgs[k]?=some a):=⟨g.msgs[k]'(by rw[←H1.out];exact hlt),List.getElem?_eq_getElem (by rw[←H1.out];exact hlt)⟩
        obtain⟨b,off,rfl,hat⟩:=(hg.below ac).1.get MAt.plain Ha.out
        obtain⟨vf,vb,s0,s1,s2,bu,dh⟩:=hat.at
        obtain⟨af,nf,cf,rfl,Hf,_⟩:=bu.shape
        obtain⟨ab,nb,cb,rfl,Hb,_⟩:=dh.shape
        have di:(k:Int)<(n1:Int):=by omega
        have df:(A3s g)[k]?=some (A4d g a):=by unfold A3s;rw[List.getElem?_map,Ha.out];rfl
        obtain⟨W3,ak⟩:∃ W3,Hid (W3=wr.alloc (.cells #[.string (S a.name),.slice af nf cf,.slice ab nb cb] 38)):=⟨_,rfl⟩
        have hb3:Below wr.heap.size wr W3:=by rw[ak.out];exact(Below.refl _ _).alloc (Nat.le_refl _) _
        have hz3:wr.heap.size+1≤W3.heap.size:=by rw[ak.out];simp
        obtain⟨p0,p1⟩:=A0r ((hb.block _ (by omega)).trans y3)
        obtain⟨q0,q1⟩:=A0r ((hb3.block _ (by omega)).trans ((hb.block _ (by omega)).trans y3))
        rw[ak.out] at q0 q1
        have bq:=B6v (m:=a) (hg.below (KBT ac hb3)) ((bu.below FAt.stays hb3)) ⟨ab,nb,cb,rfl⟩ (by have:=cg a (List.mem_of_getElem? Ha.out);omega)
        clear hat
        go_wp2_with fail
        rw[←ak.out]
        refine bq.mono ?_
        rintro e w4 ⟨a5,n5,c5,rfl,bt,bk⟩
        have bh:Below W2.heap.size W2 w4:=KBT (KBT hb hb3) bk
        have hr4:OwnQ w4 W2.heap.size (.slice ao no co) lo:=(hr.below hb3).below bk
        have a8:Row ekP w4 W2.heap.size (KV.v (a5,n5,c5)) (A4d g a):=bt.mono (by have:=hb.size;omega)
        clear hr bt bq
        go_wp2_with (at_builtin;refine A1o (by rfl) ekQ _ _ (by rfl) W2.heap.size (.slice ao no co) lo [(A4d g a,(a5,n5,c5))] (by rfl) ?a1 (some ⟨w4.heap.size,0,none⟩) 1 1 (by rfl) (by rfl) ?a2 ?a3 (by decide) ?a4 ?a5 ?_)
        case a1=>exact hr4.row.below ((Below.refl _ _).alloc (Nat.le_refl _) _)
        case a2=>intro e;cases e
        case a3=>exact A9p ekQ w4 (A4d g a,(a5,n5,c5))
        case a4=>simp[ekQ];omega
        case a5=>exact(A2l bh (Nat.le_refl _) _).size
        intro v' w6 bg bp
        obtain⟨a6,n6,c6,rfl,_⟩:=bg.shape'
        have bv:Below W2.heap.size W2 w6:=C9l (A2l bh (Nat.le_refl _) _) (Nat.le_refl _) bp (fun k hk=>(hr4.row.own k hk).1)
        have dg:OwnQ w6 W2.heap.size (.slice a6 n6 c6) (lo++[(A4d g a,(a5,n5,c5))]):=D5c hr4 a8 bg bp
        have au:Hid ((lo++[(A4d g a,((a5,n5,c5):KV))]).map Prod.fst=(A3s g).take (k+1)):=by
          show _=_
          rw[List.map_append,HL.out,A0y df];rfl
        clear bg
        go_wp2_with fail
        go_roundg (n1-(k+1))
        case measure=>omega
        case rel=>exact⟨k+1,a6,n6,c6,_,by omega,by go_num,rfl,dg,au,by simp;omega,bv⟩
      · have au:Hid (lo.map Prod.fst=A3s g):=by
          have:=HL.out
          rw[List.take_of_length_le (by rw[cj,←H1.out];omega)] at this
          exact this
        obtain⟨q0,q1⟩:=A0r ((hb.block _ (by omega)).trans y4)
        have f1:=A0b ((hb.block _ (by omega)).trans y4)
        clear u0 u1 f0 u2 u3 u4 u5 u6
        go_wp2_with fail
        refine bodyPost_ret (v:=.tuple #[.slice ao no co,.agg #[.int .i64 0,.int .i64 0]]) (by simp[results,Tryz.results13,go_sem, *]) rfl ?_
        exact⟨KB_set (KB_set ac (by omega)) (by omega),ao,no,co,rfl,lo,(((hr.low (by omega) 0 _).low (by omega) 1 _)).mono (by omega),au.out⟩
  · have hne:(ze != 0)=true:=by simpa using h0
    go_wp2_with fail
    rw[←ag.out]
    go_region
    all_goals
      go_wp2_with fail
      refine bodyPost_ret (v:=.tuple #[.slice none 0 0,.agg #[.int .i64 ze,.int .i64 (zi:Int)]]) (by simp[results,Tryz.results13,go_sem, *]) rfl ?_
      exact⟨(KB_set (KB_set aj (by omega)) (by omega)).drew,.inl ⟨h0,rfl⟩⟩
theorem A9g {w:World}{ao:Option Addr}{len cap:Nat}{l:List UInt8}(h:RdL 1 YAt w (.slice ao len cap) l):(convert 32 9 (.slice ao len cap)).run Tryz.prog w = .ok (.string ⟨l.toArray⟩) w:=by
 obtain⟨ac,n',cap',e,h1,h2,h3,h4,h5⟩:=h
 cases e
 cases ao with
 | none=>
  have hc0:=(h4 rfl).1
  have hm:l = []:=List.eq_nil_of_length_eq_zero (by omega)
  subst hm
  rw[run_convert_bytes_nil w 32 5 Tryz.underlying32 Tryz.underlying5 len cap 9 Tryz.underlying9]
  rfl
 | some x=>
  have hl:(loadCells x len).run Tryz.prog w = .ok ((l.map fun c=>((c.toNat:Nat):Int)).map (Value.int .u8)).toArray w:=by
   have:=run_loadCells_list (P:=Tryz.prog) w x ((l.map fun c=>((c.toNat:Nat):Int)).map (Value.int .u8)) (fun j v hj=>by
    rw[List.getElem?_map,List.getElem?_map] at hj
    cases hc:l[j]? with
    | none=>rw[hc] at hj;cases hj
    | some c=>
     rw[hc] at hj
     have:=h5 x rfl j c hc
     rw[Nat.mul_one] at this
     rw[show w.cell? (x.add j)=_ from this]
     exact hj)
   simpa [h1] using this
  rw[run_convert_bytes_string w 32 9 5 _ len cap Tryz.underlying32 Tryz.underlying5 Tryz.underlying9,run_bytesToString w _ len cap _ hl,foldl_push_bytes]
  have e:∀ l:List UInt8,(l.map fun c=>((c.toNat:Nat):Int)).map (fun n:Int=>UInt8.ofNat n.toNat)=l:=by
   intro l
   rw[List.map_map]
   conv=>rhs;rw[←List.map_id l]
   apply List.map_congr_left
   intro c _
   simp
  rw[e]
  simp[ByteArray.empty,ByteArray.emptyWithCapacity]
  rfl
end L
end Go.Proofs.YtgaoojpakjjdnaaGreatDoor
