import Derived.Test.YthcomdofaaeihaaGreatDoorV02
set_option maxHeartbeats 32000000
set_option maxRecDepth 100000
namespace Go.Proofs.YthcomdofaaeihaaGreatDoor
namespace L
open Go.RowKit
variable{v:Value}{d B c:Nat}{w:World}
structure Upd (c:Nat) (row:Option Nat) (w w':World):Prop where
 os:w'.os=w.os
 tape:w'.tape=w.tape
 output:w'.output=w.output
 size:w.heap.size≤w'.heap.size
 block:∀ k,k<w.heap.size→k≠c→row≠some k→w'.heap[k]?=w.heap[k]?
theorem Upd.refl (c:Nat)(row:Option Nat)(w:World):Upd c row w w:=⟨rfl,rfl,rfl,zG _,fun _ _ _ _=>rfl⟩
theorem Row.shape' {α:Type}{E:EK α}{l:List α}(h:Row E w B v l):∃ ao n cap,v = .slice ao n cap∧Hid (n=l.length):=by
 obtain⟨ao,cap,e⟩:=h.sH;exact⟨ao,l.length,cap,e,rfl⟩
theorem tM (fn:Fn)(first cap:Array Value)(w:World):(Instr.makeFunc fn first cap).run Tryz.prog w = .ok (.func fn first cap) w:=rfl
theorem SD (w:World):Calls Tryz.prog 89 #[] w fun e w'=>e = .returned (.func (.func 152) #[] #[.pointer (some ⟨w.heap.size,0,none⟩)])∧w.alloc (.cells #[.slice none 0 0] 85)=w':=by
 have ac:=tM;go_enter Tryz.func89,Tryz.ntmps89;go_wp2;go_ret;exact⟨rfl,rfl⟩
theorem B4a (w:World):Calls Tryz.prog 157 #[] w fun e w'=>e = .returned (.func (.func 198) #[] #[.pointer (some ⟨w.heap.size,0,none⟩)])∧w.alloc (.cells #[.slice none 0 0] 33)=w':=by
 have ac:=tM;go_enter Tryz.func157,Tryz.ntmps157;go_wp2;go_ret;exact⟨rfl,rfl⟩
def vM {α:Type}[DecidableEq α](x : α)(l:List α):List α:=if x∈l then l else l++[x]
theorem aL{P:Prop}(h:P:=by
 intro v5 w5 au ag;have hown:=hr4.own;have ah:=(ag.block c (zR av) (fun hh=>by have:=(hown c hh.symm).1;omega)).trans av;have k0:=zL ah 0 _ rfl;have k1:=zJ ah 0;obtain⟨a5,n5,aw,rfl,bg⟩:=au.shape';go_wp2;go_ret;refine⟨rfl,_,yO _ _ 0 _ _ _ ah,?_,?_⟩
 ·rw[HA.out];exact au.other (fun hh=>by have:=(au.own c hh).1;omega) 0 _
 refine⟨ag.os.trans ac.os,ag.tape.trans ac.tape,ag.output.trans ac.output,yN ac.size (yN ag.size (by simp[World.setCell])),fun k hk ba bc=>?_⟩;rw[zZ _ _ _ _ (show k≠c from ba),ag.block k (by simp;omega) (fun e=>bc e.symm),ac.block k hk]):P:=h
theorem Qb4{P:Prop}(h:P:=by
 go_wp2_with fail
 refine aj.mono ?_;rintro e w1 ⟨rfl,rfl⟩;go_wp2;go_ret;exact⟨rfl,_,hc,by rw[HA.out];exact hr,Upd.refl _ _ _⟩):P:=h
theorem B1o {l:List (List UInt8)}(hc:w.heap[c]?=some (.cells #[v] 85 (0,0)))(hr:Row ekS w B v l)(hcB:c<B)(hB:B≤w.heap.size)(hl:l.length≤1000)(x:List UInt8) :
  Calls Tryz.prog 152 #[.string (S x),.pointer (some ⟨c,0,none⟩)] w fun e w'=>e = .returned (.bool (decide (x∈l)))∧∃ v',w'.heap[c]?=some (.cells #[v'] 85 (0,0))∧Row ekS w' B v' (vM x l)∧Upd c v.ownBlock w w':=by
 obtain⟨ao,n,cap,rfl,Hn⟩:=hr.shape';have c0:=zL hc 0 _ rfl;have f0:=zJ hc 0;have aj:=A8v hr.rdS x;obtain⟨q,Hq⟩:=zM (decide (x∈l));rw[←Hq.out] at aj ⊢;cases q with
 | true=>
  have HA:Hid (vM x l=l):=by show _=_;have:=Hq.out;simp at this;simp[vM,this]
  go_enter Tryz.func152,Tryz.ntmps152;exact Qb4
 | false=>
 have HA:Hid (vM x l=l++[x]):=by show _=_;have:=Hq.out;simp at this;simp[vM,this]
 have ak:Row ekS (w.alloc (.cells #[.string (S x)] 9)) B (.slice (some ⟨w.heap.size,0,none⟩) 1 1) [x]:=Row.one ekS w x hB;have ac:=(zH w.heap.size w).alloc (zG _) (.cells #[.string (S x)] 9);have hr4:=hr.bL ac;have av:=(ac.block c (by omega)).trans hc;go_enter Tryz.func152,Tryz.ntmps152;go_wp2_with fail
 refine aj.mono ?_;rintro e w1 ⟨rfl,rfl⟩;go_wp2_with (at_builtin;refine cQ rfl ekS _ _ rfl B _ l [x] rfl hr4 B _ rfl ak ?e1 ?e2 ?_)
 case e1=>simp;omega
 case e2=>simp;omega
 exact aL
theorem B9p {l:List Int}(hc:w.heap[c]?=some (.cells #[v] 33 (0,0)))(hr:Row ekN w B v l)(hcB:c<B)(hB:B≤w.heap.size)(hl:l.length≤1000)(x:Int) :
  Calls Tryz.prog 198 #[.int .i64 x,.pointer (some ⟨c,0,none⟩)] w fun e w'=>e = .returned (.bool (decide (x∈l)))∧∃ v',w'.heap[c]?=some (.cells #[v'] 33 (0,0))∧Row ekN w' B v' (vM x l)∧Upd c v.ownBlock w w':=by
 obtain⟨ao,n,cap,rfl,Hn⟩:=hr.shape';have c0:=zL hc 0 _ rfl;have f0:=zJ hc 0;have aj:=SK hr.rdN x;obtain⟨q,Hq⟩:=zM (decide (x∈l));rw[←Hq.out] at aj ⊢;cases q with
 | true=>
  have HA:Hid (vM x l=l):=by show _=_;have:=Hq.out;simp at this;simp[vM,this]
  go_enter Tryz.func198,Tryz.ntmps198;exact Qb4
 | false=>
 have HA:Hid (vM x l=l++[x]):=by show _=_;have:=Hq.out;simp at this;simp[vM,this]
 have ak:Row ekN (w.alloc (.cells #[.int .i64 x] 3)) B (.slice (some ⟨w.heap.size,0,none⟩) 1 1) [x]:=Row.one ekN w x hB;have ac:=(zH w.heap.size w).alloc (zG _) (.cells #[.int .i64 x] 3);have hr4:=hr.bL ac;have av:=(ac.block c (by omega)).trans hc;go_enter Tryz.func198,Tryz.ntmps198;go_wp2_with fail
 refine aj.mono ?_;rintro e w1 ⟨rfl,rfl⟩;go_wp2_with (at_builtin;refine cQ rfl ekN _ _ rfl B _ l [x] rfl hr4 B _ rfl ak ?e1 ?e2 ?_)
 case e1=>simp;omega
 case e2=>simp;omega
 exact aL
def uH (last begun ch:Int):Bool:=decide (ch≠0)&&(decide (ch≠last)&&decide (ch≠begun+1))
theorem D8m (w:World):Calls Tryz.prog 158 #[] w fun e w'=>e = .returned (.func (.func 199) #[] #[.pointer (some ⟨w.heap.size,0,none⟩),.pointer (some ⟨w.heap.size+1,0,none⟩)])∧(w.alloc (.cells #[.int .i64 0] 3)).alloc (.cells #[.int .i64 0] 3)=w':=by
 have ac:=tM;go_enter Tryz.func158,Tryz.ntmps158;go_wp2;go_ret;exact⟨rfl,rfl⟩
theorem C9j {a b:Value}{t:TypeId}(hc:w.heap[c]?=some (.cells #[a] t (0,0)))(hd:w.heap[d]?=some (.cells #[b] t (0,0)))(ac:c≠d)(x y:Value) :
  ((w.setCell ⟨c,0,none⟩ x).setCell ⟨d,0,none⟩ y).drew.heap[c]?=some (.cells #[x] t (0,0))∧((w.setCell ⟨c,0,none⟩ x).setCell ⟨d,0,none⟩ y).drew.heap[d]?=some (.cells #[y] t (0,0))∧(∀ k,¬ k=c→¬ k=d→((w.setCell ⟨c,0,none⟩ x).setCell ⟨d,0,none⟩ y).drew.heap[k]?=w.heap[k]?)∧((w.setCell ⟨c,0,none⟩ x).setCell ⟨d,0,none⟩ y).drew.heap.size=w.heap.size∧((w.setCell ⟨c,0,none⟩ x).setCell ⟨d,0,none⟩ y).drew.os=w.os∧((w.setCell ⟨c,0,none⟩ x).setCell ⟨d,0,none⟩ y).drew.tape=w.tape∧((w.setCell ⟨c,0,none⟩ x).setCell ⟨d,0,none⟩ y).drew.output=w.output:=by
 refine⟨?_,?_,?_,?_,rfl,rfl,rfl⟩
 ·show((w.setCell ⟨c,0,none⟩ x).setCell ⟨d,0,none⟩ y).heap[c]?=_;rw[zZ _ _ _ _ (show c≠d from ac)];exact yO _ _ 0 _ _ _ hc
 ·show((w.setCell ⟨c,0,none⟩ x).setCell ⟨d,0,none⟩ y).heap[d]?=_;exact yO _ _ 0 _ _ _ ((zZ w ⟨c,0,none⟩ x d (show d≠c from fun h=>ac h.symm)).trans hd)
 ·intro k k1 k2;show((w.setCell ⟨c,0,none⟩ x).setCell ⟨d,0,none⟩ y).heap[k]?=_;rw[zZ _ _ _ _ (show k≠d from k2),zZ _ _ _ _ (show k≠c from k1)]
 show((w.setCell ⟨c,0,none⟩ x).setCell ⟨d,0,none⟩ y).heap.size=_;simp
theorem D4j {last begun:Int}(hc:w.heap[c]?=some (.cells #[.int .i64 last] 3 (0,0)))(hd:w.heap[d]?=some (.cells #[.int .i64 begun] 3 (0,0)))(ac:c≠d)(hb0:0≤begun)(hb1:begun≤1000000)(ch:Int) :
  Calls Tryz.prog 199 #[.int .i64 ch,.pointer (some ⟨c,0,none⟩),.pointer (some ⟨d,0,none⟩)] w fun e w'=>e = .returned (.bool (uH last begun ch))∧w'.heap[c]?=some (.cells #[.int .i64 (if uH last begun ch then last else ch)] 3 (0,0))∧w'.heap[d]?=some (.cells #[.int .i64 (if uH last begun ch then begun else max begun ch)] 3 (0,0))∧(∀ k,k≠c→k≠d→w'.heap[k]?=w.heap[k]?)∧w'.heap.size=w.heap.size∧w'.os=w.os∧w'.tape=w.tape∧w'.output=w.output:=by
 have c0:=zL hc 0 _ rfl;have f0:=zJ hc 0;have d0:=zL hd 0 _ rfl;have f1:=zJ hd 0;obtain⟨q1,ag⟩:∃ q,(ch != 0)=q:=⟨_,rfl⟩
 obtain⟨q2,ah⟩:∃ q,(ch != last)=q:=⟨_,rfl⟩
 obtain⟨q3,aj⟩:∃ q,(ch != begun+1)=q:=⟨_,rfl⟩
 have HC:Hid (uH last begun ch=(q1&&(q2&&q3))):=by
  show _=_;rw[←ag,←ah,←aj,uR];simp[uH]
 have c0:w.cell? ⟨c,0,none⟩=some (.int .i64 last):=c0;have d0:w.cell? ⟨d,0,none⟩=some (.int .i64 begun):=d0;by_cases hm:(q1&&(q2&&q3))=true
 ·have HM:Hid (uH last begun ch=true):=by show _=_;rw[HC.out];exact hm
  cases q1 <;> cases q2 <;> cases q3 <;> first|(exfalso;revert hm;decide)|skip
  clear hm HC;go_enter Tryz.func199,Tryz.ntmps199;go_wp2;go_ret;exact⟨rfl,hc,hd,fun _ _ _=>rfl,rfl,rfl,rfl,rfl⟩
 have HM:Hid (uH last begun ch=false):=by show _=_;rw[HC.out];simpa using hm
 have ak:=(zR hc)
 have au:=(zR hd)
 rw[HM.out];clear HC;cases q1 <;> cases q2 <;> cases q3 <;> first|(exfalso;revert hm;decide)|skip
 all_goals clear hm
 all_goals go_enter Tryz.func199,Tryz.ntmps199
 all_goals go_wp2_with fail
 all_goals go_region
 all_goals go_wp2
 all_goals go_ret
 all_goals first
  | (rw[show max begun ch=ch by omega];exact⟨rfl,C9j hc hd ac _ _⟩)
  | (rw[show max begun ch=begun by omega];exact⟨rfl,C9j hc hd ac _ _⟩)
end L
end Go.Proofs.YthcomdofaaeihaaGreatDoor
