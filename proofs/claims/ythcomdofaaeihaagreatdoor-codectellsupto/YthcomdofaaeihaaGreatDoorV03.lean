import Derived.Test.YthcomdofaaeihaaGreatDoorV00
import Derived.Test.YthcomdofaaeihaaGreatDoorProg
import Derived.Shelf.Sort.Plain
import Derived.Shelf.Slices.In.SortNone
set_option maxHeartbeats 32000000
set_option maxRecDepth 100000
set_option linter.unusedVariables false
namespace Go.Proofs.YthcomdofaaeihaaGreatDoor
namespace L
open Go
section
variable{v:Value}{oi o:Oper}{a:Act}{fuel i:Nat}{w:World}
variable {P:Program}{ops:Array Oper}{Q:Exit→Act→World→Prop}{md:Region.Mode}{S:World→Prop}{z:Nat}
def ZE (md:Region.Mode)(ops:Array Oper)(z:Nat):Bool:=(List.range ops.size).all fun i=>i==z||match ops[z]? with|some o=>o.after.any fun e=>Region.binds md e&&e.on==i|none=>false
theorem D8i (h:ZE md ops z=true)(hi:i<ops.size)(ac:i≠z):∃ o,ops[z]?=some o∧∃ e∈o.after,Region.binds md e=true∧e.on=i:=by
 have h1:=List.all_eq_true.1 h i (List.mem_range.2 hi);cases ho:ops[z]? with
 | none=>simp[ho,ac] at h1
 | some o=>
 simp only[ho,jN,beq_iff_eq,Array.any_eq_true'] at h1;rcases h1 with h1|⟨e,he,h1⟩
 ·exact absurd h1 ac
 simp only[lS,beq_iff_eq] at h1;exact⟨o,rfl,e,he,h1⟩
def wpL (P:Program)(md:Region.Mode)(ops:Array Oper)(Q:Exit→Act→World→Prop)(S:World→Prop)(z:Nat):Nat→Array Bool→Act→World→Prop
 | 0,listed,a,w=>Region.ready md ops listed = []∧Q .normal a w
 | fuel+1,listed,a,w=>
  (Region.ready md ops listed = []→Q .normal a w)∧
  ∀ i∈Region.ready md ops listed,wpOp P ops Q i (fun a' w'=>(i≠z→S w')∧wpL P md ops Q S z fuel (listed.setIfInBounds i true) a' w') a w
theorem B4z:∀ (fuel:Nat) (listed:Array Bool) (a:Act) (w:World),wpL P md ops Q S z fuel listed a w→wpAny P md ops Q fuel listed a w
 | 0,_,_,_,h=>h
 | fuel+1,_,_,_,h=>⟨h.1,fun i hi=>wpOp_mono (fun a' w' h'=>B4z fuel _ a' w' h'.2) (h.2 i hi)⟩
theorem D2j (hz:ZE md ops z=true){listed:Array Bool}{j:Nat}(hi:i∈Region.ready md ops listed)(hj:j∈Region.ready md ops listed)(ag:j≠i):j≠z:=fun e=>by
 subst e
 obtain⟨h0,oi,hoi,_⟩:=mem_ready.1 hi
 obtain⟨_,oj,ah,hall⟩:=mem_ready.1 hj
 have ac:=(zR hoi)
 obtain⟨o,ho,ed,he,hb,aj⟩:=D8i hz ac (Ne.symm ag)
 rw[ah] at ho
 cases ho
 have h1:=hall ed he hb
 rw[aj] at h1
 rcases mW i listed.size with h'|h'
 ·simp[h'] at h0 h1;rw[h0] at h1;cases h1
 ·simp[bM h'] at h1
theorem D2o (hz:ZE md ops z=true)(hi:ops[i]?=some oi)(aj:∀ (j:Nat) (o:Oper) cs b,ops[j]?=some o→o.op≠.select cs b)
  (hQ:∀ c a w,Q (.panic c) (a.put oi.dst v) w→Q (.panic c) a w) :
  ∀ (fuel:Nat) (listed:Array Bool) (a:Act) (w:World),
   (∀ j oj,ops[j]?=some oj→j≠i→listed.getD j true=false→(∀ e∈oj.after,Region.binds md e=true→e.on≠i)→oi.apart ops oj=true)→
   i∈Region.ready md ops listed→YieldsIf P ops S oi v a→S w→
   wpL P md ops Q S z fuel (listed.setIfInBounds i true) (a.put oi.dst v) w→wpL P md ops Q S z (fuel+1) listed a w:=by
 intro fuel
 induction fuel with
 | zero=>
  intro listed a w _ hr hy hS H;refine⟨fun h=>(by rw[h] at hr;cases hr),fun j hj=>?_⟩;by_cases hji:j=i
  ·subst hji;exact hy.wpOp hi hS ⟨fun _=>hS,H⟩
  ·have:=ready_mono hj hji;rw[H.1] at this;cases this
 | succ fuel ih=>
  intro listed a w ac hr hy hS H;refine⟨fun h=>(by rw[h] at hr;cases hr),fun j hj=>?_⟩;by_cases hji:j=i
  ·subst hji;exact hy.wpOp hi hS ⟨fun _=>hS,H⟩
  ·have h1:=H.2 j (ready_mono hj hji);have ba:=D2j hz hr hj hji;obtain⟨ah,oj,au,hall⟩:=mem_ready.1 hj;have ak:∀ e∈oj.after,Region.binds md e=true→e.on≠i:=fun e he hb aw=>by
    have h1:=hall e he hb;have h0:=(mem_ready.1 hr).1;rw[aw] at h1;rcases mW i listed.size with h'|h'
    ·simp[h'] at h0 h1;rw[h0] at h1;cases h1
    ·simp[bM h'] at h1
   have h2:=wpOp_putIf au (ac j oj au hji ah ak) (fun cs b=>aj i oi cs b hi) (fun cs b=>aj j oj cs b au) hQ hy h1;have ag:∀ k ok,ops[k]?=some ok→k≠i→(listed.setIfInBounds j true).getD k true=false→
     (∀ e∈ok.after,Region.binds md e=true→e.on≠i)→oi.apart ops ok=true:=fun k ok hk bc av hno=>by
    refine ac k ok hk bc ?_ hno;by_cases hjk:j=k
    ·subst hjk;exact ah
    ·rw[getD_set_ne true hjk] at av;exact av
   refine wpOp_mono (fun a' w' h3=>⟨h3.2.1,ih (listed.setIfInBounds j true) a' w' ag (ready_mono hr (Ne.symm hji)) h3.1 (h3.2.1 ba) ?_⟩) h2;rw[Array.setIfInBounds_comm _ _ hji];exact h3.2.2
theorem tkL (i:Nat){listed:Array Bool}(hi:ops[i]?=some oi)(hS:S w)(hy:∀ w,S w→(execOp a.eval oi).run P w = .ok (.value v) w)
  (h:wpL P md ops Q S z fuel (listed.setIfInBounds i true) (a.put oi.dst v) w)
  (hz:ZE md ops z=true:=by kernel_rfl) (hs:Region.noSelect ops=true:=by kernel_rfl) (hf:Region.free md ops listed i=true:=by kernel_rfl) (hr:(Region.ready md ops listed).contains i=true:=by kernel_rfl)
  (hQ:∀ c a w,Q (.panic c) (a.put oi.dst v) w→Q (.panic c) a w:=by exact fun _ _ _ h=>h) (hw:Region.wanted oi (yielded ops a.tmps)=true:=by rfl):wpL P md ops Q S z (fuel+1) listed a w:=
 D2o hz hi (Region.noSelect_spec hs) hQ fuel listed a w (Region.free_spec hi hf) (by simpa using hr) (.inl ⟨hw,hy⟩) hS h
theorem tkF (i:Nat){listed:Array Bool}(hi:ops[i]?=some oi)(hS:S w){C:World→Prop}(hc:∀ W,S W→C W)
  (h:wpL P md ops Q S z fuel (listed.setIfInBounds i true) (a.put oi.dst v) w) (hy:∀ W,S W→C W→(execOp a.eval oi).run P W = .ok (.value v) W:=by intro W hSw hk;(try dsimp only at hk);go_split_ands;go_simp;first|done|with_reducible rfl)
  (hz:ZE md ops z=true:=by kernel_rfl) (hs:Region.noSelect ops=true:=by kernel_rfl) (hf:Region.free md ops listed i=true:=by kernel_rfl) (hr:(Region.ready md ops listed).contains i=true:=by kernel_rfl) (hQ:∀ c a w,Q (.panic c) (a.put oi.dst v) w→Q (.panic c) a w:=by exact fun _ _ _ h=>h) (hw:Region.wanted oi (yielded ops a.tmps)=true:=by rfl):wpL P md ops Q S z (fuel+1) listed a w:=
 tkL i hi hS (fun W hW=>hy W hW (hc W hW)) h hz hs hf hr hQ hw
theorem zTk (i:Nat){listed:Array Bool}(hi:ops[i]?=some oi){C:World→Prop}(hc:∀ W,S W→C W)
  (h:wpAnyH P md ops Q S fuel (listed.setIfInBounds i true) (a.put oi.dst v) w) (hy:∀ W,S W→C W→(execOp a.eval oi).run P W = .ok (.value v) W:=by intro W hSw hk;(try dsimp only at hk);go_split_ands;go_simp;first|done|with_reducible rfl)
  (hS:S w:=by assumption) (hs:Region.noSelect ops=true:=by kernel_rfl) (hf:Region.free md ops listed i=true:=by kernel_rfl) (hr:(Region.ready md ops listed).contains i=true:=by kernel_rfl) (hQ:∀ c a w,Q (.panic c) (a.put oi.dst v) w→Q (.panic c) a w:=by exact fun _ _ _ h=>h) (hw:Region.wanted oi (yielded ops a.tmps)=true:=by rfl):wpAnyH P md ops Q S (fuel+1) listed a w:=
 wpAnyH_take hi hs hf hr hQ (.inl ⟨hw,fun W hW=>hy W hW (hc W hW)⟩) hS h
theorem xT (i:Nat){listed:Array Bool}(ho:ops[i]?=some o)
  (h:∀ K':Act→World→Prop,Shut (∀ a w,(i≠z→S w)→wpL P md ops Q S z fuel (listed.setIfInBounds i true) a w→K' a w)→if Region.wanted o (yielded ops a.tmps)=true then Oper.wp P o a w K' Q else K' (a.put o.dst undef) w)
  (hr:Region.ready md ops listed = [i]:=by kernel_rfl):wpL P md ops Q S z (fuel+1) listed a w:=
 ⟨fun h0=>(by rw[hr] at h0;cases h0),fun j hj=>by
  rw[hr] at hj
  obtain rfl:=zS.1 hj
  exact wpOp_step ho (fun K' hK=>h K' (fun a w h1 h2=>hK a w ⟨h1,h2⟩))⟩
theorem aO (i j:Nat){p:Oper}{listed:Array Bool}(ho:ops[i]?=some o)(hp:ops[j]?=some p)
  (h:∀ K':Act→World→Prop,Shut (∀ a w,(i≠z→S w)→wpL P md ops Q S z fuel (listed.setIfInBounds i true) a w→K' a w)→if Region.wanted o (yielded ops a.tmps)=true then Oper.wp P o a w K' Q else K' (a.put o.dst undef) w)
  (k:∀ K':Act→World→Prop,Shut (∀ a w,(j≠z→S w)→wpL P md ops Q S z fuel (listed.setIfInBounds j true) a w→K' a w)→if Region.wanted p (yielded ops a.tmps)=true then Oper.wp P p a w K' Q else K' (a.put p.dst undef) w)
  (hr:Region.ready md ops listed = [i,j]:=by kernel_rfl):wpL P md ops Q S z (fuel+1) listed a w:=
 ⟨fun h0=>(by rw[hr] at h0;cases h0),fun m hm=>by
  rw[hr] at hm
  rcases yY.1 hm with rfl|hm
  ·exact wpOp_step ho (fun K' hK=>h K' (fun a w h1 h2=>hK a w ⟨h1,h2⟩))
  ·obtain rfl:=zS.1 hm
   exact wpOp_step hp (fun K' hK=>k K' (fun a w h1 h2=>hK a w ⟨h1,h2⟩))⟩
theorem dnL {listed:Array Bool}(h:Q .normal a w)(hr:Region.ready md ops listed = []:=by kernel_rfl):∀ {fuel:Nat},wpL P md ops Q S z fuel listed a w
 | 0=>⟨hr,h⟩
 | _+1=>⟨fun _=>h,by rw[hr];simp⟩
theorem rgL (S:World→Prop)(z:Nat){id:Nat}(hS:S w.drew)(h:wpL P .any ops Q S z ops.size (Array.replicate ops.size false) a w.drew)(hm:P.follows .mixedOrders=true:=by kernel_rfl):(Code.region id ops true).wp P Q a w:=
 wp_region_any hm (B4z _ _ _ _ h)
end
theorem zE {α:Type}:(∀ (a:Act) (t:Tmp) (v:Value),a.put (some t) v={ a with tmps:=a.tmps.setIfInBounds t v })∧(∀ (a:Act) (v:Value),a.put none v=a)∧(∀ (l:List α) (i:Nat) (v : α),l.toArray.setIfInBounds i v=(l.set i v).toArray)∧(∀ (a : α) (l:List α) (v : α),(a::l).set 0 v=v::l)∧(∀ (a : α) (l:List α) (i:Nat) (v : α),(a::l).set (i+1) v=a::l.set i v)∧(∀ (l:List α) (i:Nat) (h:i<l.toArray.size),l.toArray[i]=l[i]'(by simpa using h))∧(∀ (a : α) (l:List α) (i:Nat) (h:i+1<(a::l).length),(a::l)[i+1]=l[i]'(by simpa using h))∧(∀ (a : α) (l:List α) (h:0<(a::l).length),(a::l)[0]=a):=
 ⟨fun _ _ _=>rfl,fun _ _=>rfl,fun _ _ _=>oS ..,fun _ _ _=>rfl,fun _ _ _ _=>rfl,fun _ _ _=>rfl,fun _ _ _ _=>rfl,fun _ _ _=>rfl⟩
end L
end Go.Proofs.YthcomdofaaeihaaGreatDoor
namespace Go.Proofs
open Go.Shelf
def Tryz.lays189_ren:Go.Shelf.Ren:=⟨fun|189=>13|125=>25|257=>24|128=>66|129=>67|294=>57|295=>58|296=>59|297=>60|298=>61|299=>62|216=>63|300=>64|301=>65|328=>117|329=>118|330=>119|331=>120|332=>121|215=>122|343=>185|n=>n,fun|28=>33|3=>3|46=>67|0=>0|51=>121|53=>64|4=>4|183=>114|182=>113|131=>44|5=>5|9=>9|218=>172|222=>176|228=>226|229=>227|n=>n,fun|n=>n⟩
theorem Tryz.lays189:Go.Proofs.Lays.n189 Tryz.prog Tryz.lays189_ren:={
 mixed:=by kernel_rfl
 f125:=Tryz.func25.trans (congrArg some (by kernel_rfl))
 f128:=Tryz.func66.trans (congrArg some (by kernel_rfl))
 f129:=Tryz.func67.trans (congrArg some (by kernel_rfl))
 f189:=Tryz.func13.trans (congrArg some (by kernel_rfl))
 f215:=Tryz.func122.trans (congrArg some (by kernel_rfl))
 f216:=Tryz.func63.trans (congrArg some (by kernel_rfl))
 f257:=Tryz.func24.trans (congrArg some (by kernel_rfl))
 f294:=Tryz.func57.trans (congrArg some (by kernel_rfl))
 f295:=Tryz.func58.trans (congrArg some (by kernel_rfl))
 f296:=Tryz.func59.trans (congrArg some (by kernel_rfl))
 f297:=Tryz.func60.trans (congrArg some (by kernel_rfl))
 f298:=Tryz.func61.trans (congrArg some (by kernel_rfl))
 f299:=Tryz.func62.trans (congrArg some (by kernel_rfl))
 f300:=Tryz.func64.trans (congrArg some (by kernel_rfl))
 f301:=Tryz.func65.trans (congrArg some (by kernel_rfl))
 f328:=Tryz.func117.trans (congrArg some (by kernel_rfl))
 f329:=Tryz.func118.trans (congrArg some (by kernel_rfl))
 f330:=Tryz.func119.trans (congrArg some (by kernel_rfl))
 f331:=Tryz.func120.trans (congrArg some (by kernel_rfl))
 f332:=Tryz.func121.trans (congrArg some (by kernel_rfl))
 f343:=Tryz.func185.trans (congrArg some (by kernel_rfl))
 t0:=Tryz.underlying0
 a0:=Tryz.isAgg0
 z0:=Tryz.sizeOf0
 v0:=Tryz.zeroValue0
 t3:=Tryz.underlying3
 a3:=Tryz.isAgg3
 z3:=Tryz.sizeOf3
 v3:=Tryz.zeroValue3
 t4:=Tryz.underlying4
 a4:=Tryz.isAgg4
 z4:=Tryz.sizeOf4
 v4:=Tryz.zeroValue4
 t5:=Tryz.underlying5
 a5:=Tryz.isAgg5
 z5:=Tryz.sizeOf5
 v5:=Tryz.zeroValue5
 t9:=Tryz.underlying9
 a9:=Tryz.isAgg9
 z9:=Tryz.sizeOf9
 v9:=Tryz.zeroValue9
 t28:=Tryz.underlying33
 a28:=Tryz.isAgg33
 z28:=Tryz.sizeOf33
 v28:=Tryz.zeroValue33
 t46:=Tryz.underlying67
 a46:=Tryz.isAgg67
 z46:=Tryz.sizeOf67
 v46:=Tryz.zeroValue67
 t51:=Tryz.underlying121
 a51:=Tryz.isAgg121
 z51:=Tryz.sizeOf121
 v51:=Tryz.zeroValue121
 t53:=Tryz.underlying64
 a53:=Tryz.isAgg64
 z53:=Tryz.sizeOf64
 v53:=Tryz.zeroValue64
 t131:=Tryz.underlying44
 a131:=Tryz.isAgg44
 z131:=Tryz.sizeOf44
 v131:=Tryz.zeroValue44
 t182:=Tryz.underlying113
 a182:=Tryz.isAgg113
 z182:=Tryz.sizeOf113
 v182:=Tryz.zeroValue113
 t183:=Tryz.underlying114
 a183:=Tryz.isAgg114
 z183:=Tryz.sizeOf114
 v183:=Tryz.zeroValue114
 t218:=Tryz.underlying172
 a218:=Tryz.isAgg172
 z218:=Tryz.sizeOf172
 v218:=Tryz.zeroValue172
 t222:=Tryz.underlying176
 a222:=Tryz.isAgg176
 z222:=Tryz.sizeOf176
 v222:=Tryz.zeroValue176
 t228:=Tryz.underlying226
 a228:=Tryz.isAgg226
 z228:=Tryz.sizeOf226
 v228:=Tryz.zeroValue226
 t229:=Tryz.underlying227
 a229:=Tryz.isAgg227
 z229:=Tryz.sizeOf227
 v229:=Tryz.zeroValue227 }
open Go.Sort Go.RowKit in
theorem Tryz.slices_Sort_int (blk off cap:Nat)(zs:List Int)(w:World)(hH:Holds (Value.int .i64) w blk off zs.toArray)(hblk:blk<w.heap.size)(hsz:zs.length<4611686018427387904) :
  Calls Tryz.prog 13 #[.slice (some ⟨blk,off,none⟩) zs.length cap] w fun e w'=>
   e = .returned (.tuple #[])∧∃ n os,w'=grow (putRow (Value.int .i64) (Sort.ahead w n) blk off (zs.mergeSort fun x y=>decide (x≤y)).toArray) os:=Any.slices_Sort_int Tryz.lays189 blk off cap zs w hH hblk hsz
open Go.RowKit Go.Sort in
theorem Tryz.slices_Sort_int_none (p:Option Addr)(cap:Nat)(w:World) :
  Calls Tryz.prog 13 #[.slice p 0 cap] w fun e w'=>e = .returned (.tuple #[])∧w'=w:=Any.slices_Sort_int_none Tryz.lays189 p cap w
end Go.Proofs
