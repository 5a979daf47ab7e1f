import Derived.Below
import Derived.Laws.World
import Derived.Laws.Rows
import Derived.Below
import Derived.Laws.World
import Derived.Laws.Rows
import Derived.Deep.RegionHeld3
set_option maxHeartbeats 32000000
set_option maxRecDepth 100000
set_option linter.defProp false
namespace Go.Proofs.YthcomdofaaeihaaGreatDoor
section
open Go.RowKit
theorem zM{α:Sort _}(t:α):∃ x,Hid (x=t):=⟨t,rfl⟩
def zC:=@if_neg
def zF:=@if_pos
def zG:=@Nat.le_refl
def zH:=@Below.refl
def zS:=@List.mem_singleton
def zU:=@List.mem_append
def zZ:=@Below.heap_setCell
def yC:=@decide_eq_false
def yD:=@List.count_pos_iff
def yG:=@List.getElem?_eq_some_iff
def yM:=@heap_alloc_new
def yN:=@Nat.le_trans
def yO:=@heap_setCell_same
def yQ:=@List.length_append
def yX:=@List.length_map
def yY:=@List.mem_cons
def xD:=@Nat.le_of_eq
def xL:=@List.mem_of_find?_eq_some
def xP:=@List.not_mem_nil
def xV:=@List.mem_of_getElem?
def xU:=@decide_eq_true
def wM:=@List.map_append
def wT:=@Below.heap_alloc
def wS:=@List.map_cons
def wW:=@List.mem_cons_of_mem
def vE:=@List.length_drop
def vG:=@List.getElem?_eq_getElem
def vF:=@List.mem_cons_self
def vL:=@List.mem_flatMap
def vU:=@List.mem_append_left
def vT:=@List.mem_map
def vZ:=@List.length_take
def vY:=@List.append_assoc
def uE:=@List.eq_nil_of_length_eq_zero
def uR:=@Bool.eq_iff_iff
def uQ:=@List.drop_eq_getElem_cons
def uP:=@List.take_of_length_le
def tA:=@List.map_nil
def uZ:=@decide_eq_false_iff_not
def tI:=@List.mem_append_right
def tH:=@List.nil_append
def tU:=@Nat.zero_add
def tT:=@List.append_nil
def tS:=@Nat.mul_one
def tR:=@List.count_append
def sF:=@List.drop_eq_nil_of_le
def sE:=@List.getElem?_map
def sC:=@List.mem_filter
def tZ:=@List.sum_cons
def sQ:=@List.length_cons
def sP:=@List.pairwise_cons
def rC:=@List.flatMap_cons
def rI:=@List.mem_nil_iff
def rH:=@List.length_nil
def rN:=@List.find?_some
def qA:=@Nat.zero_le
def qV:=@Nat.mul_le_mul_right
def qU:=@Int.toNat_natCast
def pG:=@List.getD_eq_getElem?_getD
def pF:=@Bool.or_eq_false_iff
def qK:=@bne_iff_ne
def oE:=@List.find?_eq_none
def oD:=@List.sum_nil
def oC:=@List.drop_zero
def nD:=@Nat.lt_of_lt_of_le
def nC:=@List.drop_of_length_le
def oZ:=@List.getElem?_take
def oY:=@Array.getElem?_setIfInBounds_ne
def oX:=@Nat.add_zero
def oW:=@List.findIdx?_cons
def oU:=@Nat.le_succ
def oS:=@List.setIfInBounds_toArray
def oR:=@World.cells?_some
def mE:=@List.flatMap_nil
def mD:=@World.block_lt_of_cell?
def mC:=@List.any_eq_false
def mA:=@List.take_zero
def nX:=@List.take_append_drop
def nW:=@List.drop_drop
def nS:=@of_decide_eq_true
def mW:=@Nat.lt_or_ge
def mV:=@List.take_add_one
def mU:=@Nat.pow_le_pow_right
def mT:=@Nat.mul_comm
def mS:=@Bool.false_eq_true
def mR:=@List.nodup_iff_count
def kD:=@Nat.add_sub_cancel_left
def kC:=@Nat.add_mul
def kA:=@List.flatMap_append
def lX:=@List.mem_of_mem_take
def lW:=@World.cell?_setCells_out
def lU:=@Bool.false_or
def lT:=@List.cons_append
def lS:=@Bool.and_eq_true
def iC:=@Nat.succ_mul
def jZ:=@Nat.zero_mul
def jY:=@World.ownsRow_nil
def jX:=@List.getElem?_drop
def jV:=@List.filter_cons
def jU:=@List.sum_append
def jT:=@Array.getElem?_eq_getElem
def jS:=@Bool.not_false
def jR:=@List.length_eq_one_iff
def jQ:=@List.map_map
def jP:=@Int.eq_ofNat_of_zero_le
def jO:=@Nat.pow_add
def jN:=@Bool.or_eq_true
def jL:=@Bool.and_eq_false_iff
def jK:=@ownsRow_setCell_below
def gN:=@Bool.eq_false_iff
def gM:=@List.getElem?_append_left
def gL:=@List.getElem?_append_right
def gK:=@List.find?_append
def gI:=@Nat.div_add_mod
def gH:=@List.nodup_append
def gG:=@Array.getElem?_setIfInBounds_self_of_lt
def gF:=@List.size_toArray
def eN:=@List.getElem?_eq_none
def eM:=@Nat.min_eq_left
def eL:=@List.mem_of_mem_drop
def eK:=@Array.size_append
def eJ:=@Nat.mod_eq_of_lt
def eI:=@List.singleton_append
def eG:=@List.find?_cons_of_pos
def eD:=@List.find?_cons_of_neg
def bR:=@List.takeWhile_cons
def bQ:=@List.findIdx?_eq_none_iff
def bP:=@List.getElem?_toArray
def bO:=@World.cell?_setCell_far
def bN:=@Array.getElem?_toList
def bM:=@Array.getElem?_eq_none
def bK:=@List.find?_eq_getElem?_findIdx
def bJ:=@List.findIdx?_eq_some_iff_findIdx_eq
def bI:=@List.getElem?_of_mem
def bH:=@Nat.eq_zero_of_not_pos
def bG:=@List.mem_map_of_mem
def bE:=@List.length_pos_of_mem
def XG:=@List.findIdx?_eq_some_iff_getElem
def XF:=@List.count_eq_zero_of_not_mem
def XE:=@List.find?_eq_some_iff_append
end
variable{a:Act}{fuel i:Nat}{P:Program}{o:Oper}{ops:Array Oper}{w:World}{Q:Exit→Act→World→Prop}
theorem pT{α:Type}:(∀(l:List α)(i:Nat)(h:i<l.toArray.size),l.toArray[i]=l[i]'(by simpa using h))∧(∀(a:α)(l:List α)(i:Nat)(h:i+1<(a::l).length),(a::l)[i+1]=l[i]'(by simpa using h))∧(∀(a:α)(l:List α)(h:0<(a::l).length),(a::l)[0]=a)∧(∀(l:List α)(i:Nat)(a:α),l.toArray.setIfInBounds i a=(l.set i a).toArray)∧(∀(x a:α)(l:List α),(x::l).set 0 a=a::l)∧(∀(x a:α)(l:List α)(i:Nat),(x::l).set (i+1) a=x::l.set i a):=⟨fun l i h=>by simp,fun a l i h=>rfl,fun a l h=>rfl,fun l i a=>by simp,fun x a l=>rfl,fun x a l i=>rfl⟩
theorem tK {md:Region.Mode}{S:World→Prop}{oi:Oper}{v:Value}{listed:Array Bool}(hi:ops[i]?=some oi)(hy:Region.wanted oi (yielded ops a.tmps)=true∧∀ w,S w→(execOp a.eval oi).run P w = .ok (.value v) w)(h:wpAnyH P md ops Q S fuel (listed.setIfInBounds i true) (a.put oi.dst v) w)(hQ:∀ c a w,Q (.panic c) (a.put oi.dst v) w→Q (.panic c) a w:=by exact fun _ _ _ h=>h)(hS:S w:=by assumption)(hs:Region.noSelect ops=true:=by kernel_rfl)(hf:Region.free md ops listed i=true:=by kernel_rfl)(hr:(Region.ready md ops listed).contains i=true:=by kernel_rfl):wpAnyH P md ops Q S (fuel+1) listed a w:=wpAnyH_take hi hs hf hr hQ (.inl hy) hS h
theorem rA {md:Region.Mode}{S:World→Prop}{listed:Array Bool}(ho:ops[i]?=some o)(h:∀ K:Act→World→Prop,Shut (∀ a w,S w→(S w→wpAnyH P md ops Q S fuel (listed.setIfInBounds i true) a w)→K a w)→if Region.wanted o (yielded ops a.tmps)=true then Oper.wp P o a w K Q else K (a.put o.dst undef) w)(hr:Region.ready md ops listed=[i]:=by kernel_rfl):wpAnyH P md ops Q S (fuel+1) listed a w:=wpAnyH_ready hr (by simp) (AllReadyH.cons ho h AllReadyH.nil)
theorem rB {md:Region.Mode}{S:World→Prop}{j:Nat}{p:Oper}{listed:Array Bool}(ho:ops[i]?=some o)(h:∀ K:Act→World→Prop,Shut (∀ a w,S w→(S w→wpAnyH P md ops Q S fuel (listed.setIfInBounds i true) a w)→K a w)→if Region.wanted o (yielded ops a.tmps)=true then Oper.wp P o a w K Q else K (a.put o.dst undef) w)(ho2:ops[j]?=some p)(h2:∀ K:Act→World→Prop,Shut (∀ a w,S w→(S w→wpAnyH P md ops Q S fuel (listed.setIfInBounds j true) a w)→K a w)→if Region.wanted p (yielded ops a.tmps)=true then Oper.wp P p a w K Q else K (a.put p.dst undef) w)(hr:Region.ready md ops listed=[i,j]:=by kernel_rfl):wpAnyH P md ops Q S (fuel+1) listed a w:=wpAnyH_ready hr (by simp) (AllReadyH.cons ho h (AllReadyH.cons ho2 h2 AllReadyH.nil))
end Go.Proofs.YthcomdofaaeihaaGreatDoor
namespace Go.Proofs.YthcomdofaaeihaaGreatDoor
open Go.RowKit
set_option linter.defProp false
variable{α:Type}{k:Nat}
theorem yH {p q:Prop}(a:p)(b:q):p∧q:=⟨a,b⟩
theorem zI {p:Prop}(h:p):Hid p:=h
abbrev zB (a w:World):Prop:=Below a.heap.size a w
theorem zN {B:Nat}{a w:World}(h:Below B a w)(hk:k<B:=by omega):w.heap[k]?=a.heap[k]?:=h.block k hk
theorem zR {a:Array α}{i:Nat}{x : α}(h:a[i]?=some x):i<a.size:=(Array.getElem?_eq_some_iff.1 h).1
theorem yE {l:List α}(h:k<l.length):∃ a,Hid (l[k]?=some a):=⟨l[k],vG h⟩
theorem yP {α:Sort _}(t : α):∃ x,Hid (t=x):=⟨t,rfl⟩
theorem zV (w:World)(o:Obj):∃ X,Hid (X=w.alloc o)∧Below w.heap.size w X∧X.heap[w.heap.size]?=some o∧w.heap.size+1≤X.heap.size:=⟨_,rfl,(zH _ _).alloc (zG _) _,yM _ _,by simp⟩
theorem uD (w:World)(o p:Obj):∃ X,Hid (X=(w.alloc o).alloc p)∧Below w.heap.size w X∧w.heap.size+2≤X.heap.size∧X.heap[w.heap.size]?=some o∧X.heap[w.heap.size+1]?=some p:=⟨_,rfl,((zH _ _).alloc (zG _) _).alloc (by simp) _,by simp,(((zH _ _).alloc (zG _) p).block w.heap.size (by simp)).trans (yM _ _),by have:=yM (w.alloc o) p;simpa using this⟩
end Go.Proofs.YthcomdofaaeihaaGreatDoor
