import Derived.Test.YthcomdofaaeihaaGreatDoorV00
import Derived.Test.YthcomdofaaeihaaGreatDoorProg
import Derived.Laws.BitsAllLaws
import Derived.RowKit
import Derived.WalkKit
import Derived.WalkSpells
import Derived.WalkLawsBesides
import Derived.Lib.Strings
import Derived.BigQuiet
import Derived.Deep.QuietTactic
import Derived.Deep.RegionWith
import Derived.OwnWalk
import Derived.Laws.OwnMore
import Derived.Deep.LoopGhost
import Derived.Deep.RegionLaw
set_option maxHeartbeats 32000000
set_option maxRecDepth 100000
namespace Go.Proofs.YthcomdofaaeihaaGreatDoor
def qN (c:UInt8):Bool:=(decide (97≤c.toNat)&&decide (c.toNat≤122))||(decide (65≤c.toNat)&&decide (c.toNat≤90))
def aU (c:UInt8):Bool:=decide (48≤c.toNat)&&decide (c.toNat≤57)
def rK (c:UInt8):Bool:=qN c||aU c||c.toNat==95
def qT:List UInt8→Nat
 | []=>0
 | c::r=>if qN c then 1+(r.takeWhile rK).length else 0
def pO:List (List UInt8):=
 [[105,110,116,54,52],[115,105,110,116,54,52],[117,105,110,116,54,52],[98,111,111,108],[],[102,105,120,101,100,54,52],[102,105,120,101,100,51,50],[115,116,114,105,110,103],[98,121,116,101,115]]
def jH:List UInt8:=[114,101,115,101,114,118,101,100]
def kY:List UInt8:=[111,110,101,111,102]
def jI:List UInt8:=[114,101,112,101,97,116,101,100]
end Go.Proofs.YthcomdofaaeihaaGreatDoor
namespace Go.Proofs.YthcomdofaaeihaaGreatDoor
namespace L
open Go.RowKit
variable{α:Type}{l:List UInt8}{k:Nat}
theorem oA {k:IntKind}{a b:Int}(h:a=b):Ending.returned (.int k a) = .returned (.int k b):=by rw[h]
theorem nQ {a b:Bool}(h:a=b):Ending.returned (.bool a) = .returned (.bool b):=by rw[h]
def S (l:List UInt8):ByteArray:=⟨l.toArray⟩
theorem fO (l:List UInt8):(S l).size=l.length:=by simp[S,ByteArray.size]
theorem sL (l:List UInt8):(S l).toList=l:=by
 rw[ByteArray.toList_eq];simp[S]
theorem WG{P:Prop}(h:P:=by
 go_wp2
 all_goals (go_ret;refine⟨nQ ?_,rfl⟩;(try rw[uR]);(try simp);(try omega))):P:=h
theorem SJ (c:UInt8)(w:World):Calls Tryz.prog 196 #[.int .u8 (c.toNat:Int)] w fun e w'=>e = .returned (.bool (qN c))∧w=w':=by
 obtain⟨X,HX⟩:=zM (c.toNat:Nat);have HL:Hid (qN c=((decide (97≤X)&&decide (X≤122))||(decide (65≤X)&&decide (X≤90)))):=by show _=_;rw[HX.out];rfl
 have hX:X<256:=by rw[HX.out];exact UInt8.toNat_lt _
 rw[←HX.out,HL.out];clear HX HL;by_cases h1:97≤X
 ·by_cases h2:X≤122
  ·go_enter Tryz.func196,Tryz.ntmps196;exact WG
  go_enter Tryz.func196,Tryz.ntmps196;exact WG
 go_enter Tryz.func196,Tryz.ntmps196;exact WG
theorem C0j (c:UInt8)(w:World):Calls Tryz.prog 197 #[.int .u8 (c.toNat:Int)] w fun e w'=>e = .returned (.bool (aU c))∧w=w':=by
 obtain⟨X,HX⟩:=zM (c.toNat:Nat);have HL:Hid (aU c=(decide (48≤X)&&decide (X≤57))):=by show _=_;rw[HX.out];rfl
 have hX:X<256:=by rw[HX.out];exact UInt8.toNat_lt _
 rw[←HX.out,HL.out];clear HX HL;by_cases h1:48≤X
 ·go_enter Tryz.func197,Tryz.ntmps197;exact WG
 go_enter Tryz.func197,Tryz.ntmps197;exact WG
theorem ZF (l:List UInt8)(k:Nat)(h:k<(S l).size):(S l)[k]'h=l.getD k 0:=by
 have hk:k<l.length:=by rw[←fO];exact h
 have e:(S l)[k]'h=l[k]'hk:=rfl;rw[e];simp[hk]
theorem VG {p:UInt8→Bool}(hlt:k<l.length)(h:p (l.getD k 0)=true):((l.drop k).takeWhile p).length=1+((l.drop (k+1)).takeWhile p).length:=by
 have e:l.getD k 0=l[k]:=by simp[hlt]
 rw[uQ hlt,bR,zF (by rw[←e];exact h)];simp;omega
theorem D9c {p:UInt8→Bool}(hlt:k<l.length)(h:p (l.getD k 0)=false):((l.drop k).takeWhile p).length=0:=by
 have e:l.getD k 0=l[k]:=by simp[hlt]
 rw[uQ hlt,bR,zC (by rw[←e,h];simp)];rfl
theorem B3w (l:List UInt8)(hl:l.length≤9223372036854775807)(w:World):Calls Tryz.prog 154 #[.string (S l)] w fun e w'=>e = .returned (.int .i64 (qT l:Int))∧w=w':=by
 have hsz:=fO l;have ac:=sL l;cases l with
 | nil=>
  go_enter Tryz.func154,Tryz.ntmps154;go_wp2;go_ret;exact⟨rfl,rfl⟩
 | cons c r=>
 have ah:(S (c::r)).toList.isEmpty=false:=by rw[sL];rfl
 by_cases h0:qN c=true
 ·have HW:Hid (qT (c::r)=1+((c::r).drop 1 |>.takeWhile rK).length):=by show _=_;simp[qT,h0]
  have hL:∀ h,qN ((S (c::r))[0]'h)=true:=by intro h;rw[ZF];exact h0
  obtain⟨l,Hl⟩:=zM (c::r);rw[←Hl.out] at HW hL ah ac hsz hl ⊢;have hlen:1≤l.length:=by rw[Hl.out];simp
  clear Hl h0 ac;go_enter Tryz.func154,Tryz.ntmps154;go_wp2_with fail
  refine(SJ _ _).mono ?_;rintro e w1 ⟨rfl,rfl⟩;rw[hL];clear hL;go_wp2;go_loop [3] (fun n=>∃ k:Nat,1≤k∧k≤l.length∧n = .int .i64 k∧Hid (qT l=k+((l.drop k).takeWhile rK).length)) (fun n=>l.length-(intOf n).toNat)
  case atStart=>exact⟨1,zG _,hlen,rfl,HW⟩
  obtain⟨k,aj,hk,rfl,HR⟩:=hrel;by_cases hlt:k<l.length
  ·have hx:=ZF l k;obtain⟨x,Hx⟩:=zM (l.getD k 0);have ak:∀ h,(S l)[k]'h=x:=by intro h;rw[ZF,Hx.out]
   clear hx;go_wp2_with fail
   refine(SJ _ _).mono ?_;rintro e w1 ⟨rfl,rfl⟩;by_cases h1:qN x=true
   ·rw[h1];go_wp2;go_round
    case rel=>exact⟨k+1,by omega,by omega,by go_num,by show _=_;rw[HR.out,VG hlt (by rw[←Hx.out];simp[rK,h1])];omega⟩
    case measure=>simp[intOf];omega
   rw[gN.2 h1];go_wp2_with fail
   refine(C0j _ _).mono ?_;rintro e w1 ⟨rfl,rfl⟩;by_cases h2:aU x=true
   ·rw[h2];go_wp2;go_round
    case rel=>exact⟨k+1,by omega,by omega,by go_num,by show _=_;rw[HR.out,VG hlt (by rw[←Hx.out];simp[rK,h2])];omega⟩
    case measure=>simp[intOf];omega
   rw[gN.2 h2];by_cases h3:x.toNat=95
   ·have ag:((x.toNat:Int)==95)=true:=beq_iff_eq.2 (by omega);go_wp2;go_round
    case rel=>exact⟨k+1,by omega,by omega,by go_num,by show _=_;rw[HR.out,VG hlt (by rw[←Hx.out];simp[rK,h3])];omega⟩
    case measure=>simp[intOf];omega
   have ag:((x.toNat:Int)==95)=false:=beq_eq_false_iff_ne.2 (by omega);have h4:rK x=false:=by simp[rK,gN.2 h1,gN.2 h2,h3]
   go_wp2;go_ret;refine⟨oA ?_,rfl⟩;rw[HR.out,D9c hlt (by rw[←Hx.out];exact h4)];simp
  go_wp2;go_ret;refine⟨oA ?_,rfl⟩;rw[HR.out,sF (by omega)];simp
 have hL:∀ h,qN ((S (c::r))[0]'h)=false:=by intro h;rw[ZF];exact gN.2 h0
 have HW:Hid (qT (c::r)=0):=by show _=_;simp[qT,h0]
 go_enter Tryz.func154,Tryz.ntmps154;go_wp2_with fail
 refine(SJ _ _).mono ?_;rintro e w1 ⟨rfl,rfl⟩;rw[hL];clear hL;go_wp2;go_ret;exact⟨oA (by rw[HW.out];rfl),rfl⟩
structure EK (α:Type) where
 elem:TypeId
 slice:TypeId
 size:Nat
 bytes:Nat
 zero:Value
 enc : α→List Value
 under:Tryz.prog.underlying slice=some (.slice elem)
 info:(Tryz.prog.info? elem).map (fun i=>(i.zero,i.size,i.bytes))=some (some zero,size,bytes)
 zs:zero.cells.size=size
 pos:0<size
 small:bytes≤1000
 len:∀ a,(enc a).length=size
 one:∀ a,∀ u∈enc a,u.oneCell'=true
def EK.flat {α:Type}(E:EK α)(l:List α):List Value:=l.flatMap E.enc
theorem EK.flat_len (E:EK α)(l:List α):(E.flat l).length=l.length*E.size:=by
 unfold EK.flat
 induction l with
 | nil=>simp
 | cons a r ih=>rw[rC,yQ,ih,E.len,sQ,iC,Nat.add_comm]
theorem EK.flat_append (E:EK α)(l m:List α):E.flat (l++m)=E.flat l++E.flat m:=by simp[EK.flat]
theorem EK.flat_at (E:EK α)(l:List α)(i j:Nat)(a : α)(h:l[i]?=some a)(hj:j<E.size):(E.flat l)[i*E.size+j]?=(E.enc a)[j]?:=by
 unfold EK.flat
 induction l generalizing i with
 | nil=>simp at h
 | cons q r ih=>
 rw[rC];cases i with
 | zero=>
  simp at h;subst h;rw[jZ,tU,gM (by rw[E.len];exact hj)]
 | succ i=>
 have h':r[i]?=some a:=by simpa using h
 rw[←ih i h',show(i+1)*E.size+j=(E.enc q).length+(i*E.size+j) by rw[E.len,iC];omega,
  gL (Nat.le_add_right _ _),kD]
def Row {α:Type}(E:EK α)(w:World)(base:Nat)(v:Value)(l:List α):Prop:=w.ownsRow base E.elem E.size v l.length (E.flat l)
section
variable{base':Nat}{o:Oper}{a:Act}{Q:Exit→Act→World→Prop}
variable {α:Type}{E:EK α}{w w':World}{base b:Nat}{v:Value}{l:List α}
theorem Row.nil (E:EK α)(w:World)(base:Nat):Row E w base (.slice none 0 0) []:=jY _ _ _ _
theorem Row.keep (h:Row E w base v l)(hb:∀ k,base≤k→k<w.heap.size→w'.heap[k]?=w.heap[k]?):Row E w' base v l:=by
 refine⟨h.1,?_⟩;rcases h.2 with hn|⟨g,cap,cur,hv,hbg,hg,r⟩
 ·exact .inl hn
 exact .inr ⟨g,cap,cur,hv,hbg,by rw[hb g hbg (zR hg)];exact hg,r⟩
theorem Row.bL (h:Row E w base v l)(hk:zB w w'):Row E w' base v l:=h.keep fun k _ h2=>hk.block k h2
theorem Row.mono (h:Row E w base v l)(hb:base'≤base):Row E w base' v l:=by
 refine⟨h.1,?_⟩;rcases h.2 with hn|⟨g,cap,cur,hv,hbg,r⟩
 ·exact .inl hn
 exact .inr ⟨g,cap,cur,hv,yN hb hbg,r⟩
theorem Row.own (h:Row E w base v l):∀ k,v.ownBlock=some k→base≤k∧k<w.heap.size:=World.ownsRow.lt h
theorem Row.ne {β:Type}{F:EK β}{v':Value}{l':List β}(h:Row E w base v l)(h':Row F w base' v' l')(hne:E.elem≠F.elem):v.ownBlock=none∨v.ownBlock≠v'.ownBlock:=by
 rcases h.2 with⟨hv,_⟩|⟨g,cap,cur,hv,_,hg,_⟩
 ·left;rw[hv];rfl
 rcases h'.2 with⟨hv',_⟩|⟨g',cap',cur',hv',_,hg',_⟩
 ·right;rw[hv,hv'];simp[Value.ownBlock]
 right;rw[hv,hv'];simp only[Value.ownBlock,ne_eq,Option.some.injEq];intro e;rw[e,hg'] at hg;simp at hg;exact hne hg.2.symm
theorem Row.grown {row:Option Nat}(h:Row E w base v l)(hg:w.grownBy w' row)(hne:v.ownBlock=none∨v.ownBlock≠row):Row E w' base v l:=World.ownsRow.kept h hg hne
theorem Row.sH (h:Row E w base v l):∃ ao cap,v = .slice ao l.length cap:=by
 rcases h.2 with⟨hv,hn⟩|⟨g,cap,cur,hv,_⟩
 ·exact⟨none,0,by rw[hv,hn]⟩
 exact⟨_,cap,hv⟩
theorem Row.one (E:EK α)(w:World)(a : α)(hb:base≤w.heap.size):Row E (w.alloc (.cells (E.enc a).toArray E.elem)) base (.slice (some ⟨w.heap.size,0,none⟩) 1 1) [a]:=by
 refine⟨E.flat_len [a],.inr ⟨w.heap.size,1,_,rfl,hb,yM w _,zG _,by unfold maxLen;omega,by simp[E.len],?_⟩⟩;have:(E.enc a).length=([a]:List α).length*E.size:=by rw[E.len];simp
 simp only[EK.flat,rC,mE,tT];rw[←this];simp
theorem WE{P:Prop}(h:P:=by
 intro y hy;simp only[EK.flat,vL] at hy;obtain⟨p,hp,hy⟩:=hy;exact E.one p y hy):P:=h
theorem aM{P:Prop}(h:P:=by
 unfold Oper.wp;simp[execOp,ho,resolve,invoke,builtin,hs,hx,hrun,Result.andThen];exact h v w (by rw[tT];exact hown) ⟨rfl,rfl,rfl,zG _,fun _ _ _=>rfl⟩):P:=h
theorem E0h {K:Act→World→Prop}(E:EK α)(s x:Operand)
  (ho:o.op = .call { callee:=.builtin .append,args:=#[s,x],argTypes:=#[E.slice,E.slice] })
  (base:Nat) (v:Value) (l m:List α) (hs:a.eval s=v) (hown:Row E w base v l) (base':Nat) (u:Value) (hx:a.eval x=u) (ac:Row E w base' u m)
  (hlen:l.length+m.length≤1000000) (hb:base≤w.heap.size)
  (h:∀ v' w',Row E w' base v' (l++m)→w.grownBy w' v.ownBlock→K (a.put o.dst v') w'):o.wp Tryz.prog a w K Q:=by
 obtain⟨i0,hi,hz0,hz1,hz2⟩:=info_parts E.info;rcases ac.2 with⟨hu,hn⟩|⟨g,cap,cur,hu,hbg,hg,hn,hm,hsz,ht⟩
 ·have ag:=uE hn;subst ag;have hrun:=run_append_owned_none (P:=Tryz.prog) (w:=w) base E.slice o.type E.elem i0 E.size E.under hi v l.length (E.flat l) hown;rw[hu] at hx;exact aM
 ·rw[hu] at hx;refine wp_append_own w s x E.slice ho base E.elem i0 _ E.size E.bytes E.under hi hz0 hz1 hz2 E.zs E.pos v l.length _ hs hown ⟨g,0,none⟩ m.length cap
   (E.flat m) hx (E.flat_len m) (World.ownsRow.cells ac (g:=g) (by rw[hu];rfl)) ?_ (by unfold maxLen;omega) ?_ hb ?_
  ·exact WE
  ·exact yN (Nat.mul_le_mul hlen E.small) (by decide)
  ·intro v' w' h1 h2 _;refine h v' w' ?_ h2;show w'.ownsRow base E.elem E.size v' (l++m).length (E.flat (l++m));rw[yQ,E.flat_append];exact h1
theorem cQ {ops:Array Oper}{rest:List Oper}(hgd:o.guard=none)(E:EK α)(s x:Operand)
  (ho:o.op = .call { callee:=.builtin .append,args:=#[s,x],argTypes:=#[E.slice,E.slice] })
  (base:Nat) (v:Value) (l m:List α) (hs:a.eval s=v) (hown:Row E w base v l) (base':Nat) (u:Value) (hx:a.eval x=u) (ac:Row E w base' u m)
  (hlen:l.length+m.length≤1000000) (hb:base≤w.heap.size)
  (h:∀ v' w',Row E w' base v' (l++m)→w.grownBy w' v.ownBlock→wpList Tryz.prog ops Q rest (a.put o.dst v') w'):wpList Tryz.prog ops Q (o::rest) a w:=
 wpList_plain hgd fun _ hK=>E0h E s x ho base v l m hs hown base' u hx ac hlen hb fun v' w' h2 h3=>hK _ _ (h v' w' h2 h3)
end
variable{α:Type}{a1 a2 v a0:Value}{sz k base g cap b o n:Nat}{l:List (List UInt8)}{ao:Option Addr}{w' w:World}{cs:Array Value}{t:TypeId}{a:α}
def iS:Array Value:=(pO.map fun l=>Value.string (S l)).toArray
theorem D2n (w:World):Calls Tryz.prog 155 #[] w fun e w'=>e = .returned (.slice (some ⟨w.heap.size,0,none⟩) 9 9)∧w.alloc (.cells iS 9)=w':=by
 go_enter Tryz.func155,Tryz.ntmps155;go_wp2;go_ret;exact⟨rfl,rfl⟩
theorem B9h (k:Nat)(hk:k<9):iS[k]?=some (.string (S (pO.getD k []))):=by
 have:k<pO.length:=hk;simp[iS,this]
theorem zL {fr:Nat×Nat}(h:w.heap[g]?=some (.cells cs t fr))(i:Nat)(v:Value)(hi:cs[i]?=some v):w.cell? ⟨g,i,none⟩=some v:=by
 simp[World.cell?,h,hi]
theorem zJ (h:w.heap[g]?=some (.cells cs t (0,0)))(i:Nat):w.frozen? ⟨g,i,none⟩=false:=by
 simp[World.frozen?,h]
theorem pX (w:World)(o o':Obj):((w.alloc o).alloc o').heap[w.heap.size+1]?=some o':=by
 have:=yM (w.alloc o) o'
 rwa [show(w.alloc o).heap.size=w.heap.size+1 by simp] at this
theorem oP (w:World)(o o':Obj):((w.alloc o).alloc o').heap[w.heap.size]?=some o:=by
 rw[wT _ _ _ (by simp)];exact yM w o
theorem tW {a3 a4 a5:Value}(h:w.heap[g]?=some (.cells #[a0,a1,a2,a3,a4,a5] t (0,0))) :
  w.cell? ⟨g,0,none⟩=some a0∧w.cell? ⟨g,1,none⟩=some a1∧w.cell? ⟨g,2,none⟩=some a2∧w.cell? ⟨g,3,none⟩=some a3∧w.cell? ⟨g,4,none⟩=some a4∧w.cell? ⟨g,5,none⟩=some a5:=
 ⟨zL h 0 _ rfl,zL h 1 _ rfl,zL h 2 _ rfl,zL h 3 _ rfl,zL h 4 _ rfl,zL h 5 _ rfl⟩
theorem zO (h:w.heap[g]?=some (.cells #[a0,a1] t (0,0))) :
  w.cell? ⟨g,0,none⟩=some a0∧w.cell? ⟨g,1,none⟩=some a1:=⟨zL h 0 _ rfl,zL h 1 _ rfl⟩
theorem uG (h:w.heap[g]?=some (.cells #[a0,a1,a2] t (0,0))) :
  w.cell? ⟨g,0,none⟩=some a0∧w.cell? ⟨g,1,none⟩=some a1∧w.cell? ⟨g,2,none⟩=some a2:=⟨zL h 0 _ rfl,zL h 1 _ rfl,zL h 2 _ rfl⟩
theorem Row.other {E:EK α}{l:List α}(h:Row E w base v l)(hne:v.ownBlock≠some g)(i:Nat)(x:Value):Row E (w.setCell ⟨g,i,none⟩ x) base v l:=by
 refine⟨h.1,?_⟩;rcases h.2 with hn|⟨g',cap,cur,hv,hbg,hg,r⟩
 ·exact .inl hn
 refine .inr ⟨g',cap,cur,hv,hbg,?_,r⟩;rw[zZ _ _ _ _ (by intro e;apply hne;rw[hv];simp[Value.ownBlock];exact e)];exact hg
theorem Row.ne_blk {E:EK α}{l:List α}(h:Row E w base v l){fr:Nat×Nat}(hb:w.heap[g]?=some (.cells cs t fr))(ht:t≠E.elem):v.ownBlock≠some g:=by
 rcases h.2 with⟨hv,_⟩|⟨g',cap,cur,hv,_,hg,_⟩
 ·rw[hv];simp[Value.ownBlock]
 rw[hv];simp only[Value.ownBlock,ne_eq,Option.some.injEq];intro e;rw[e,hb] at hg;simp at hg;exact ht hg.2.1
theorem xS (b o i:Nat):(⟨b,o,none⟩:Addr).add i=⟨b,o+i,none⟩:=by unfold Addr.add;split <;> simp_all
theorem Row.get {E:EK α}{l:List α}(h:Row E w base (.slice ao n cap) l)(ha:l[k]?=some a) :
  ∃ g,ao=some ⟨g,0,none⟩∧∀ j u,(E.enc a)[j]?=some u→w.cell? ⟨g,k*E.size+j,none⟩=some u:=by
 rcases h.2 with⟨hv,hn⟩|⟨g,cap',cur,hv,hbg,hg,r⟩
 ·rw[uE hn] at ha;simp at ha
 simp at hv;obtain⟨rfl,rfl,rfl⟩:=hv;refine⟨g,rfl,?_⟩;intro j u hu;have hj:j<E.size:=by
  rw[←E.len a];rcases mW j (E.enc a).length with h1|h1
  ·exact h1
  rw[eN h1] at hu;cases hu
 have:=World.ownsRow.cells h (g:=g) rfl (k*E.size+j) u (by rw[E.flat_at l k j a ha hj];exact hu);rw[xS,tU] at this;exact this
theorem Row.len {E:EK α}{l:List α}(h:Row E w base (.slice ao n cap) l):n=l.length:=by
 obtain⟨ac,cap',e⟩:=h.sH;simp at e;exact e.2.1
structure FI where
 name:List UInt8
 nU:Int
 kind:Int
 type:List UInt8
 many:Bool
 cE:Int
deriving DecidableEq
structure MI where
 name:List UInt8
 fD:List FI
 barred:List Int
deriving DecidableEq
structure II where
 name:List UInt8
 value:Int
deriving DecidableEq
structure EI where
 name:List UInt8
 items:List II
deriving DecidableEq
structure GI where
 mG:List MI
 enums:List EI
deriving DecidableEq
def RdL {α:Type}(sz:Nat)(P:World→Addr→α→Prop)(w:World)(v:Value)(l:List α):Prop:=
 ∃ ao n cap,v = .slice ao n cap∧l.length=n∧n≤cap∧cap≤maxLen∧(ao=none→n=0∧cap=0)∧∀ x,ao=some x→∀ k a,l[k]?=some a→P w (x.add (k*sz)) a
def fJ {α:Type}(P:World→Addr→α→Prop):Prop:=∀ (w w':World) (x:Addr) (a : α),zB w w'→P w x a→P w' x a
theorem zQ {x:Addr}(hb:zB w w')(h:w.cell? x=some v):w'.cell? x=some v:=by
 rw[hb.cell (mD w x h)];exact h
theorem RdL.bL {P:World→Addr→α→Prop}(hP:fJ P){l:List α}(h:RdL sz P w v l)(hb:zB w w'):RdL sz P w' v l:=by
 obtain⟨ao,n,cap,rfl,h1,h2,h3,h4,h5⟩:=h;exact⟨ao,n,cap,rfl,h1,h2,h3,h4,fun x hx k a ha=>hP w w' _ a hb (h5 x hx k a ha)⟩
theorem RdL.nil (sz:Nat)(P:World→Addr→α→Prop)(w:World):RdL sz P w (.slice none 0 0) []:=⟨none,0,0,rfl,rfl,zG _,by unfold maxLen;omega,fun _=>⟨rfl,rfl⟩,fun x hx=>by cases hx⟩
def SAt (w:World)(x:Addr)(s:List UInt8):Prop:=w.cell? x=some (.string (S s))
def NAt (w:World)(x:Addr)(n:Int):Prop:=w.cell? x=some (.int .i64 n)
def FAt (w:World)(x:Addr)(f:FI):Prop:=w.cell? x=some (.string (S f.name))∧w.cell? (x.add 1)=some (.int .i64 f.nU)∧w.cell? (x.add 2)=some (.int .i64 f.kind)∧w.cell? (x.add 3)=some (.string (S f.type))∧w.cell? (x.add 4)=some (.bool f.many)∧w.cell? (x.add 5)=some (.int .i64 f.cE)
def TAt (w:World)(x:Addr)(i:II):Prop:=w.cell? x=some (.string (S i.name))∧w.cell? (x.add 1)=some (.int .i64 i.value)
theorem SAt.sT:fJ SAt:=fun _ _ _ _ hb h=>zQ hb h
theorem NAt.sT:fJ NAt:=fun _ _ _ _ hb h=>zQ hb h
theorem FAt.sT:fJ FAt:=fun _ _ _ _ hb h=>⟨zQ hb h.1,zQ hb h.2.1,zQ hb h.2.2.1,zQ hb h.2.2.2.1,zQ hb h.2.2.2.2.1,zQ hb h.2.2.2.2.2⟩
theorem TAt.sT:fJ TAt:=fun _ _ _ _ hb h=>⟨zQ hb h.1,zQ hb h.2⟩
def MAt (w:World)(x:Addr)(m:MI):Prop:=∃ vf vb,w.cell? x=some (.string (S m.name))∧w.cell? (x.add 1)=some vf∧w.cell? (x.add 2)=some vb∧RdL 6 FAt w vf m.fD∧RdL 1 NAt w vb m.barred
def EAt (w:World)(x:Addr)(e:EI):Prop:=∃ vi,w.cell? x=some (.string (S e.name))∧w.cell? (x.add 1)=some vi∧RdL 2 TAt w vi e.items
theorem MAt.sT:fJ MAt:=fun _ _ _ _ hb ⟨vf,vb,h1,h2,h3,h4,h5⟩=>⟨vf,vb,zQ hb h1,zQ hb h2,zQ hb h3,h4.bL FAt.sT hb,h5.bL NAt.sT hb⟩
theorem EAt.sT:fJ EAt:=fun _ _ _ _ hb ⟨vi,h1,h2,h3⟩=>⟨vi,zQ hb h1,zQ hb h2,h3.bL TAt.sT hb⟩
def GRd (w:World)(vm ve:Value)(g:GI):Prop:=RdL 3 MAt w vm g.mG∧RdL 2 EAt w ve g.enums
theorem GRd.bL {vm ve:Value}{g:GI}(h:GRd w vm ve g)(hb:zB w w'):GRd w' vm ve g:=⟨h.1.bL MAt.sT hb,h.2.bL EAt.sT hb⟩
def E1o (l:List UInt8):List Value:=[.string (S l)]
def ekS:EK (List UInt8) where
 elem:=9
 slice:=85
 size:=1
 bytes:=16
 zero:=.string ⟨#[]⟩
 enc:=E1o
 under:=Tryz.underlying85
 info:=by kernel_rfl
 zs:=rfl
 pos:=by decide
 small:=by decide
 len:=fun _=>rfl
 one:=by intro a u hu;simp only[E1o,zS] at hu;subst hu;rfl
def gY (n:Int):List Value:=[.int .i64 n]
def ekN:EK Int where
 elem:=3
 slice:=33
 size:=1
 bytes:=8
 zero:=.int .i64 0
 enc:=gY
 under:=Tryz.underlying33
 info:=by kernel_rfl
 zs:=rfl
 pos:=by decide
 small:=by decide
 len:=fun _=>rfl
 one:=by intro a u hu;simp only[gY,zS] at hu;subst hu;rfl
theorem Row.rd {E:EK α}{l:List α}(h:Row E w base v l)(P:World→Addr→α→Prop)(hP:∀ g i a,(∀ j u,(E.enc a)[j]?=some u→w.cell? ⟨g,i+j,none⟩=some u)→P w ⟨g,i,none⟩ a):RdL E.size P w v l:=by
 obtain⟨ao,cap,rfl⟩:=h.sH;refine⟨ao,l.length,cap,rfl,rfl,?_,?_,?_,?_⟩
 ·rcases h.2 with⟨hv,hn⟩|⟨g,cap',cur,hv,_,_,hc,_⟩
  ·simp at hv;omega
  simp at hv;omega
 ·rcases h.2 with⟨hv,hn⟩|⟨g,cap',cur,hv,_,_,_,hm,_⟩
  ·simp at hv;unfold maxLen;omega
  simp at hv;rw[hv.2];exact hm
 ·intro e;subst e;rcases h.2 with⟨hv,hn⟩|⟨g,cap',cur,hv,_⟩
  ·simp at hv;exact⟨hn,hv.2⟩
  simp at hv
 intro x hx k a ha;obtain⟨g,hg,hc⟩:=h.get ha;rw[hx] at hg;cases hg
 rw[xS,tU];exact hP g _ a hc
theorem Row.rdS (h:Row ekS w base v l):RdL 1 SAt w v l:=h.rd SAt fun g i a hc=>by have:=hc 0 _ rfl;simpa [SAt] using this
theorem Row.rdN {l:List Int}(h:Row ekN w base v l):RdL 1 NAt w v l:=h.rd NAt fun g i a hc=>by have:=hc 0 _ rfl;simpa [NAt] using this
def qQ {α:Type}(P:World→Addr→α→Prop):Prop:=∀ (w:World) (b off:Nat) (spot:_) (a : α),P w ⟨b,off,spot⟩ a→spot=none
theorem RdL.get {P:World→Addr→α→Prop}(hP:qQ P){l:List α}(h:RdL sz P w (.slice ao n cap) l)(ha:l[k]?=some a) :
  ∃ b off,ao=some ⟨b,off,none⟩∧P w ⟨b,off+k*sz,none⟩ a:=by
 obtain⟨ag,n',cap',e,h1,h2,h3,h4,h5⟩:=h;cases e
 cases ao with
 | none=>
  have h0:=(h4 rfl).1;rw[uE (h1.trans h0)] at ha;simp at ha
 | some x=>
 obtain⟨b,off,spot⟩:=x;have hl:=Nat.lt_of_le_of_lt (qA k) (yG.1 ha).1;have ac:=h5 _ rfl 0 _ (vG hl);have e0:(⟨b,off,spot⟩:Addr).add (0*sz)=⟨b,off,spot⟩:=by simp[Addr.add]
 rw[e0] at ac;have hs:=hP _ _ _ _ _ ac;subst hs;have hp:=h5 _ rfl k a ha;rw[xS] at hp;exact⟨b,off,rfl,hp⟩
theorem RdL.len {P:World→Addr→α→Prop}{l:List α}(h:RdL sz P w (.slice ao n cap) l):n=l.length∧n≤cap∧cap≤maxLen:=by
 obtain⟨ac,n',cap',e,h1,h2,h3,_⟩:=h;cases e
 exact⟨h1.symm,h2,h3⟩
theorem RdL.sH {P:World→Addr→α→Prop}{l:List α}(h:RdL sz P w v l):∃ ao n cap,v = .slice ao n cap∧Hid (n=l.length)∧n≤9223372036854775807:=by
 obtain⟨ao,n,cap,e,h1,h2,h3,_⟩:=h;exact⟨ao,n,cap,e,h1.symm,by unfold maxLen at h3;omega⟩
theorem pV {off:Nat}{spot:_}(h:w.cell? ⟨b,off,spot⟩=some v):spot=none:=World.cell?_spot h
theorem SAt.plain:qQ SAt:=fun _ _ _ _ _ h=>pV h
theorem NAt.plain:qQ NAt:=fun _ _ _ _ _ h=>pV h
theorem FAt.plain:qQ FAt:=fun _ _ _ _ _ h=>pV h.1
theorem TAt.plain:qQ TAt:=fun _ _ _ _ _ h=>pV h.1
theorem MAt.plain:qQ MAt:=fun _ _ _ _ _ ⟨_,_,h,_⟩=>pV h
theorem EAt.plain:qQ EAt:=fun _ _ _ _ _ ⟨_,h,_⟩=>pV h
theorem FAt.at {f:FI}(h:FAt w ⟨b,o,none⟩ f):w.cell? ⟨b,o,none⟩=some (.string (S f.name))∧w.cell? ⟨b,o+1,none⟩=some (.int .i64 f.nU)∧w.cell? ⟨b,o+2,none⟩=some (.int .i64 f.kind)∧w.cell? ⟨b,o+3,none⟩=some (.string (S f.type))∧w.cell? ⟨b,o+4,none⟩=some (.bool f.many)∧w.cell? ⟨b,o+5,none⟩=some (.int .i64 f.cE):=by
 simp only[FAt,xS] at h;exact h
theorem TAt.at {f:II}(h:TAt w ⟨b,o,none⟩ f):w.cell? ⟨b,o,none⟩=some (.string (S f.name))∧w.cell? ⟨b,o+1,none⟩=some (.int .i64 f.value):=by
 simp only[TAt,xS] at h;exact h
theorem MAt.at {m:MI}(h:MAt w ⟨b,o,none⟩ m):∃ vf vb,w.cell? ⟨b,o,none⟩=some (.string (S m.name))∧w.cell? ⟨b,o+1,none⟩=some vf∧w.cell? ⟨b,o+2,none⟩=some vb∧RdL 6 FAt w vf m.fD∧RdL 1 NAt w vb m.barred:=by
 simp only[MAt,xS] at h;exact h
theorem EAt.at {m:EI}(h:EAt w ⟨b,o,none⟩ m):∃ vi,w.cell? ⟨b,o,none⟩=some (.string (S m.name))∧w.cell? ⟨b,o+1,none⟩=some vi∧RdL 2 TAt w vi m.items:=by
 simp only[EAt,xS] at h;exact h
theorem vX {l:List α}(h:l[k]?=some a):l.take (k+1)=l.take k++[a]:=by rw[mV,h];rfl
theorem uO {l:List α}(h:l[k]?=some a):a∈l:=xV h
theorem kK{P:Prop}(h:P:=by
 have ag:(k:Int)<(n:Int):=by omega
 by_cases hxa:x=a
 ·have HM:Hid (x∈l):=by show _∈_;rw[hxa];exact uO Ha.out
  have hb:(x==a)=true:=by simp[hxa]
  clear hxa;go_wp2;go_ret;exact⟨_,rfl,by simp[HM.out],rfl⟩
 have hb:(x==a)=false:=by simp[hxa]
 have HX:Hid (x∉l.take (k+1)):=by
  show ¬ _;rw[vX Ha.out];simp[hxa];exact HK.out
 clear hxa;go_wp2_with fail
 go_roundg (n-(k+1))
 case measure=>omega
 case rel=>exact⟨k+1,by omega,by go_num,HX,rfl⟩):P:=h
theorem eZ{P:Prop}(h:P:=by
 have HX:Hid (x∉l):=by show ¬ _;have:=HK.out;rwa [uP (by rw[←Hn.out];omega)] at this
 go_wp2;go_ret;exact⟨_,rfl,by simp[HX.out],rfl⟩):P:=h
theorem C4y (h:RdL 1 SAt w v l)(x:List UInt8) :
  Calls Tryz.prog 195 #[v,.string (S x)] w fun e w'=>∃ r:Int,e = .returned (.int .i64 r)∧decide (0≤r)=decide (x∈l)∧w=w':=by
 obtain⟨ao,n,cap,rfl,Hn,ac⟩:=h.sH;have hl:=sL x;go_enter Tryz.func195,Tryz.ntmps195;go_wp2_with fail
 go_loopg [8] n (fun m i wr=>∃ k:Nat,k+m=n∧i = .int .i64 k∧Hid (x∉l.take k)∧w=wr)
 case atStart=>exact⟨0,by omega,rfl,by show ¬ _;simp,rfl⟩
 obtain⟨k,hk,rfl,HK,rfl⟩:=hrel;by_cases hlt:k<n
 ·obtain⟨a,Ha⟩:=yE (l:=l) (k:=k) (by rw[←Hn.out];exact hlt);obtain⟨b,off,rfl,hc⟩:=h.get SAt.plain Ha.out;have hc:w.cell? ⟨b,off+k*1,none⟩=some (.string (S a)):=hc;rw[tS] at hc;have ah:=sL a;exact kK
 exact eZ
def I64 (n:Int):Prop:=-9223372036854775808≤n∧n≤9223372036854775807
theorem C4x {l:List Int}(h:RdL 1 NAt w v l)(x:Int) :
  Calls Tryz.prog 200 #[v,.int .i64 x] w fun e w'=>∃ r:Int,e = .returned (.int .i64 r)∧decide (0≤r)=decide (x∈l)∧w=w':=by
 obtain⟨ao,n,cap,rfl,Hn,ac⟩:=h.sH;go_enter Tryz.func200,Tryz.ntmps200;go_wp2_with fail
 go_loopg [8] n (fun m i wr=>∃ k:Nat,k+m=n∧i = .int .i64 k∧Hid (x∉l.take k)∧w=wr)
 case atStart=>exact⟨0,by omega,rfl,by show ¬ _;simp,rfl⟩
 obtain⟨k,hk,rfl,HK,rfl⟩:=hrel;by_cases hlt:k<n
 ·obtain⟨a,Ha⟩:=yE (l:=l) (k:=k) (by rw[←Hn.out];exact hlt);obtain⟨b,off,rfl,hc⟩:=h.get NAt.plain Ha.out;have hc:w.cell? ⟨b,off+k*1,none⟩=some (.int .i64 a):=hc;rw[tS] at hc;exact kK
 exact eZ
theorem kJ{P:Prop}(h:P:=by
 go_wp2_with fail
 refine hi.mono ?_;rintro e w1 ⟨r,rfl,hr,rfl⟩;have HR:=zI hr;clear hr hi;go_wp2;go_ret;exact⟨nQ HR.out,rfl⟩):P:=h
theorem A8v (h:RdL 1 SAt w v l)(x:List UInt8) :
  Calls Tryz.prog 153 #[v,.string (S x)] w fun e w'=>e = .returned (.bool (decide (x∈l)))∧w=w':=by
 have hi:=C4y h x;go_enter Tryz.func153,Tryz.ntmps153;exact kJ
theorem SK {l:List Int}(h:RdL 1 NAt w v l)(x:Int) :
  Calls Tryz.prog 163 #[v,.int .i64 x] w fun e w'=>e = .returned (.bool (decide (x∈l)))∧w=w':=by
 have hi:=C4x h x;go_enter Tryz.func163,Tryz.ntmps163;exact kJ
def sM (l:List UInt8):Bool:=!l.isEmpty&&(decide (l.length≤16)&&decide (qT l=l.length))
theorem TG (l:List UInt8)(hl:l.length≤9223372036854775807)(w:World) :
  Calls Tryz.prog 91 #[.string (S l)] w fun e w'=>e = .returned (.bool (sM l))∧w=w':=by
 have hsz:=fO l;obtain⟨E,hE⟩:∃ E,(S l).toList.isEmpty=E:=⟨_,rfl⟩
 obtain⟨Q,HQ⟩:=zM (decide (qT l=l.length));have HR:Hid (sM l=(!E&&(decide (l.length≤16)&&Q))):=by show _=_;rw[sM,←hE,HQ.out,sL]
 have ac:=B3w l hl w;have HB:Hid (((qT l:Int)==(l.length:Int))=Q):=by show _=_;rw[HQ.out,uR];simp;omega
 generalize qT l=W at ac HB;have hB:=HB.out;cases E with
 | true=>
  go_enter Tryz.func91,Tryz.ntmps91;go_wp2;go_ret;exact⟨by rw[HR.out];rfl,rfl⟩
 | false=>
 by_cases h16:l.length≤16
 ·have ag:((l.length:Nat):Int)≤16:=by omega
  go_enter Tryz.func91,Tryz.ntmps91;go_wp2_with fail
  refine ac.mono ?_;rintro e w1 ⟨rfl,rfl⟩;cases Q
  all_goals go_wp2
  all_goals go_ret
  all_goals exact⟨by rw[HR.out];simp[h16],rfl⟩
 have ag:¬ ((l.length:Nat):Int)≤16:=by omega
 go_enter Tryz.func91,Tryz.ntmps91;go_wp2;go_ret;exact⟨by rw[HR.out];simp[h16],rfl⟩
theorem D9f (w:World):RdL 1 SAt (w.alloc (.cells iS 9)) (.slice (some ⟨w.heap.size,0,none⟩) 9 9) pO:=by
 refine⟨_,9,9,rfl,rfl,zG _,by unfold maxLen;omega,fun h=>(by cases h),?_⟩;intro x hx k a ha;cases hx
 have hk:k<9:=(yG.1 ha).1;rw[xS,tU,tS];have e:pO.getD k []=a:=by rw[pG,ha];rfl
 exact zL (yM w _) k _ (by rw[B9h k hk,e])
def keptB (s:List UInt8):Bool:=decide (s=jI)||(decide (s=jH)||(decide (s=kY)||decide (s∈pO)))
theorem C5a (s:List UInt8)(w:World):Calls Tryz.prog 92 #[.string (S s)] w fun e w'=>e = .returned (.bool (keptB s))∧zB w w':=by
 obtain⟨q1,aj⟩:∃ q,((S s).toList == [114,101,112,101,97,116,101,100])=q:=⟨_,rfl⟩
 obtain⟨q2,ak⟩:∃ q,((S s).toList == [114,101,115,101,114,118,101,100])=q:=⟨_,rfl⟩
 obtain⟨q3,au⟩:∃ q,((S s).toList == [111,110,101,111,102])=q:=⟨_,rfl⟩
 have HC:Hid (keptB s=(q1||(q2||(q3||decide (s∈pO))))):=by
  show _=_;rw[←aj,←ak,←au,sL,uR];simp[keptB,jI,jH,kY];exact or_congr decide_eq_true_iff (or_congr decide_eq_true_iff (or_congr decide_eq_true_iff Iff.rfl))
 have ac:=A8v (D9f w) s;have ah:zB w (w.alloc (.cells iS 9)):=(zH _ _).alloc (zG _) _;have ag:=D2n w;by_cases h:(q1||(q2||q3))=true
 ·have HR:Hid (keptB s=true):=by show _=_;rw[HC.out];revert h;cases q1 <;> cases q2 <;> cases q3 <;> simp
  cases q1 <;> cases q2 <;> cases q3 <;> first|(exfalso;revert h;decide)|skip
  all_goals clear h HC ac ag
  all_goals go_enter Tryz.func92,Tryz.ntmps92
  all_goals go_wp2
  all_goals go_ret
  all_goals exact⟨by rw[HR.out];rfl,zH _ _⟩
 have HR:Hid (keptB s=decide (s∈pO)):=by show _=_;rw[HC.out];revert h;cases q1 <;> cases q2 <;> cases q3 <;> simp
 cases q1 <;> cases q2 <;> cases q3 <;> first|(exfalso;revert h;decide)|skip
 clear h HC;go_enter Tryz.func92,Tryz.ntmps92;go_wp2_with fail
 refine ag.mono ?_;rintro e w1 ⟨rfl,rfl⟩;go_wp2_with fail
 refine ac.mono ?_;rintro e w2 ⟨rfl,rfl⟩;go_wp2;go_ret;exact⟨by rw[HR.out];rfl,ah⟩
section
variable{ops:Array Oper}{o:Oper}{a:Act}{Q:Exit→Act→World→Prop}
variable {α:Type}{w:World}
theorem EK.flat_get (E:EK α){m:List α}{i:Nat}{u:Value}(h:(E.flat m)[i]?=some u):∃ y,m[i / E.size]?=some y∧(E.enc y)[i%E.size]?=some u:=by
 have hi:=(yG.1 h).1;rw[E.flat_len] at hi;have hk:i / E.size<m.length:=by rw[Nat.div_lt_iff_lt_mul E.pos];exact hi
 refine⟨m[i / E.size],vG hk,?_⟩;have:=E.flat_at m (i / E.size) (i%E.size) _ (vG hk) (Nat.mod_lt _ E.pos);rw[←this,mT,gI];exact h
theorem Qb1{P:Prop}(h:P:=by
 intro j u hu;obtain⟨y,h1,h2⟩:=E.flat_get hu;have:=hcell ad rfl _ y h1 _ u h2
 rwa [mT,gI] at this):P:=h
theorem WC{P:Prop}(h:P:=by
 show w'.ownsRow base E.elem E.size v' (l++m).length (E.flat (l++m));rw[yQ,E.flat_append,hm];exact h1):P:=h
theorem D2q {K:Act→World→Prop}(E:EK α)(s x:Operand)
  (ho:o.op = .call { callee:=.builtin .append,args:=#[s,x],argTypes:=#[E.slice,E.slice] })
  (base:Nat) (v:Value) (l m:List α) (hs:a.eval s=v) (hown:Row E w base v l) (ao:Option Addr) (n cap:Nat) (hx:a.eval x = .slice ao n cap) (hm:m.length=n) (hnil:ao=none→n=0∧cap=0)
  (hcell:∀ ad,ao=some ad→∀ k y,m[k]?=some y→∀ j u,(E.enc y)[j]?=some u→w.cell? (ad.add (k*E.size+j))=some u)
  (hby:1≤E.bytes) (hlen:(l.length+m.length)*E.bytes≤140737488355328) (hb:base≤w.heap.size)
  (h:∀ v' w',Row E w' base v' (l++m)→w.grownBy w' v.ownBlock→K (a.put o.dst v') w'):o.wp Tryz.prog a w K Q:=by
 obtain⟨i0,hi,hz0,hz1,hz2⟩:=info_parts E.info;have h63:l.length+m.length≤maxLen:=by
  have:l.length+m.length≤(l.length+m.length)*E.bytes:=Nat.le_mul_of_pos_right _ hby;unfold maxLen;omega
 cases ao with
 | none=>
  obtain⟨rfl,rfl⟩:=hnil rfl;have ac:=uE hm;subst ac;have hrun:=run_append_owned_none (P:=Tryz.prog) (w:=w) base E.slice o.type E.elem i0 E.size E.under hi v l.length (E.flat l) hown;exact aM
 | some ad=>
  refine wp_append_own w s x E.slice ho base E.elem i0 _ E.size E.bytes E.under hi hz0 hz1 hz2 E.zs E.pos v l.length _ hs hown ad n cap
   (E.flat m) hx (by rw[E.flat_len,hm]) ?_ ?_ (by rw[←hm];exact h63) (by rw[←hm];exact hlen) hb ?_
  ·exact Qb1
  ·exact WE
  ·intro v' w' h1 h2 _;refine h v' w' ?_ h2;exact WC
theorem vS {K:Act→World→Prop}{X:Prop}(hgd:o.guard=none)(E:EK α)(s x:Operand)
  (ho:o.op = .call { callee:=.builtin .append,args:=#[s,x],argTypes:=#[E.slice,E.slice] })
  (base:Nat) (v:Value) (l m:List α) (hs:a.eval s=v) (hown:Row E w base v l) (ao:Option Addr) (n cap:Nat) (hx:a.eval x = .slice ao n cap) (hm:m.length=n) (hnil:ao=none→n=0∧cap=0)
  (hcell:∀ ad,ao=some ad→∀ k y,m[k]?=some y→∀ j u,(E.enc y)[j]?=some u→w.cell? (ad.add (k*E.size+j))=some u)
  (hby:1≤E.bytes) (hlen:(l.length+m.length)*E.bytes≤140737488355328) (hb:base≤w.heap.size)
  (h:∀ v' w',Row E w' base v' (l++m)→w.grownBy w' v.ownBlock→K (a.put o.dst v') w') :
  if Region.wanted o (yielded ops a.tmps)=true then Oper.wp Tryz.prog o a w K Q else X:=by
 have hw:Region.wanted o (yielded ops a.tmps)=true:=by simp[Region.wanted,hgd]
 rw[zF hw];exact D2q E s x ho base v l m hs hown ao n cap hx hm hnil hcell hby hlen hb h
theorem tP {rest:List Oper}(hgd:o.guard=none)(E:EK α)(s x:Operand)
  (ho:o.op = .call { callee:=.builtin .append,args:=#[s,x],argTypes:=#[E.slice,E.slice] })
  (base:Nat) (v:Value) (l m:List α) (hs:a.eval s=v) (hown:Row E w base v l) (ao:Option Addr) (n cap:Nat) (hx:a.eval x = .slice ao n cap) (hm:m.length=n) (hnil:ao=none→n=0∧cap=0)
  (hcell:∀ ad,ao=some ad→∀ k y,m[k]?=some y→∀ j u,(E.enc y)[j]?=some u→w.cell? (ad.add (k*E.size+j))=some u)
  (hby:1≤E.bytes) (hlen:(l.length+m.length)*E.bytes≤140737488355328) (hb:base≤w.heap.size)
  (h:∀ v' w',Row E w' base v' (l++m)→w.grownBy w' v.ownBlock→wpList Tryz.prog ops Q rest (a.put o.dst v') w'):wpList Tryz.prog ops Q (o::rest) a w:=
 wpList_plain hgd fun _ hK=>D2q E s x ho base v l m hs hown ao n cap hx hm hnil hcell hby hlen hb fun v' w' h2 h3=>hK _ _ (h v' w' h2 h3)
end
theorem RdL.srcN {w:World}{ao:Option Addr}{n cap:Nat}{l:List Int}(h:RdL 1 NAt w (.slice ao n cap) l):l.length=n∧(ao=none→n=0∧cap=0)∧∀ ad,ao=some ad→∀ k y,l[k]?=some y→∀ j u,(ekN.enc y)[j]?=some u→w.cell? (ad.add (k*ekN.size+j))=some u:=by
 obtain⟨ac,n',cap',e,h1,_,_,h4,h5⟩:=h;cases e
 refine⟨h1,h4,fun ad had k y hy j u hu=>?_⟩;have hj:j=0:=by
  cases j with
  | zero=>rfl
  | succ j=>simp[ekN,gY] at hu
 subst hj;have hu:u = .int .i64 y:=by simpa [ekN,gY] using hu.symm
 subst hu;have:=h5 ad had k y hy;simpa [NAt,ekN] using this
section
variable{ops:Array Oper}{o:Oper}{a:Act}{Q:Exit→Act→World→Prop}
variable {α:Type}{w:World}
theorem C3l (E:EK α)(ty:TypeId)(base:Nat)(v:Value)(l m:List α)(hown:Row E w base v l)(ao:Option Addr)(n cap:Nat)(hm:m.length=n)(hnil:ao=none→n=0∧cap=0)
  (hcell:∀ ad,ao=some ad→∀ k y,m[k]?=some y→∀ j u,(E.enc y)[j]?=some u→w.cell? (ad.add (k*E.size+j))=some u)
  (hby:1≤E.bytes) (hlen:(l.length+m.length)*E.bytes≤140737488355328) (hb:base≤w.heap.size) :
  ∃ v' w',(Builtin.append_ #[E.slice,E.slice] ty #[v,.slice ao n cap]).run Tryz.prog w = .ok v' w'∧Row E w' base v' (l++m)∧w.grownBy w' v.ownBlock∧∀ k,v'.ownBlock=some k→v.ownBlock=some k∨w.heap.size≤k:=by
 obtain⟨i0,hi,hz0,hz1,hz2⟩:=info_parts E.info;have h63:l.length+m.length≤maxLen:=by
  have:l.length+m.length≤(l.length+m.length)*E.bytes:=Nat.le_mul_of_pos_right _ hby;unfold maxLen;omega
 cases ao with
 | none=>
  obtain⟨rfl,rfl⟩:=hnil rfl;have ah:=uE hm;subst ah;have hrun:=run_append_owned_none (P:=Tryz.prog) (w:=w) base E.slice ty E.elem i0 E.size E.under hi v l.length (E.flat l) hown;exact⟨v,w,hrun,by rw[tT];exact hown,⟨rfl,rfl,rfl,zG _,fun _ _ _=>rfl⟩,fun k hk=>.inl hk⟩
 | some ad=>
  have hl:(E.flat m).length=n*E.size:=by rw[E.flat_len,hm]
  have hnews:∀ j u,(E.flat m)[j]?=some u→w.cell? (ad.add j)=some u:=by
   exact Qb1
  have h1c:∀ u∈E.flat m,u.oneCell'=true:=by
   exact WE
  obtain⟨v',w',hr,h1,h2,h3⟩:=run_append_own (P:=Tryz.prog) w base E.slice ty E.elem i0 _ E.size E.bytes E.under hi hz0 hz1 hz2 E.zs E.pos v l.length (E.flat l) hown ad n cap (E.flat m) hl hnews h1c (by rw[←hm];exact h63) (by rw[←hm];exact hlen) hb;refine⟨v',w',hr,?_,h2,?_⟩
  ·exact WC
  ·rcases hown.2 with⟨hv,hn⟩|⟨g,cap',cur,hv,hbg,hg,hnc,hcm,hcs,htake⟩
   ·subst hv;have hl0:=uE hn;subst hl0;obtain⟨v2,w2,hr2,ag,_,_⟩:=run_append_own (P:=Tryz.prog) w w.heap.size E.slice ty E.elem i0 _ E.size E.bytes E.under hi hz0 hz1 hz2 E.zs E.pos (.slice none 0 0) 0 [] (jY _ _ _ _) ad n cap (E.flat m) hl hnews h1c (by rw[←hm];simpa using h63) (by rw[←hm];simpa using hlen) (zG _);rw[hr2] at hr;cases hr
    exact fun k hk=>.inr (World.ownsRow.lt ag k hk).1
   ·subst hv;by_cases hroom:l.length+n≤cap'
    ·have ac:l.length*i0.size+(E.flat m).length≤cur.size:=by rw[hl,hcs,hz1,←kC];exact qV _ hroom
     have hr2:=run_append_room (P:=Tryz.prog) w E.slice ty E.elem i0 E.under hi g l.length cap' cur hg ad n cap (E.flat m) (by rw[hl,hz1]) hnews h1c hroom ac;rw[hr2] at hr;cases hr
     exact fun k hk=>.inl hk
    ·have holds:=World.ownsRow.cells hown (g:=g) rfl;have hr2:=run_append_grow (P:=Tryz.prog) w E.slice ty E.elem i0 _ E.under hi hz0 ⟨g,0,none⟩ l.length cap' (E.flat l) (by rw[hz1];exact hown.1) holds ad n cap (E.flat m) (by rw[hl,hz1]) hnews (by omega) (by unfold maxLen at h63;omega) (growslice_fits (by omega) (by rw[hz2,←hm];exact hlen));rw[hr2] at hr;cases hr
     intro k hk;simp only[Value.ownBlock,Option.some.injEq] at hk;exact .inr (by omega)
theorem D2p {K:Act→World→Prop}(E:EK α)(s x:Operand)
  (ho:o.op = .call { callee:=.builtin .append,args:=#[s,x],argTypes:=#[E.slice,E.slice] })
  (base:Nat) (v:Value) (l m:List α) (hs:a.eval s=v) (hown:Row E w base v l) (ao:Option Addr) (n cap:Nat) (hx:a.eval x = .slice ao n cap) (hm:m.length=n) (hnil:ao=none→n=0∧cap=0)
  (hcell:∀ ad,ao=some ad→∀ k y,m[k]?=some y→∀ j u,(E.enc y)[j]?=some u→w.cell? (ad.add (k*E.size+j))=some u)
  (hby:1≤E.bytes) (hlen:(l.length+m.length)*E.bytes≤140737488355328) (hb:base≤w.heap.size)
  (h:∀ v' w',Row E w' base v' (l++m)→w.grownBy w' v.ownBlock→(∀ k,v'.ownBlock=some k→v.ownBlock=some k∨w.heap.size≤k)→K (a.put o.dst v') w'):o.wp Tryz.prog a w K Q:=by
 obtain⟨v',w',hr,h1,h2,h3⟩:=C3l E o.type base v l m hown ao n cap hm hnil hcell hby hlen hb;unfold Oper.wp execOp;simp only[ho,resolve,invoke,builtin,Sem.run_bind,Sem.run_pure,Result.andThen_ok,List.map_toArray,wS,tA,hs,hx,hr];exact h v' w' h1 h2 h3
theorem D1n {K:Act→World→Prop}{X:Prop}(hgd:o.guard=none)(E:EK α)(s x:Operand)
  (ho:o.op = .call { callee:=.builtin .append,args:=#[s,x],argTypes:=#[E.slice,E.slice] })
  (base:Nat) (v:Value) (l m:List α) (hs:a.eval s=v) (hown:Row E w base v l) (ao:Option Addr) (n cap:Nat) (hx:a.eval x = .slice ao n cap) (hm:m.length=n) (hnil:ao=none→n=0∧cap=0)
  (hcell:∀ ad,ao=some ad→∀ k y,m[k]?=some y→∀ j u,(E.enc y)[j]?=some u→w.cell? (ad.add (k*E.size+j))=some u)
  (hby:1≤E.bytes) (hlen:(l.length+m.length)*E.bytes≤140737488355328) (hb:base≤w.heap.size)
  (h:∀ v' w',Row E w' base v' (l++m)→w.grownBy w' v.ownBlock→(∀ k,v'.ownBlock=some k→v.ownBlock=some k∨w.heap.size≤k)→K (a.put o.dst v') w') :
  if Region.wanted o (yielded ops a.tmps)=true then Oper.wp Tryz.prog o a w K Q else X:=by
 have hw:Region.wanted o (yielded ops a.tmps)=true:=by simp[Region.wanted,hgd]
 rw[zF hw];exact D2p E s x ho base v l m hs hown ao n cap hx hm hnil hcell hby hlen hb h
theorem mP {rest:List Oper}(hgd:o.guard=none)(E:EK α)(s x:Operand)
  (ho:o.op = .call { callee:=.builtin .append,args:=#[s,x],argTypes:=#[E.slice,E.slice] })
  (base:Nat) (v:Value) (l m:List α) (hs:a.eval s=v) (hown:Row E w base v l) (ao:Option Addr) (n cap:Nat) (hx:a.eval x = .slice ao n cap) (hm:m.length=n) (hnil:ao=none→n=0∧cap=0)
  (hcell:∀ ad,ao=some ad→∀ k y,m[k]?=some y→∀ j u,(E.enc y)[j]?=some u→w.cell? (ad.add (k*E.size+j))=some u)
  (hby:1≤E.bytes) (hlen:(l.length+m.length)*E.bytes≤140737488355328) (hb:base≤w.heap.size)
  (h:∀ v' w',Row E w' base v' (l++m)→w.grownBy w' v.ownBlock→(∀ k,v'.ownBlock=some k→v.ownBlock=some k∨w.heap.size≤k)→wpList Tryz.prog ops Q rest (a.put o.dst v') w'):wpList Tryz.prog ops Q (o::rest) a w:=
 wpList_plain hgd fun _ hK=>D2p E s x ho base v l m hs hown ao n cap hx hm hnil hcell hby hlen hb fun v' w' h2 h3 h4=>hK _ _ (h v' w' h2 h3 h4)
end
theorem B4i (need:Nat):∀ r c,c≤need+(need+768) / 4→Builtin.growBy need r c≤need+(need+768) / 4
 | 0,c,h=>h
 | r+1,c,h=>by
  unfold Builtin.growBy
  split
  ·exact h
  ·exact B4i need r _ (by omega)
theorem E1c {need old:Nat}(h:old<need)(hb:need*48≤200000000000000):Builtin.nextslicecap need old*48≤281474976710656:=by
 have h1:Builtin.nextslicecap need old≤need+(need+768) / 4+512:=by
  unfold Builtin.nextslicecap;split
  ·omega
  split
  ·omega
  have:=B4i need 4 old (by omega);omega
 omega
section
variable {α:Type}{w:World}
theorem WD{P:Prop}(h:P:=by
 have:(l.length+n)*E.size=(E.flat l++E.flat m).length:=by rw[yQ,ag,hl,hz1,kC]
 rw[this];exact List.take_left):P:=h
theorem D5r (E:EK α)(hB:E.bytes=48)(ty:TypeId)(base:Nat)(v:Value)(l m:List α)(hown:Row E w base v l)(ad:Addr)(n cap:Nat)(hm:m.length=n)(h0:0<n)
  (hcell:∀ k y,m[k]?=some y→∀ j u,(E.enc y)[j]?=some u→w.cell? (ad.add (k*E.size+j))=some u)
  (hlen:(l.length+n)*48≤200000000000000) (hb:base≤w.heap.size) :
  ∃ v' w',(Builtin.append_ #[E.slice,E.slice] ty #[v,.slice (some ad) n cap]).run Tryz.prog w = .ok v' w'∧Row E w' base v' (l++m)∧w.grownBy w' v.ownBlock:=by
 obtain⟨i0,hi,hz0,hz1,hz2⟩:=info_parts E.info;have h63:l.length+n≤maxLen:=by unfold maxLen;omega
 have hl:(E.flat m).length=n*i0.size:=by rw[E.flat_len,hm,hz1]
 have hnews:∀ j u,(E.flat m)[j]?=some u→w.cell? (ad.add j)=some u:=by
  intro j u hu;obtain⟨y,h1,h2⟩:=E.flat_get hu;have:=hcell _ y h1 _ u h2
  rwa [mT,gI] at this
 have h1c:∀ u∈E.flat m,u.oneCell'=true:=by
  exact WE
 have ag:(E.flat l).length=l.length*i0.size:=by rw[E.flat_len,hz1]
 have hall:(E.flat (l++m)).length=(l++m).length*E.size:=E.flat_len _;have hsz:(l++m).length=l.length+n:=by rw[yQ,hm]
 have new:∀ (old:Nat),(w.drew.alloc (.cells ((E.flat l).toArray++(E.flat m).toArray++Builtin.zeroCells (Value.cells (E.zero)) (grownCap w (l.length+n) old E.elem-(l.length+n))) E.elem)).ownsRow base E.elem E.size (.slice (some ⟨w.heap.size,0,none⟩) (l.length+n) (grownCap w (l.length+n) old E.elem)) (l++m).length (E.flat (l++m)):=by
  intro old;obtain⟨C,hC⟩:∃ C,C=grownCap w (l.length+n) old E.elem:=⟨_,rfl⟩
  have aj:=grownCap_ge w (l.length+n) old E.elem;have hle:=grownCap_le_maxLen w _ old E.elem h63;rw[←hC] at aj hle ⊢;refine⟨hall,.inr ⟨w.heap.size,_,_,by rw[hsz],hb,yM w.drew _,by rw[hsz];exact aj,hle,?_,?_⟩⟩
  ·rw[eK,eK,gF,gF,size_zeroCells,E.zs,ag,hl,hz1,←kC,←kC];rw[show l.length+n+(C-(l.length+n))=C by omega]
  ·have e:(E.flat (l++m))=E.flat l++E.flat m:=E.flat_append _ _;rw[e];simp only[Array.toList_append];rw[hsz];exact WD
 have ah:∀ (o:Obj) (row:Option Nat),w.grownBy (w.drew.alloc o) row:=fun o row=>⟨rfl,rfl,rfl,by simp,fun k hk _=>heap_alloc_old w.drew _ hk⟩
 rcases hown.2 with⟨hv,hn⟩|⟨g,cap',cur,hv,hbg,hg,hnc,hcm,hcs,htake⟩
 ·subst hv;have hl0:=uE hn;subst hl0;have hr:=run_append_nil (P:=Tryz.prog) w E.slice ty E.elem i0 _ E.under hi hz0 ad n cap (E.flat m) hl hnews h0 (by unfold maxLen at h63;simp at h63;omega) (by rw[hz2,hB];simp at hlen;omega);have h2:=new 0;simp only[rH,tU,tH,EK.flat,mE,Array.empty_append] at h2 hr ⊢;exact⟨_,_,hr,h2,ah _ _⟩
 ·subst hv;by_cases hroom:l.length+n≤cap'
  ·have ac:l.length*i0.size+(E.flat m).length≤cur.size:=by rw[hl,hcs,hz1,←kC];exact qV _ hroom
   have hr:=run_append_room (P:=Tryz.prog) w E.slice ty E.elem i0 E.under hi g l.length cap' cur hg ad n cap (E.flat m) hl hnews h1c hroom ac;refine⟨_,_,hr,⟨hall,.inr ⟨g,cap',_,by rw[hsz],hbg,setRow_heap w g cur _ _ _ hg,by rw[hsz];exact hroom,hcm,?_,?_⟩⟩,⟨rfl,rfl,rfl,by simp,fun k _ hk=>setRow_other w g k _ (fun e=>hk (by simp[Value.ownBlock,e]))⟩⟩
   ·simp only[gF,yQ,vZ,vE,Array.length_toList];rw[hz1] at ac ⊢;omega
   ·have e:(E.flat (l++m))=E.flat l++E.flat m:=E.flat_append _ _;rw[e,hz1,htake,hsz];exact WD
  ·have holds:=World.ownsRow.cells hown (g:=g) rfl;have hr:=run_append_grow (P:=Tryz.prog) w E.slice ty E.elem i0 _ E.under hi hz0 ⟨g,0,none⟩ l.length cap' (E.flat l) ag holds ad n cap (E.flat m) hl hnews (by omega) (by unfold maxLen at h63;omega) (by rw[hz2,hB];exact E1c (by omega) hlen);exact⟨_,_,hr,new cap',ah _ _⟩
theorem C1m {ops:Array Oper}{rest:List Oper}{o:Oper}{a:Act}{Q:Exit→Act→World→Prop}(hgd:o.guard=none)(E:EK α)(hB:E.bytes=48)(s x:Operand)
  (ho:o.op = .call { callee:=.builtin .append,args:=#[s,x],argTypes:=#[E.slice,E.slice] })
  (base:Nat) (v:Value) (l m:List α) (hs:a.eval s=v) (hown:Row E w base v l) (ao:Option Addr) (n cap:Nat) (hx:a.eval x = .slice ao n cap) (hm:m.length=n) (hnil:ao=none→n=0∧cap=0)
  (hcell:∀ ad,ao=some ad→∀ k y,m[k]?=some y→∀ j u,(E.enc y)[j]?=some u→w.cell? (ad.add (k*E.size+j))=some u)
  (hl:l.length*48≤140737488355328) (hlen:(l.length+m.length)*48≤200000000000000) (hb:base≤w.heap.size)
  (h:∀ v' w',Row E w' base v' (l++m)→w.grownBy w' v.ownBlock→wpList Tryz.prog ops Q rest (a.put o.dst v') w'):wpList Tryz.prog ops Q (o::rest) a w:=by
 by_cases hsm:(l.length+m.length)*48≤140737488355328
 ·exact tP hgd E s x ho base v l m hs hown ao n cap hx hm hnil hcell (by rw[hB];decide) (by rw[hB];exact hsm) hb h
 ·by_cases hn0:0<n
  ·cases ao with
   | none=>obtain⟨h1,_⟩:=hnil rfl;omega
   | some ad=>
    obtain⟨v',w',hr,h1,h2⟩:=D5r E hB o.type base v l m hown ad n cap hm hn0 (fun k y hy j u hu=>hcell ad rfl k y hy j u hu) (by rw[←hm];exact hlen) hb;refine wpList_plain hgd fun _ hK=>?_
    unfold Oper.wp execOp;simp only[ho,resolve,invoke,builtin,Sem.run_bind,Sem.run_pure,Result.andThen_ok,List.map_toArray,wS,tA,hs,hx,hr];exact hK _ _ (h v' w' h1 h2)
  ·exfalso;have:m.length=0:=by omega
   exact hsm (by rw[this];exact hl)
end
end L
end Go.Proofs.YthcomdofaaeihaaGreatDoor
