import Derived.Test.YtgaoojpakjjdnaaGreatDoorProg
import Derived.Laws.BitsAllLaws
import Derived.RowKit
import Derived.WalkKit
import Derived.WalkSpells
import Derived.WalkLawsBesides
import Derived.Lib.Strings
import Derived.BigQuiet
import Derived.Deep.QuietTactic
import Derived.Deep.RegionWith
import Derived.OwnWalk
import Derived.Laws.OwnMore
import Derived.Laws.Rows
import Derived.Deep.LoopGhost
import Derived.Deep.RegionHeld3
set_option maxHeartbeats 32000000
set_option maxRecDepth 100000
namespace Go.Proofs.YtgaoojpakjjdnaaGreatDoor
theorem pT{α:Type}:(∀(l:List α)(i:Nat)(h:i<l.toArray.size),l.toArray[i]=l[i]'(by simpa using h))∧(∀(a:α)(l:List α)(i:Nat)(h:i+1<(a::l).length),(a::l)[i+1]=l[i]'(by simpa using h))∧(∀(a:α)(l:List α)(h:0<(a::l).length),(a::l)[0]=a)∧(∀(l:List α)(i:Nat)(a:α),l.toArray.setIfInBounds i a=(l.set i a).toArray)∧(∀(x a:α)(l:List α),(x::l).set 0 a=a::l)∧(∀(x a:α)(l:List α)(i:Nat),(x::l).set (i+1) a=x::l.set i a):=⟨fun l i h=>by simp,fun a l i h=>rfl,fun a l h=>rfl,fun l i a=>by simp,fun x a l=>rfl,fun x a l i=>rfl⟩
theorem tK {P:Program}{md:Region.Mode}{ops:Array Oper}{Q:Exit→Act→World→Prop}{S:World→Prop}{i:Nat}{oi:Oper}{v:Value}{fuel:Nat}{listed:Array Bool}{a:Act}{w:World}(hi:ops[i]?=some oi)(hy:Region.wanted oi (yielded ops a.tmps)=true∧∀ w,S w→(execOp a.eval oi).run P w = .ok (.value v) w)(h:wpAnyH P md ops Q S fuel (listed.setIfInBounds i true) (a.put oi.dst v) w)(hQ:∀ c a w,Q (.panic c) (a.put oi.dst v) w→Q (.panic c) a w:=by exact fun _ _ _ h=>h)(hS:S w:=by assumption)(hs:Region.noSelect ops=true:=by kernel_rfl)(hf:Region.free md ops listed i=true:=by kernel_rfl)(hr:(Region.ready md ops listed).contains i=true:=by kernel_rfl):wpAnyH P md ops Q S (fuel+1) listed a w:=wpAnyH_take hi hs hf hr hQ (.inl hy) hS h
theorem rA {P:Program}{md:Region.Mode}{ops:Array Oper}{Q:Exit→Act→World→Prop}{S:World→Prop}{i:Nat}{o:Oper}{fuel:Nat}{listed:Array Bool}{a:Act}{w:World}(ho:ops[i]?=some o)(h:∀ K:Act→World→Prop,Shut (∀ a w,S w→(S w→wpAnyH P md ops Q S fuel (listed.setIfInBounds i true) a w)→K a w)→if Region.wanted o (yielded ops a.tmps)=true then Oper.wp P o a w K Q else K (a.put o.dst undef) w)(hr:Region.ready md ops listed=[i]:=by kernel_rfl):wpAnyH P md ops Q S (fuel+1) listed a w:=wpAnyH_ready hr (by simp) (AllReadyH.cons ho h AllReadyH.nil)
theorem rB {P:Program}{md:Region.Mode}{ops:Array Oper}{Q:Exit→Act→World→Prop}{S:World→Prop}{i j:Nat}{o p:Oper}{fuel:Nat}{listed:Array Bool}{a:Act}{w:World}(ho:ops[i]?=some o)(h:∀ K:Act→World→Prop,Shut (∀ a w,S w→(S w→wpAnyH P md ops Q S fuel (listed.setIfInBounds i true) a w)→K a w)→if Region.wanted o (yielded ops a.tmps)=true then Oper.wp P o a w K Q else K (a.put o.dst undef) w)(ho2:ops[j]?=some p)(h2:∀ K:Act→World→Prop,Shut (∀ a w,S w→(S w→wpAnyH P md ops Q S fuel (listed.setIfInBounds j true) a w)→K a w)→if Region.wanted p (yielded ops a.tmps)=true then Oper.wp P p a w K Q else K (a.put p.dst undef) w)(hr:Region.ready md ops listed=[i,j]:=by kernel_rfl):wpAnyH P md ops Q S (fuel+1) listed a w:=wpAnyH_ready hr (by simp) (AllReadyH.cons ho h (AllReadyH.cons ho2 h2 AllReadyH.nil))
end Go.Proofs.YtgaoojpakjjdnaaGreatDoor
namespace Go.Proofs.YtgaoojpakjjdnaaGreatDoor
def C2c (c:UInt8):Bool:=(decide (97≤c.toNat)&&decide (c.toNat≤122))||(decide (65≤c.toNat)&&decide (c.toNat≤90))
def B5n (c:UInt8):Bool:=decide (48≤c.toNat)&&decide (c.toNat≤57)
def A7c (c:UInt8):Bool:=C2c c||B5n c||c.toNat==95
def A1c:List UInt8→Nat
 | []=>0
 | c::r=>if C2c c then 1+(r.takeWhile A7c).length else 0
def A4r (l:List UInt8):Nat:=(l.takeWhile B5n).length
def A7y:Bool→List UInt8→List UInt8
 | _,[]=>[]
 | true,c::r=>A7y (c != 10) r
 | false,c::r=>if c=32∨c=10 then A7y false r else if c=47∧r.head?=some 47 then A7y true r else c::r
def A1o (l:List UInt8):List UInt8:=A7y false l
abbrev R (α:Type):=Except (Option (Nat×List UInt8)) (α×List UInt8)
def R.thn {α β:Type}(x:R α)(f : α→List UInt8→R β):R β:=
 match x with
 | .error e=>.error e
 | .ok (a,r)=>f a r
def A3w (c:UInt8)(r:List UInt8):Bool×List UInt8:=
 match A1o r with
 | []=>(false,[])
 | x::t=>if x=c then(true,t) else(false,x::t)
def A1y (c:UInt8)(r:List UInt8):R Unit:=
 match A3w c r with
 | (true,t)=>.ok ((),t)
 | (false,t)=>.error (some (2,t))
def B2w (w:List UInt8)(r:List UInt8):Bool×List UInt8:=
 if (A1o r).take (A1c (A1o r))=w then(true,(A1o r).drop w.length) else(false,A1o r)
def A4f (r:List UInt8):R (List UInt8):=
 if A1c (A1o r)=0 then .error (some (2,A1o r))
 else if 16<A1c (A1o r) then .error (some (7,A1o r))
 else .ok ((A1o r).take (A1c (A1o r)),(A1o r).drop (A1c (A1o r)))
def D0l (l:List UInt8):Nat:=l.foldl (fun a c=>10*a+(c.toNat-48)) 0
def D1n (r:List UInt8):List UInt8:=(A1o r).take (A4r (A1o r))
def A5p (most:Nat)(r:List UInt8):R Nat:=
 if A4r (A1o r)=0 then .error (some (2,A1o r))
 else if (1<A4r (A1o r)∧(A1o r).head?=some 48)∨most<D0l (D1n r) then .error (some (3,A1o r))
 else .ok (D0l (D1n r),(A1o r).drop (A4r (A1o r)))
structure Fld where
 name:List UInt8
 number:Nat
 kind:Nat
 type:List UInt8
 many:Bool
 choice:Nat
deriving DecidableEq
structure Msg where
 name:List UInt8
 fields:List Fld
 barred:List Nat
deriving DecidableEq
structure Itm where
 name:List UInt8
 value:Int
deriving DecidableEq
structure Enm where
 name:List UInt8
 items:List Itm
deriving DecidableEq
structure Fil where
 msgs:List Msg
 enums:List Enm
deriving DecidableEq
def A9l:Nat:=536870911
def C9m:Nat→List Nat→List UInt8→R (List Nat)
 | 0,_,_=>.error none
 | k+1,acc,r=>
  match A3w 44 r with
  | (true,t)=>R.thn (A5p A9l t) fun n u=>C9m k (acc++[n]) u
  | (false,t)=>R.thn (A1y 59 t) fun _ u=>.ok (acc,u)
def A1k (k:Nat)(r:List UInt8):R (List Nat):=R.thn (A5p A9l r) fun n u=>C9m k [n] u
def A4d:List (List UInt8):=
 [[105,110,116,54,52],[115,105,110,116,54,52],[117,105,110,116,54,52],[98,111,111,108],[],[102,105,120,101,100,54,52],[102,105,120,101,100,51,50],[115,116,114,105,110,103],[98,121,116,101,115]]
def A5m:Nat→List (List UInt8)→List UInt8→Nat×List UInt8
 | _,[],w=>(10,w)
 | i,x::xs,w=>if x=w then(i,[]) else A5m (i+1) xs w
def A2o (w:List UInt8):Nat×List UInt8:=A5m 1 A4d w
def A2m (many:Bool)(choice:Nat)(r:List UInt8):R Fld:=
 R.thn (A4f r) fun ty u=>R.thn (A4f u) fun nm u=>R.thn (A1y 61 u) fun _ u=>R.thn (A5p A9l u) fun n u=>R.thn (A1y 59 u) fun _ u=>
  .ok (⟨nm,n,(A2o ty).1,(A2o ty).2,many,choice⟩,u)
def A3o (ch:Nat):Nat→List Fld→List UInt8→R (List Fld)
 | 0,_,_=>.error none
 | k+1,acc,r=>
  match A3w 125 r with
  | (true,t)=>.ok (acc,t)
  | (false,t)=>R.thn (A2m false ch t) fun f u=>A3o ch k (acc++[f]) u
def A2l (K ch:Nat)(r:List UInt8):R (List Fld):=R.thn (A1y 123 r) fun _ u=>A3o ch K [] u
def A5w:List UInt8:=[114,101,115,101,114,118,101,100]
def A8i:List UInt8:=[111,110,101,111,102]
def A3m:List UInt8:=[114,101,112,101,97,116,101,100]
def B2y:List UInt8:=[109,101,115,115,97,103,101]
def B8f:List UInt8:=[101,110,117,109]
def B8t (K:Nat)(m:Msg)(ch:Nat)(r:List UInt8):R (Msg×Nat):=
 match B2w A5w r with
 | (true,t)=>R.thn (A1k K t) fun l u=>.ok ((⟨m.name,m.fields,m.barred++l⟩,ch),u)
 | (false,t)=>
  match B2w A8i t with
  | (true,t)=>R.thn (A2l K (ch+1) t) fun l u=>.ok ((⟨m.name,m.fields++l,m.barred⟩,ch+1),u)
  | (false,t)=>R.thn (A2m (B2w A3m t).1 0 (B2w A3m t).2) fun f u=>.ok ((⟨m.name,m.fields++[f],m.barred⟩,ch),u)
def A4z (K:Nat):Nat→Msg→Nat→List UInt8→R Msg
 | 0,_,_,_=>.error none
 | k+1,m,ch,r=>
  match A3w 125 r with
  | (true,t)=>.ok (m,t)
  | (false,t)=>R.thn (B8t K m ch t) fun p u=>if 16<p.1.fields.length∨16<p.1.barred.length then .error (some (5,u)) else A4z K k p.1 p.2 u
def A0g (K:Nat)(r:List UInt8):R Msg:=R.thn (A4f r) fun nm u=>R.thn (A1y 123 u) fun _ u=>A4z K K ⟨nm,[],[]⟩ 0 u
def A4w (r:List UInt8):R Itm:=
 R.thn (A4f r) fun nm u=>R.thn (A1y 61 u) fun _ u=>
  match A3w 45 u with
  | (true,t)=>R.thn (A5p 2147483648 t) fun n u=>R.thn (A1y 59 u) fun _ u=>.ok (⟨nm,-(n:Int)⟩,u)
  | (false,t)=>R.thn (A5p 2147483647 t) fun n u=>R.thn (A1y 59 u) fun _ u=>.ok (⟨nm,(n:Int)⟩,u)
def A8b:Nat→Enm→List UInt8→R Enm
 | 0,_,_=>.error none
 | k+1,e,r=>
  match A3w 125 r with
  | (true,t)=>.ok (e,t)
  | (false,t)=>R.thn (A4w t) fun i u=>if 16<(e.items++[i]).length then .error (some (5,u)) else A8b k ⟨e.name,e.items++[i]⟩ u
def A5h (K:Nat)(r:List UInt8):R Enm:=R.thn (A4f r) fun nm u=>R.thn (A1y 123 u) fun _ u=>A8b K ⟨nm,[]⟩ u
def C4b (K:Nat)(f:Fil)(r:List UInt8):R Fil:=
 match B2w B2y r with
 | (true,t)=>R.thn (A0g K t) fun m u=>.ok (⟨f.msgs++[m],f.enums⟩,u)
 | (false,t)=>
  match B2w B8f t with
  | (true,t)=>R.thn (A5h K t) fun e u=>.ok (⟨f.msgs,f.enums++[e]⟩,u)
  | (false,t)=>.error (some (2,t))
def A1x (K:Nat):Nat→Fil→List UInt8→R Fil
 | 0,_,_=>.error none
 | k+1,f,r=>
  if A1o r = [] then .ok (f,[])
  else R.thn (C4b K f (A1o r)) fun g u=>if 10<g.msgs.length+g.enums.length then .error (some (5,u)) else A1x K k g u
def A7e (K:Nat)(l:List UInt8):R Fil:=A1x K K ⟨[],[]⟩ l
theorem C9q (b:Bool)(l:List UInt8):(A7y b l).length≤l.length:=by
 induction l generalizing b with
 | nil=>cases b <;> simp[A7y]
 | cons c r ih=>
  cases b with
  | true=>rw[A7y];have:=ih (c != 10);simp;omega
  | false=>
   rw[A7y]
   split
   ·have:=ih false;simp;omega
   ·split
    ·have:=ih true;simp;omega
    ·exact Nat.le_refl _
theorem B3l (l:List UInt8):(A1o l).length≤l.length:=C9q false l
theorem C5t (l:List UInt8):A7y true l=A7y false (l.dropWhile (fun c=>c != 10)):=by
 induction l with
 | nil=>simp[A7y]
 | cons c r ih=>
  rw[A7y]
  by_cases h:c=10
  ·subst h;simp[A7y]
  ·have h1:(c != 10)=true:=by simp[h]
   rw[h1,ih];simp[List.dropWhile,h1]
end Go.Proofs.YtgaoojpakjjdnaaGreatDoor
namespace Go.Proofs.YtgaoojpakjjdnaaGreatDoor
namespace L
open Go.RowKit
theorem A1r {k:IntKind}{a b:Int}(h:a=b):Ending.returned (.int k a) = .returned (.int k b):=by rw[h]
theorem A2v {a b:Bool}(h:a=b):Ending.returned (.bool a) = .returned (.bool b):=by rw[h]
def S (l:List UInt8):ByteArray:=⟨l.toArray⟩
theorem A3j (l:List UInt8):(S l).size=l.length:=by simp[S,ByteArray.size]
theorem A2t (l:List UInt8):(S l).toList=l:=by
 rw[ByteArray.toList_eq];simp[S]
theorem A2x (c:UInt8)(w:World):Calls Tryz.prog 212 #[.int .u8 (c.toNat:Int)] w fun e w'=>e = .returned (.bool (C2c c))∧w=w':=by
 obtain⟨X,HX⟩:∃ X:Nat,Hid (X=c.toNat):=⟨_,rfl⟩
 have HL:Hid (C2c c=((decide (97≤X)&&decide (X≤122))||(decide (65≤X)&&decide (X≤90)))):=by show _=_;rw[HX.out];rfl
 have hX:X<256:=by rw[HX.out];exact UInt8.toNat_lt _
 rw[←HX.out,HL.out]
 clear HX HL
 by_cases h1:97≤X
 ·by_cases h2:X≤122
  rotate_right
  rotate_right
  all_goals
   go_enter Tryz.func212,Tryz.ntmps212
   go_wp2
   all_goals (go_ret;refine⟨A2v ?_,rfl⟩;(try rw[Bool.eq_iff_iff]);(try simp);(try omega))
 ·go_enter Tryz.func212,Tryz.ntmps212
  go_wp2
  all_goals (go_ret;refine⟨A2v ?_,rfl⟩;(try rw[Bool.eq_iff_iff]);(try simp);(try omega))
theorem A6k (c:UInt8)(w:World):Calls Tryz.prog 213 #[.int .u8 (c.toNat:Int)] w fun e w'=>e = .returned (.bool (B5n c))∧w=w':=by
 obtain⟨X,HX⟩:∃ X:Nat,Hid (X=c.toNat):=⟨_,rfl⟩
 have HL:Hid (B5n c=(decide (48≤X)&&decide (X≤57))):=by show _=_;rw[HX.out];rfl
 have hX:X<256:=by rw[HX.out];exact UInt8.toNat_lt _
 rw[←HX.out,HL.out]
 clear HX HL
 by_cases h1:48≤X
 rotate_right
 rotate_right
 all_goals
  go_enter Tryz.func213,Tryz.ntmps213
  go_wp2
  all_goals (go_ret;refine⟨A2v ?_,rfl⟩;(try rw[Bool.eq_iff_iff]);(try simp);(try omega))
theorem B0e (l:List UInt8)(k:Nat)(h:k<(S l).size):(S l)[k]'h=l.getD k 0:=by
 have hk:k<l.length:=by rw[←A3j];exact h
 have e:(S l)[k]'h=l[k]'hk:=rfl
 rw[e];simp[hk]
theorem D8k (l:List UInt8)(k:Nat)(hk:k≤l.length)(w:World):(Instr.slice 9 (.string (S l)) none (some (.int .i64 (k:Int))) none).run Tryz.prog w = .ok (.string (S (l.take k))) w:=by
 rw[run_slice_string_h (ht:=Tryz.underlying9) (h0:=by omega) (h2:=by rw[A3j];omega)]
 rw[Lib.extract_eq];simp[S]
theorem D4r (l:List UInt8)(k:Nat)(hk:k≤l.length)(w:World):(Instr.slice 9 (.string (S l)) (some (.int .i64 (k:Int))) none none).run Tryz.prog w = .ok (.string (S (l.drop k))) w:=by
 rw[run_slice_string_l (ht:=Tryz.underlying9) (h0:=by omega) (h1:=by rw[A3j];omega)]
 rw[Lib.extract_eq];simp[S,ByteArray.size];exact List.take_of_length_le (by simp)
theorem A7j {p:UInt8→Bool}{l:List UInt8}{k:Nat}(hlt:k<l.length)(h:p (l.getD k 0)=true):((l.drop k).takeWhile p).length=1+((l.drop (k+1)).takeWhile p).length:=by
 have e:l.getD k 0=l[k]:=by simp[hlt]
 rw[List.drop_eq_getElem_cons hlt,List.takeWhile_cons,if_pos (by rw[←e];exact h)];simp;omega
theorem B7c {p:UInt8→Bool}{l:List UInt8}{k:Nat}(hlt:k<l.length)(h:p (l.getD k 0)=false):((l.drop k).takeWhile p).length=0:=by
 have e:l.getD k 0=l[k]:=by simp[hlt]
 rw[List.drop_eq_getElem_cons hlt,List.takeWhile_cons,if_neg (by rw[←e,h];simp)];rfl
theorem A4a (l:List UInt8)(hl:l.length≤9223372036854775807)(w:World):Calls Tryz.prog 156 #[.string (S l)] w fun e w'=>e = .returned (.int .i64 (A1c l:Int))∧w=w':=by
 have hsz:=A3j l
 have ac:=A2t l
 cases l with
 | nil=>
  go_enter Tryz.func156,Tryz.ntmps156
  go_wp2
  go_ret
  exact⟨rfl,rfl⟩
 | cons c r=>
  have ah:(S (c::r)).toList.isEmpty=false:=by rw[A2t];rfl
  by_cases h0:C2c c=true
  ·have HW:Hid (A1c (c::r)=1+((c::r).drop 1 |>.takeWhile A7c).length):=by show _=_;simp[A1c,h0]
   have hL:∀ h,C2c ((S (c::r))[0]'h)=true:=by intro h;rw[B0e];exact h0
   obtain⟨l,Hl⟩:∃ l,Hid (l=c::r):=⟨_,rfl⟩
   rw[←Hl.out] at HW hL ah ac hsz hl ⊢
   have hlen:1≤l.length:=by rw[Hl.out];simp
   clear Hl h0 ac
   go_enter Tryz.func156,Tryz.ntmps156
   go_wp2_with fail
   refine(A2x _ _).mono ?_
   rintro e w1 ⟨rfl,rfl⟩
   rw[hL]
   clear hL
   go_wp2
   go_loop [3] (fun n=>∃ k:Nat,1≤k∧k≤l.length∧n = .int .i64 k∧Hid (A1c l=k+((l.drop k).takeWhile A7c).length)) (fun n=>l.length-(intOf n).toNat)
   case atStart=>exact⟨1,Nat.le_refl _,hlen,rfl,HW⟩
   case round=>
    obtain⟨k,aj,hk,rfl,HR⟩:=hrel
    by_cases hlt:k<l.length
    ·have hx:∀ h,(S l)[k]'h=l.getD k 0:=B0e l k
     obtain⟨x,Hx⟩:∃ x,Hid (x=l.getD k 0):=⟨_,rfl⟩
     have ak:∀ h,(S l)[k]'h=x:=by intro h;rw[B0e,Hx.out]
     clear hx
     go_wp2_with fail
     refine(A2x _ _).mono ?_
     rintro e w1 ⟨rfl,rfl⟩
     by_cases h1:C2c x=true
     ·rw[h1]
      go_wp2
      go_round
      case rel=>exact⟨k+1,by omega,by omega,by go_num,by show _=_;rw[HR.out,A7j hlt (by rw[←Hx.out];simp[A7c,h1])];omega⟩
      case measure=>simp[intOf];omega
     ·rw[Bool.eq_false_iff.2 h1]
      go_wp2_with fail
      refine(A6k _ _).mono ?_
      rintro e w1 ⟨rfl,rfl⟩
      by_cases h2:B5n x=true
      ·rw[h2]
       go_wp2
       go_round
       case rel=>exact⟨k+1,by omega,by omega,by go_num,by show _=_;rw[HR.out,A7j hlt (by rw[←Hx.out];simp[A7c,h2])];omega⟩
       case measure=>simp[intOf];omega
      ·rw[Bool.eq_false_iff.2 h2]
       by_cases h3:x.toNat=95
       ·have ag:((x.toNat:Int)==95)=true:=beq_iff_eq.2 (by omega)
        go_wp2
        go_round
        case rel=>exact⟨k+1,by omega,by omega,by go_num,by show _=_;rw[HR.out,A7j hlt (by rw[←Hx.out];simp[A7c,h3])];omega⟩
        case measure=>simp[intOf];omega
       ·have ag:((x.toNat:Int)==95)=false:=beq_eq_false_iff_ne.2 (by omega)
        have h4:A7c x=false:=by simp[A7c,Bool.eq_false_iff.2 h1,Bool.eq_false_iff.2 h2,h3]
        go_wp2
        go_ret
        refine⟨A1r ?_,rfl⟩
        rw[HR.out,B7c hlt (by rw[←Hx.out];exact h4)]
        simp
    ·go_wp2
     go_ret
     refine⟨A1r ?_,rfl⟩
     rw[HR.out,List.drop_eq_nil_of_le (by omega)]
     simp
  ·have hL:∀ h,C2c ((S (c::r))[0]'h)=false:=by intro h;rw[B0e];exact Bool.eq_false_iff.2 h0
   have HW:Hid (A1c (c::r)=0):=by show _=_;simp[A1c,h0]
   go_enter Tryz.func156,Tryz.ntmps156
   go_wp2_with fail
   refine(A2x _ _).mono ?_
   rintro e w1 ⟨rfl,rfl⟩
   rw[hL]
   clear hL
   go_wp2
   go_ret
   exact⟨A1r (by rw[HW.out];rfl),rfl⟩
structure EK (α:Type) where
 elem:TypeId
 slice:TypeId
 size:Nat
 bytes:Nat
 zero:Value
 enc : α→List Value
 under:Tryz.prog.underlying slice=some (.slice elem)
 info:(Tryz.prog.info? elem).map (fun i=>(i.zero,i.size,i.bytes))=some (some zero,size,bytes)
 zs:zero.cells.size=size
 pos:0<size
 small:bytes≤1000
 len:∀ a,(enc a).length=size
 one:∀ a,∀ u∈enc a,u.oneCell'=true
def EK.flat {α:Type}(E:EK α)(l:List α):List Value:=l.flatMap E.enc
theorem EK.flat_len {α:Type}(E:EK α)(l:List α):(E.flat l).length=l.length*E.size:=by
 unfold EK.flat
 induction l with
 | nil=>simp
 | cons a r ih=>rw[List.flatMap_cons,List.length_append,ih,E.len,List.length_cons,Nat.succ_mul,Nat.add_comm]
theorem EK.flat_append {α:Type}(E:EK α)(l m:List α):E.flat (l++m)=E.flat l++E.flat m:=by simp[EK.flat]
theorem EK.flat_at {α:Type}(E:EK α)(l:List α)(i j:Nat)(a : α)(h:l[i]?=some a)(hj:j<E.size):(E.flat l)[i*E.size+j]?=(E.enc a)[j]?:=by
 unfold EK.flat
 induction l generalizing i with
 | nil=>simp at h
 | cons q r ih=>
  rw[List.flatMap_cons]
  cases i with
  | zero=>
   simp at h
   subst h
   rw[Nat.zero_mul,Nat.zero_add,List.getElem?_append_left (by rw[E.len];exact hj)]
  | succ i=>
   have h':r[i]?=some a:=by simpa using h
   rw[←ih i h',show(i+1)*E.size+j=(E.enc q).length+(i*E.size+j) by rw[E.len,Nat.succ_mul];omega,
    List.getElem?_append_right (Nat.le_add_right _ _),Nat.add_sub_cancel_left]
def Row {α:Type}(E:EK α)(w:World)(base:Nat)(v:Value)(l:List α):Prop:=w.ownsRow base E.elem E.size v l.length (E.flat l)
section
variable {α:Type}{E:EK α}{w w':World}{base b:Nat}{v:Value}{l:List α}
theorem Row.nil (E:EK α)(w:World)(base:Nat):Row E w base (.slice none 0 0) []:=World.ownsRow_nil _ _ _ _
theorem Row.keep (h:Row E w base v l)(hb:∀ k,base≤k→k<w.heap.size→w'.heap[k]?=w.heap[k]?):Row E w' base v l:=by
 refine⟨h.1,?_⟩
 rcases h.2 with hn|⟨g,cap,cur,hv,hbg,hg,r⟩
 ·exact .inl hn
 ·exact .inr ⟨g,cap,cur,hv,hbg,by rw[hb g hbg (Array.getElem?_eq_some_iff.1 hg).1];exact hg,r⟩
theorem Row.below (h:Row E w base v l)(hk:Below w.heap.size w w'):Row E w' base v l:=h.keep fun k _ h2=>hk.block k h2
theorem Row.mono {base':Nat}(h:Row E w base v l)(hb:base'≤base):Row E w base' v l:=by
 refine⟨h.1,?_⟩
 rcases h.2 with hn|⟨g,cap,cur,hv,hbg,r⟩
 ·exact .inl hn
 ·exact .inr ⟨g,cap,cur,hv,Nat.le_trans hb hbg,r⟩
theorem Row.own (h:Row E w base v l):∀ k,v.ownBlock=some k→base≤k∧k<w.heap.size:=World.ownsRow.lt h
theorem Row.ne {β:Type}{F:EK β}{base':Nat}{v':Value}{l':List β}(h:Row E w base v l)(h':Row F w base' v' l')(hne:E.elem≠F.elem):v.ownBlock=none∨v.ownBlock≠v'.ownBlock:=by
 rcases h.2 with⟨hv,_⟩|⟨g,cap,cur,hv,_,hg,_⟩
 ·left;rw[hv];rfl
 ·rcases h'.2 with⟨hv',_⟩|⟨g',cap',cur',hv',_,hg',_⟩
  ·right;rw[hv,hv'];simp[Value.ownBlock]
  ·right
   rw[hv,hv']
   simp only[Value.ownBlock,ne_eq,Option.some.injEq]
   intro e
   rw[e,hg'] at hg
   simp at hg
   exact hne hg.2.symm
theorem Row.grown {row:Option Nat}(h:Row E w base v l)(hg:w.grownBy w' row)(hne:v.ownBlock=none∨v.ownBlock≠row):Row E w' base v l:=World.ownsRow.kept h hg hne
theorem Row.shape (h:Row E w base v l):∃ ao cap,v = .slice ao l.length cap:=by
 rcases h.2 with⟨hv,hn⟩|⟨g,cap,cur,hv,_⟩
 ·exact⟨none,0,by rw[hv,hn]⟩
 ·exact⟨_,cap,hv⟩
theorem Row.one (E:EK α)(w:World)(a : α)(hb:base≤w.heap.size):Row E (w.alloc (.cells (E.enc a).toArray E.elem)) base (.slice (some ⟨w.heap.size,0,none⟩) 1 1) [a]:=by
 refine⟨E.flat_len [a],.inr ⟨w.heap.size,1,_,rfl,hb,heap_alloc_new w _,Nat.le_refl _,by unfold maxLen;omega,by simp[E.len],?_⟩⟩
 have:(E.enc a).length=([a]:List α).length*E.size:=by rw[E.len];simp
 simp only[EK.flat,List.flatMap_cons,List.flatMap_nil,List.append_nil]
 rw[←this]
 simp
theorem A3r {o:Oper}{a:Act}{K:Act→World→Prop}{Q:Exit→Act→World→Prop}(E:EK α)(s x:Operand)
  (ho:o.op = .call { callee:=.builtin .append,args:=#[s,x],argTypes:=#[E.slice,E.slice] })
  (base:Nat) (v:Value) (l m:List α) (hs:a.eval s=v) (hown:Row E w base v l) (base':Nat) (u:Value) (hx:a.eval x=u) (ac:Row E w base' u m)
  (hlen:l.length+m.length≤1000000) (hb:base≤w.heap.size)
  (h:∀ v' w',Row E w' base v' (l++m)→w.grownBy w' v.ownBlock→K (a.put o.dst v') w'):o.wp Tryz.prog a w K Q:=by
 obtain⟨i0,hi,hz0,hz1,hz2⟩:=info_parts E.info
 rcases ac.2 with⟨hu,hn⟩|⟨g,cap,cur,hu,hbg,hg,hn,hm,hsz,ht⟩
 ·have ag:m = []:=List.eq_nil_of_length_eq_zero hn
  subst ag
  have hrun:=run_append_owned_none (P:=Tryz.prog) (w:=w) base E.slice o.type E.elem i0 E.size E.under hi v l.length (E.flat l) hown
  rw[hu] at hx
  unfold Oper.wp
  simp[execOp,ho,resolve,invoke,builtin,hs,hx,hrun,Result.andThen]
  exact h v w (by rw[List.append_nil];exact hown) ⟨rfl,rfl,rfl,Nat.le_refl _,fun _ _ _=>rfl⟩
 ·rw[hu] at hx
  refine wp_append_own w s x E.slice ho base E.elem i0 _ E.size E.bytes E.under hi hz0 hz1 hz2 E.zs E.pos v l.length _ hs hown ⟨g,0,none⟩ m.length cap
   (E.flat m) hx (E.flat_len m) (World.ownsRow.cells ac (g:=g) (by rw[hu];rfl)) ?_ (by unfold maxLen;omega) ?_ hb ?_
  ·intro y hy
   simp only[EK.flat,List.mem_flatMap] at hy
   obtain⟨p,hp,hy⟩:=hy
   exact E.one p y hy
  ·exact Nat.le_trans (Nat.mul_le_mul hlen E.small) (by decide)
  ·intro v' w' h1 h2 _
   refine h v' w' ?_ h2
   show w'.ownsRow base E.elem E.size v' (l++m).length (E.flat (l++m))
   rw[List.length_append,E.flat_append]
   exact h1
theorem A2r {ops:Array Oper}{rest:List Oper}{o:Oper}{a:Act}{Q:Exit→Act→World→Prop}(hgd:o.guard=none)(E:EK α)(s x:Operand)
  (ho:o.op = .call { callee:=.builtin .append,args:=#[s,x],argTypes:=#[E.slice,E.slice] })
  (base:Nat) (v:Value) (l m:List α) (hs:a.eval s=v) (hown:Row E w base v l) (base':Nat) (u:Value) (hx:a.eval x=u) (ac:Row E w base' u m)
  (hlen:l.length+m.length≤1000000) (hb:base≤w.heap.size)
  (h:∀ v' w',Row E w' base v' (l++m)→w.grownBy w' v.ownBlock→wpList Tryz.prog ops Q rest (a.put o.dst v') w'):wpList Tryz.prog ops Q (o::rest) a w:=
 wpList_plain hgd fun _ hK=>A3r E s x ho base v l m hs hown base' u hx ac hlen hb fun v' w' h2 h3=>hK _ _ (h v' w' h2 h3)
end
def A3g:Array Value:=(A4d.map fun l=>Value.string (S l)).toArray
theorem B3q (w:World):Calls Tryz.prog 157 #[] w fun e w'=>e = .returned (.slice (some ⟨w.heap.size,0,none⟩) 9 9)∧w.alloc (.cells A3g 9)=w':=by
 go_enter Tryz.func157,Tryz.ntmps157
 go_wp2
 go_ret
 exact⟨rfl,rfl⟩
theorem A7l (k:Nat)(hk:k<9):A3g[k]?=some (.string (S (A4d.getD k []))):=by
 have:k<A4d.length:=hk
 simp[A3g,this]
theorem A0a {w:World}{g:Nat}{cs:Array Value}{t:TypeId}{fr:Nat×Nat}(h:w.heap[g]?=some (.cells cs t fr))(i:Nat)(v:Value)(hi:cs[i]?=some v):w.cell? ⟨g,i,none⟩=some v:=by
 simp[World.cell?,h,hi]
theorem A0b {w:World}{g:Nat}{cs:Array Value}{t:TypeId}(h:w.heap[g]?=some (.cells cs t (0,0)))(i:Nat):w.frozen? ⟨g,i,none⟩=false:=by
 simp[World.frozen?,h]
theorem A0j (w:World)(o o':Obj):((w.alloc o).alloc o').heap[w.heap.size+1]?=some o':=by
 have:=heap_alloc_new (w.alloc o) o'
 rwa [show(w.alloc o).heap.size=w.heap.size+1 by simp] at this
theorem A0o (w:World)(o o':Obj):((w.alloc o).alloc o').heap[w.heap.size]?=some o:=by
 rw[Below.heap_alloc _ _ _ (by simp)];exact heap_alloc_new w o
theorem B0h {w:World}{g:Nat}{a0 a1 a2 a3 a4 a5:Value}{t:TypeId}(h:w.heap[g]?=some (.cells #[a0,a1,a2,a3,a4,a5] t (0,0))) :
  w.cell? ⟨g,0,none⟩=some a0∧w.cell? ⟨g,1,none⟩=some a1∧w.cell? ⟨g,2,none⟩=some a2∧w.cell? ⟨g,3,none⟩=some a3∧w.cell? ⟨g,4,none⟩=some a4∧w.cell? ⟨g,5,none⟩=some a5:=
 ⟨A0a h 0 _ rfl,A0a h 1 _ rfl,A0a h 2 _ rfl,A0a h 3 _ rfl,A0a h 4 _ rfl,A0a h 5 _ rfl⟩
theorem A0y {w:World}{g:Nat}{a0 a1:Value}{t:TypeId}(h:w.heap[g]?=some (.cells #[a0,a1] t (0,0))) :
  w.cell? ⟨g,0,none⟩=some a0∧w.cell? ⟨g,1,none⟩=some a1:=⟨A0a h 0 _ rfl,A0a h 1 _ rfl⟩
theorem A4p {w:World}{g:Nat}{a0 a1 a2:Value}{t:TypeId}(h:w.heap[g]?=some (.cells #[a0,a1,a2] t (0,0))) :
  w.cell? ⟨g,0,none⟩=some a0∧w.cell? ⟨g,1,none⟩=some a1∧w.cell? ⟨g,2,none⟩=some a2:=⟨A0a h 0 _ rfl,A0a h 1 _ rfl,A0a h 2 _ rfl⟩
theorem Row.other {α:Type}{E:EK α}{w:World}{base g:Nat}{v:Value}{l:List α}(h:Row E w base v l)(hne:v.ownBlock≠some g)(i:Nat)(x:Value):Row E (w.setCell ⟨g,i,none⟩ x) base v l:=by
 refine⟨h.1,?_⟩
 rcases h.2 with hn|⟨g',cap,cur,hv,hbg,hg,r⟩
 ·exact .inl hn
 ·refine .inr ⟨g',cap,cur,hv,hbg,?_,r⟩
  rw[Below.heap_setCell _ _ _ _ (by intro e;apply hne;rw[hv];simp[Value.ownBlock];exact e)]
  exact hg
theorem Row.ne_blk {α:Type}{E:EK α}{w:World}{base g:Nat}{v:Value}{l:List α}(h:Row E w base v l){cs:Array Value}{t:TypeId}{fr:Nat×Nat}(hb:w.heap[g]?=some (.cells cs t fr))(ht:t≠E.elem):v.ownBlock≠some g:=by
 rcases h.2 with⟨hv,_⟩|⟨g',cap,cur,hv,_,hg,_⟩
 ·rw[hv];simp[Value.ownBlock]
 ·rw[hv]
  simp only[Value.ownBlock,ne_eq,Option.some.injEq]
  intro e
  rw[e,hb] at hg
  simp at hg
  exact ht hg.2.1
theorem A0e (b o i:Nat):(⟨b,o,none⟩:Addr).add i=⟨b,o+i,none⟩:=by unfold Addr.add;split <;> simp_all
theorem Row.get {α:Type}{E:EK α}{w:World}{base:Nat}{ao:Option Addr}{n cap:Nat}{l:List α}(h:Row E w base (.slice ao n cap) l){k:Nat}{a : α}(ha:l[k]?=some a) :
  ∃ g,ao=some ⟨g,0,none⟩∧∀ j u,(E.enc a)[j]?=some u→w.cell? ⟨g,k*E.size+j,none⟩=some u:=by
 rcases h.2 with⟨hv,hn⟩|⟨g,cap',cur,hv,hbg,hg,r⟩
 ·rw[List.eq_nil_of_length_eq_zero hn] at ha;simp at ha
 ·simp at hv
  obtain⟨rfl,rfl,rfl⟩:=hv
  refine⟨g,rfl,?_⟩
  intro j u hu
  have hj:j<E.size:=by
   rw[←E.len a]
   rcases Nat.lt_or_ge j (E.enc a).length with h1|h1
   ·exact h1
   ·rw[List.getElem?_eq_none h1] at hu;cases hu
  have:=World.ownsRow.cells h (g:=g) rfl (k*E.size+j) u (by rw[E.flat_at l k j a ha hj];exact hu)
  rw[A0e,Nat.zero_add] at this
  exact this
theorem Row.len {α:Type}{E:EK α}{w:World}{base:Nat}{ao:Option Addr}{n cap:Nat}{l:List α}(h:Row E w base (.slice ao n cap) l):n=l.length:=by
 obtain⟨ac,cap',e⟩:=h.shape
 simp at e
 exact e.2.1
structure FI where
 name:List UInt8
 number:Int
 kind:Int
 type:List UInt8
 many:Bool
 choice:Int
deriving DecidableEq
structure MI where
 name:List UInt8
 fields:List FI
 barred:List Int
deriving DecidableEq
structure II where
 name:List UInt8
 value:Int
deriving DecidableEq
structure EI where
 name:List UInt8
 items:List II
deriving DecidableEq
structure GI where
 msgs:List MI
 enums:List EI
deriving DecidableEq
def RdL {α:Type}(sz:Nat)(P:World→Addr→α→Prop)(w:World)(v:Value)(l:List α):Prop:=
 ∃ ao n cap,v = .slice ao n cap∧l.length=n∧n≤cap∧cap≤maxLen∧(ao=none→n=0∧cap=0)∧∀ x,ao=some x→∀ k a,l[k]?=some a→P w (x.add (k*sz)) a
def A5g {α:Type}(P:World→Addr→α→Prop):Prop:=∀ (w w':World) (x:Addr) (a : α),Below w.heap.size w w'→P w x a→P w' x a
theorem A0c {w w':World}{x:Addr}{v:Value}(hb:Below w.heap.size w w')(h:w.cell? x=some v):w'.cell? x=some v:=by
 rw[hb.cell (World.block_lt_of_cell? w x h)];exact h
theorem RdL.below {α:Type}{sz:Nat}{P:World→Addr→α→Prop}(hP:A5g P){w w':World}{v:Value}{l:List α}(h:RdL sz P w v l)(hb:Below w.heap.size w w'):RdL sz P w' v l:=by
 obtain⟨ao,n,cap,rfl,h1,h2,h3,h4,h5⟩:=h
 exact⟨ao,n,cap,rfl,h1,h2,h3,h4,fun x hx k a ha=>hP w w' _ a hb (h5 x hx k a ha)⟩
theorem RdL.nil {α:Type}(sz:Nat)(P:World→Addr→α→Prop)(w:World):RdL sz P w (.slice none 0 0) []:=⟨none,0,0,rfl,rfl,Nat.le_refl _,by unfold maxLen;omega,fun _=>⟨rfl,rfl⟩,fun x hx=>by cases hx⟩
def SAt (w:World)(x:Addr)(s:List UInt8):Prop:=w.cell? x=some (.string (S s))
def NAt (w:World)(x:Addr)(n:Int):Prop:=w.cell? x=some (.int .i64 n)
def FAt (w:World)(x:Addr)(f:FI):Prop:=w.cell? x=some (.string (S f.name))∧w.cell? (x.add 1)=some (.int .i64 f.number)∧w.cell? (x.add 2)=some (.int .i64 f.kind)∧w.cell? (x.add 3)=some (.string (S f.type))∧w.cell? (x.add 4)=some (.bool f.many)∧w.cell? (x.add 5)=some (.int .i64 f.choice)
def TAt (w:World)(x:Addr)(i:II):Prop:=w.cell? x=some (.string (S i.name))∧w.cell? (x.add 1)=some (.int .i64 i.value)
theorem SAt.stays:A5g SAt:=fun _ _ _ _ hb h=>A0c hb h
theorem NAt.stays:A5g NAt:=fun _ _ _ _ hb h=>A0c hb h
theorem FAt.stays:A5g FAt:=fun _ _ _ _ hb h=>⟨A0c hb h.1,A0c hb h.2.1,A0c hb h.2.2.1,A0c hb h.2.2.2.1,A0c hb h.2.2.2.2.1,A0c hb h.2.2.2.2.2⟩
theorem TAt.stays:A5g TAt:=fun _ _ _ _ hb h=>⟨A0c hb h.1,A0c hb h.2⟩
def MAt (w:World)(x:Addr)(m:MI):Prop:=∃ vf vb,w.cell? x=some (.string (S m.name))∧w.cell? (x.add 1)=some vf∧w.cell? (x.add 2)=some vb∧RdL 6 FAt w vf m.fields∧RdL 1 NAt w vb m.barred
def EAt (w:World)(x:Addr)(e:EI):Prop:=∃ vi,w.cell? x=some (.string (S e.name))∧w.cell? (x.add 1)=some vi∧RdL 2 TAt w vi e.items
theorem MAt.stays:A5g MAt:=fun _ _ _ _ hb ⟨vf,vb,h1,h2,h3,h4,h5⟩=>⟨vf,vb,A0c hb h1,A0c hb h2,A0c hb h3,h4.below FAt.stays hb,h5.below NAt.stays hb⟩
theorem EAt.stays:A5g EAt:=fun _ _ _ _ hb ⟨vi,h1,h2,h3⟩=>⟨vi,A0c hb h1,A0c hb h2,h3.below TAt.stays hb⟩
def GRd (w:World)(vm ve:Value)(g:GI):Prop:=RdL 3 MAt w vm g.msgs∧RdL 2 EAt w ve g.enums
theorem GRd.below {w w':World}{vm ve:Value}{g:GI}(h:GRd w vm ve g)(hb:Below w.heap.size w w'):GRd w' vm ve g:=⟨h.1.below MAt.stays hb,h.2.below EAt.stays hb⟩
def D9m (l:List UInt8):List Value:=[.string (S l)]
def ekS:EK (List UInt8) where
 elem:=9
 slice:=93
 size:=1
 bytes:=16
 zero:=.string ⟨#[]⟩
 enc:=D9m
 under:=Tryz.underlying93
 info:=by kernel_rfl
 zs:=rfl
 pos:=by decide
 small:=by decide
 len:=fun _=>rfl
 one:=by intro a u hu;simp only[D9m,List.mem_singleton] at hu;subst hu;rfl
def D6y (n:Int):List Value:=[.int .i64 n]
def ekN:EK Int where
 elem:=3
 slice:=30
 size:=1
 bytes:=8
 zero:=.int .i64 0
 enc:=D6y
 under:=Tryz.underlying30
 info:=by kernel_rfl
 zs:=rfl
 pos:=by decide
 small:=by decide
 len:=fun _=>rfl
 one:=by intro a u hu;simp only[D6y,List.mem_singleton] at hu;subst hu;rfl
theorem Row.rd {α:Type}{E:EK α}{w:World}{base:Nat}{v:Value}{l:List α}(h:Row E w base v l)(P:World→Addr→α→Prop)(hP:∀ g i a,(∀ j u,(E.enc a)[j]?=some u→w.cell? ⟨g,i+j,none⟩=some u)→P w ⟨g,i,none⟩ a):RdL E.size P w v l:=by
 obtain⟨ao,cap,rfl⟩:=h.shape
 refine⟨ao,l.length,cap,rfl,rfl,?_,?_,?_,?_⟩
 ·rcases h.2 with⟨hv,hn⟩|⟨g,cap',cur,hv,_,_,hc,_⟩
  ·simp at hv;omega
  ·simp at hv;omega
 ·rcases h.2 with⟨hv,hn⟩|⟨g,cap',cur,hv,_,_,_,hm,_⟩
  ·simp at hv;unfold maxLen;omega
  ·simp at hv;rw[hv.2];exact hm
 ·intro e
  subst e
  rcases h.2 with⟨hv,hn⟩|⟨g,cap',cur,hv,_⟩
  ·simp at hv;exact⟨hn,hv.2⟩
  ·simp at hv
 ·intro x hx k a ha
  obtain⟨g,hg,hc⟩:=h.get ha
  rw[hx] at hg
  cases hg
  rw[A0e,Nat.zero_add]
  exact hP g _ a hc
theorem Row.rdS {w:World}{base:Nat}{v:Value}{l:List (List UInt8)}(h:Row ekS w base v l):RdL 1 SAt w v l:=h.rd SAt fun g i a hc=>by have:=hc 0 _ rfl;simpa [SAt] using this
theorem Row.rdN {w:World}{base:Nat}{v:Value}{l:List Int}(h:Row ekN w base v l):RdL 1 NAt w v l:=h.rd NAt fun g i a hc=>by have:=hc 0 _ rfl;simpa [NAt] using this
def A8s {α:Type}(P:World→Addr→α→Prop):Prop:=∀ (w:World) (b off:Nat) (spot:_) (a : α),P w ⟨b,off,spot⟩ a→spot=none
theorem RdL.get {α:Type}{sz:Nat}{P:World→Addr→α→Prop}(hP:A8s P){w:World}{ao:Option Addr}{n cap:Nat}{l:List α}(h:RdL sz P w (.slice ao n cap) l){k:Nat}{a : α}(ha:l[k]?=some a) :
  ∃ b off,ao=some ⟨b,off,none⟩∧P w ⟨b,off+k*sz,none⟩ a:=by
 obtain⟨ag,n',cap',e,h1,h2,h3,h4,h5⟩:=h
 cases e
 cases ao with
 | none=>
  have h0:=(h4 rfl).1
  rw[List.eq_nil_of_length_eq_zero (h1.trans h0)] at ha
  simp at ha
 | some x=>
  obtain⟨b,off,spot⟩:=x
  have hl:0<l.length:=Nat.lt_of_le_of_lt (Nat.zero_le k) (List.getElem?_eq_some_iff.1 ha).1
  have ac:=h5 _ rfl 0 _ (List.getElem?_eq_getElem hl)
  have e0:(⟨b,off,spot⟩:Addr).add (0*sz)=⟨b,off,spot⟩:=by simp[Addr.add]
  rw[e0] at ac
  have hs:=hP _ _ _ _ _ ac
  subst hs
  have hp:=h5 _ rfl k a ha
  rw[A0e] at hp
  exact⟨b,off,rfl,hp⟩
theorem RdL.len {α:Type}{sz:Nat}{P:World→Addr→α→Prop}{w:World}{ao:Option Addr}{n cap:Nat}{l:List α}(h:RdL sz P w (.slice ao n cap) l):n=l.length∧n≤cap∧cap≤maxLen:=by
 obtain⟨ac,n',cap',e,h1,h2,h3,_⟩:=h
 cases e
 exact⟨h1.symm,h2,h3⟩
theorem RdL.shape {α:Type}{sz:Nat}{P:World→Addr→α→Prop}{w:World}{v:Value}{l:List α}(h:RdL sz P w v l):∃ ao n cap,v = .slice ao n cap∧Hid (n=l.length)∧n≤9223372036854775807:=by
 obtain⟨ao,n,cap,e,h1,h2,h3,_⟩:=h
 exact⟨ao,n,cap,e,h1.symm,by unfold maxLen at h3;omega⟩
theorem A1z {w:World}{b off:Nat}{spot:_}{v:Value}(h:w.cell? ⟨b,off,spot⟩=some v):spot=none:=World.cell?_spot h
theorem SAt.plain:A8s SAt:=fun _ _ _ _ _ h=>A1z h
theorem NAt.plain:A8s NAt:=fun _ _ _ _ _ h=>A1z h
theorem FAt.plain:A8s FAt:=fun _ _ _ _ _ h=>A1z h.1
theorem TAt.plain:A8s TAt:=fun _ _ _ _ _ h=>A1z h.1
theorem MAt.plain:A8s MAt:=fun _ _ _ _ _ ⟨_,_,h,_⟩=>A1z h
theorem EAt.plain:A8s EAt:=fun _ _ _ _ _ ⟨_,h,_⟩=>A1z h
theorem FAt.at {w:World}{b o:Nat}{f:FI}(h:FAt w ⟨b,o,none⟩ f):w.cell? ⟨b,o,none⟩=some (.string (S f.name))∧w.cell? ⟨b,o+1,none⟩=some (.int .i64 f.number)∧w.cell? ⟨b,o+2,none⟩=some (.int .i64 f.kind)∧w.cell? ⟨b,o+3,none⟩=some (.string (S f.type))∧w.cell? ⟨b,o+4,none⟩=some (.bool f.many)∧w.cell? ⟨b,o+5,none⟩=some (.int .i64 f.choice):=by
 simp only[FAt,A0e] at h;exact h
theorem TAt.at {w:World}{b o:Nat}{f:II}(h:TAt w ⟨b,o,none⟩ f):w.cell? ⟨b,o,none⟩=some (.string (S f.name))∧w.cell? ⟨b,o+1,none⟩=some (.int .i64 f.value):=by
 simp only[TAt,A0e] at h;exact h
theorem MAt.at {w:World}{b o:Nat}{m:MI}(h:MAt w ⟨b,o,none⟩ m):∃ vf vb,w.cell? ⟨b,o,none⟩=some (.string (S m.name))∧w.cell? ⟨b,o+1,none⟩=some vf∧w.cell? ⟨b,o+2,none⟩=some vb∧RdL 6 FAt w vf m.fields∧RdL 1 NAt w vb m.barred:=by
 simp only[MAt,A0e] at h;exact h
theorem EAt.at {w:World}{b o:Nat}{m:EI}(h:EAt w ⟨b,o,none⟩ m):∃ vi,w.cell? ⟨b,o,none⟩=some (.string (S m.name))∧w.cell? ⟨b,o+1,none⟩=some vi∧RdL 2 TAt w vi m.items:=by
 simp only[EAt,A0e] at h;exact h
theorem A0z {α:Type}{l:List α}{k:Nat}{a : α}(h:l[k]?=some a):l.take (k+1)=l.take k++[a]:=by rw[List.take_add_one,h];rfl
theorem A3u {α:Type}{l:List α}{k:Nat}{a : α}(h:l[k]?=some a):a∈l:=List.mem_of_getElem? h
theorem C4s {v:Value}{l:List (List UInt8)}{w:World}(h:RdL 1 SAt w v l)(x:List UInt8) :
  Calls Tryz.prog 211 #[v,.string (S x)] w fun e w'=>∃ r:Int,e = .returned (.int .i64 r)∧decide (0≤r)=decide (x∈l)∧w=w':=by
 obtain⟨ao,n,cap,rfl,Hn,ac⟩:=h.shape
 have hl:=A2t x
 go_enter Tryz.func211,Tryz.ntmps211
 go_wp2_with fail
 go_loopg [8] n (fun m i wr=>∃ k:Nat,k+m=n∧i = .int .i64 k∧Hid (x∉l.take k)∧w=wr)
 case atStart=>exact⟨0,by omega,rfl,by show ¬ _;simp,rfl⟩
 case round=>
  obtain⟨k,hk,rfl,HK,rfl⟩:=hrel
  by_cases hlt:k<n
  ·obtain⟨a,Ha⟩:∃ a,Hid (l[k]?=some a):=⟨l[k]'(by rw[←Hn.out];exact hlt),List.getElem?_eq_getElem (by rw[←Hn.out];exact hlt)⟩
   obtain⟨b,off,rfl,hc⟩:=h.get SAt.plain Ha.out
   have hc:w.cell? ⟨b,off+k*1,none⟩=some (.string (S a)):=hc
   rw[Nat.mul_one] at hc
   have ah:=A2t a
   have ag:(k:Int)<(n:Int):=by omega
   by_cases hxa:x=a
   ·have HM:Hid (x∈l):=by show _∈_;rw[hxa];exact A3u Ha.out
    have hb:(x==a)=true:=by simp[hxa]
    clear hxa
    go_wp2
    go_ret
    exact⟨_,rfl,by simp[HM.out],rfl⟩
   ·have hb:(x==a)=false:=by simp[hxa]
    have HX:Hid (x∉l.take (k+1)):=by
     show ¬ _;rw[A0z Ha.out];simp[hxa];exact HK.out
    clear hxa
    go_wp2_with fail
    go_roundg (n-(k+1))
    case measure=>omega
    case rel=>exact⟨k+1,by omega,by go_num,HX,rfl⟩
  ·have HX:Hid (x∉l):=by show ¬ _;have:=HK.out;rwa [List.take_of_length_le (by rw[←Hn.out];omega)] at this
   go_wp2
   go_ret
   exact⟨_,rfl,by simp[HX.out],rfl⟩
def I64 (n:Int):Prop:=-9223372036854775808≤n∧n≤9223372036854775807
end L
end Go.Proofs.YtgaoojpakjjdnaaGreatDoor
