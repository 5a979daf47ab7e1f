import Derived.Test.YtgaoojpakjjdnaaGreatDoorV00
import Derived.Shelf.Small.Strs
import Derived.Shelf.LaysM
import Derived.Shelf.LaysC
import Derived.Shelf.Strconv.Clone
import Derived.Shelf.Strconv.ErrVarAll
import Derived.Shelf.Strings.Prefix
import Derived.Lib.IndexLaws
set_option maxHeartbeats 32000000
set_option maxRecDepth 100000
namespace Go.Proofs.YtgaoojpakjjdnaaGreatDoor
open Go.RowKit
theorem A1r {k:IntKind}{a b:Int}(h:a=b):Ending.returned (.int k a) = .returned (.int k b):=by rw[h]
theorem A2v {a b:Bool}(h:a=b):Ending.returned (.bool a) = .returned (.bool b):=by rw[h]
def S (l:List UInt8):ByteArray:=⟨l.toArray⟩
theorem A3j (l:List UInt8):(S l).size=l.length:=by simp[S,ByteArray.size]
theorem A2t (l:List UInt8):(S l).toList=l:=by
 rw[ByteArray.toList_eq];simp[S]
theorem A2x (c:UInt8)(w:World):Calls Tryz.prog 212 #[.int .u8 (c.toNat:Int)] w fun e w'=>e = .returned (.bool (C2c c))∧w=w':=by
 obtain⟨X,HX⟩:∃ X:Nat,Hid (X=c.toNat):=⟨_,rfl⟩
 have HL:Hid (C2c c=((decide (97≤X)&&decide (X≤122))||(decide (65≤X)&&decide (X≤90)))):=by show _=_;rw[HX.out];rfl
 have hX:X<256:=by rw[HX.out];exact UInt8.toNat_lt _
 rw[←HX.out,HL.out]
 clear HX HL
 by_cases h1:97≤X
 ·by_cases h2:X≤122
  rotate_right
  rotate_right
  all_goals
   go_enter Tryz.func212,Tryz.ntmps212
   go_wp2
   all_goals (go_ret;refine⟨A2v ?_,rfl⟩;(try rw[Bool.eq_iff_iff]);(try simp);(try omega))
 ·go_enter Tryz.func212,Tryz.ntmps212
  go_wp2
  all_goals (go_ret;refine⟨A2v ?_,rfl⟩;(try rw[Bool.eq_iff_iff]);(try simp);(try omega))
theorem A6k (c:UInt8)(w:World):Calls Tryz.prog 213 #[.int .u8 (c.toNat:Int)] w fun e w'=>e = .returned (.bool (B5n c))∧w=w':=by
 obtain⟨X,HX⟩:∃ X:Nat,Hid (X=c.toNat):=⟨_,rfl⟩
 have HL:Hid (B5n c=(decide (48≤X)&&decide (X≤57))):=by show _=_;rw[HX.out];rfl
 have hX:X<256:=by rw[HX.out];exact UInt8.toNat_lt _
 rw[←HX.out,HL.out]
 clear HX HL
 by_cases h1:48≤X
 rotate_right
 rotate_right
 all_goals
  go_enter Tryz.func213,Tryz.ntmps213
  go_wp2
  all_goals (go_ret;refine⟨A2v ?_,rfl⟩;(try rw[Bool.eq_iff_iff]);(try simp);(try omega))
theorem B0e (l:List UInt8)(k:Nat)(h:k<(S l).size):(S l)[k]'h=l.getD k 0:=by
 have hk:k<l.length:=by rw[←A3j];exact h
 have e:(S l)[k]'h=l[k]'hk:=rfl
 rw[e];simp[hk]
theorem D8k (l:List UInt8)(k:Nat)(hk:k≤l.length)(w:World):(Instr.slice 9 (.string (S l)) none (some (.int .i64 (k:Int))) none).run Tryz.prog w = .ok (.string (S (l.take k))) w:=by
 rw[run_slice_string_h (ht:=Tryz.underlying9) (h0:=by omega) (h2:=by rw[A3j];omega)]
 rw[Lib.extract_eq];simp[S]
theorem D4r (l:List UInt8)(k:Nat)(hk:k≤l.length)(w:World):(Instr.slice 9 (.string (S l)) (some (.int .i64 (k:Int))) none none).run Tryz.prog w = .ok (.string (S (l.drop k))) w:=by
 rw[run_slice_string_l (ht:=Tryz.underlying9) (h0:=by omega) (h1:=by rw[A3j];omega)]
 rw[Lib.extract_eq];simp[S,ByteArray.size];exact List.take_of_length_le (by simp)
theorem A7j {p:UInt8→Bool}{l:List UInt8}{k:Nat}(hlt:k<l.length)(h:p (l.getD k 0)=true):((l.drop k).takeWhile p).length=1+((l.drop (k+1)).takeWhile p).length:=by
 have e:l.getD k 0=l[k]:=by simp[hlt]
 rw[List.drop_eq_getElem_cons hlt,List.takeWhile_cons,if_pos (by rw[←e];exact h)];simp;omega
theorem B7c {p:UInt8→Bool}{l:List UInt8}{k:Nat}(hlt:k<l.length)(h:p (l.getD k 0)=false):((l.drop k).takeWhile p).length=0:=by
 have e:l.getD k 0=l[k]:=by simp[hlt]
 rw[List.drop_eq_getElem_cons hlt,List.takeWhile_cons,if_neg (by rw[←e,h];simp)];rfl
theorem A4a (l:List UInt8)(hl:l.length≤9223372036854775807)(w:World):Calls Tryz.prog 156 #[.string (S l)] w fun e w'=>e = .returned (.int .i64 (A1c l:Int))∧w=w':=by
 have hsz:=A3j l
 have ac:=A2t l
 cases l with
 | nil=>
  go_enter Tryz.func156,Tryz.ntmps156
  go_wp2
  go_ret
  exact⟨rfl,rfl⟩
 | cons c r=>
  have ah:(S (c::r)).toList.isEmpty=false:=by rw[A2t];rfl
  by_cases h0:C2c c=true
  ·have HW:Hid (A1c (c::r)=1+((c::r).drop 1 |>.takeWhile A7c).length):=by show _=_;simp[A1c,h0]
   have hL:∀ h,C2c ((S (c::r))[0]'h)=true:=by intro h;rw[B0e];exact h0
   obtain⟨l,Hl⟩:∃ l,Hid (l=c::r):=⟨_,rfl⟩
   rw[←Hl.out] at HW hL ah ac hsz hl ⊢
   have hlen:1≤l.length:=by rw[Hl.out];simp
   clear Hl h0 ac
   go_enter Tryz.func156,Tryz.ntmps156
   go_wp2_with fail
   refine(A2x _ _).mono ?_
   rintro e w1 ⟨rfl,rfl⟩
   rw[hL]
   clear hL
   go_wp2
   go_loop [3] (fun n=>∃ k:Nat,1≤k∧k≤l.length∧n = .int .i64 k∧Hid (A1c l=k+((l.drop k).takeWhile A7c).length)) (fun n=>l.length-(intOf n).toNat)
   case atStart=>exact⟨1,Nat.le_refl _,hlen,rfl,HW⟩
   case round=>
    obtain⟨k,aj,hk,rfl,HR⟩:=hrel
    by_cases hlt:k<l.length
    ·have hx:∀ h,(S l)[k]'h=l.getD k 0:=B0e l k
     obtain⟨x,Hx⟩:∃ x,Hid (x=l.getD k 0):=⟨_,rfl⟩
     have ak:∀ h,(S l)[k]'h=x:=by intro h;rw[B0e,Hx.out]
     clear hx
     go_wp2_with fail
     refine(A2x _ _).mono ?_
     rintro e w1 ⟨rfl,rfl⟩
     by_cases h1:C2c x=true
     ·rw[h1]
      go_wp2
      go_round
      case rel=>exact⟨k+1,by omega,by omega,by go_num,by show _=_;rw[HR.out,A7j hlt (by rw[←Hx.out];simp[A7c,h1])];omega⟩
      case measure=>simp[intOf];omega
     ·rw[Bool.eq_false_iff.2 h1]
      go_wp2_with fail
      refine(A6k _ _).mono ?_
      rintro e w1 ⟨rfl,rfl⟩
      by_cases h2:B5n x=true
      ·rw[h2]
       go_wp2
       go_round
       case rel=>exact⟨k+1,by omega,by omega,by go_num,by show _=_;rw[HR.out,A7j hlt (by rw[←Hx.out];simp[A7c,h2])];omega⟩
       case measure=>simp[intOf];omega
      ·rw[Bool.eq_false_iff.2 h2]
       by_cases h3:x.toNat=95
       ·have ag:((x.toNat:Int)==95)=true:=beq_iff_eq.2 (by omega)
        go_wp2
        go_round
        case rel=>exact⟨k+1,by omega,by omega,by go_num,by show _=_;rw[HR.out,A7j hlt (by rw[←Hx.out];simp[A7c,h3])];omega⟩
        case measure=>simp[intOf];omega
       ·have ag:((x.toNat:Int)==95)=false:=beq_eq_false_iff_ne.2 (by omega)
        have h4:A7c x=false:=by simp[A7c,Bool.eq_false_iff.2 h1,Bool.eq_false_iff.2 h2,h3]
        go_wp2
        go_ret
        refine⟨A1r ?_,rfl⟩
        rw[HR.out,B7c hlt (by rw[←Hx.out];exact h4)]
        simp
    ·go_wp2
     go_ret
     refine⟨A1r ?_,rfl⟩
     rw[HR.out,List.drop_eq_nil_of_le (by omega)]
     simp
  ·have hL:∀ h,C2c ((S (c::r))[0]'h)=false:=by intro h;rw[B0e];exact Bool.eq_false_iff.2 h0
   have HW:Hid (A1c (c::r)=0):=by show _=_;simp[A1c,h0]
   go_enter Tryz.func156,Tryz.ntmps156
   go_wp2_with fail
   refine(A2x _ _).mono ?_
   rintro e w1 ⟨rfl,rfl⟩
   rw[hL]
   clear hL
   go_wp2
   go_ret
   exact⟨A1r (by rw[HW.out];rfl),rfl⟩
theorem B1f (l:List UInt8)(hl:l.length≤9223372036854775807)(w:World):Calls Tryz.prog 260 #[.string (S l)] w fun e w'=>e = .returned (.int .i64 (A4r l:Int))∧w=w':=by
 have hsz:=A3j l
 have HW:Hid (A4r l=0+((l.drop 0).takeWhile B5n).length):=by show _=_;simp[A4r]
 go_enter Tryz.func260,Tryz.ntmps260
 go_wp2
 go_loop [3] (fun n=>∃ k:Nat,k≤l.length∧n = .int .i64 k∧Hid (A4r l=k+((l.drop k).takeWhile B5n).length)) (fun n=>l.length-(intOf n).toNat)
 case atStart=>exact⟨0,Nat.zero_le _,rfl,HW⟩
 case round=>
  obtain⟨k,hk,rfl,HR⟩:=hrel
  by_cases hlt:k<l.length
  ·obtain⟨x,Hx⟩:∃ x,Hid (x=l.getD k 0):=⟨_,rfl⟩
   have ac:∀ h,(S l)[k]'h=x:=by intro h;rw[B0e,Hx.out]
   go_wp2_with fail
   refine(A6k _ _).mono ?_
   rintro e w1 ⟨rfl,rfl⟩
   by_cases h2:B5n x=true
   ·rw[h2]
    go_wp2
    go_round
    case rel=>exact⟨k+1,by omega,by go_num,by show _=_;rw[HR.out,A7j hlt (by rw[←Hx.out];exact h2)];omega⟩
    case measure=>simp[intOf];omega
   ·rw[Bool.eq_false_iff.2 h2]
    go_wp2
    go_ret
    refine⟨A1r ?_,rfl⟩
    rw[HR.out,B7c hlt (by rw[←Hx.out];exact Bool.eq_false_iff.2 h2)]
    simp
  ·go_wp2
   go_ret
   refine⟨A1r ?_,rfl⟩
   rw[HR.out,List.drop_eq_nil_of_le (by omega)]
   simp
end Go.Proofs.YtgaoojpakjjdnaaGreatDoor
namespace Go.Proofs
open Go.Shelf
def Tryz.lays137_ren:Go.Shelf.Ren:=⟨fun|137=>258|217=>263|266=>266|n=>n,fun|9=>9|5=>5|3=>3|n=>n,fun|n=>n⟩
theorem Tryz.lays137:Go.Proofs.Lays.n137 Tryz.prog Tryz.lays137_ren:={
 mixed:=by kernel_rfl
 f137:=Tryz.func258.trans (congrArg some (by kernel_rfl))
 f217:=Tryz.func263.trans (congrArg some (by kernel_rfl))
 f266:=Tryz.func266.trans (congrArg some (by kernel_rfl))
 t3:=Tryz.underlying3
 a3:=Tryz.isAgg3
 z3:=Tryz.sizeOf3
 v3:=Tryz.zeroValue3
 t5:=Tryz.underlying5
 a5:=Tryz.isAgg5
 z5:=Tryz.sizeOf5
 v5:=Tryz.zeroValue5
 t9:=Tryz.underlying9
 a9:=Tryz.isAgg9
 z9:=Tryz.sizeOf9
 v9:=Tryz.zeroValue9 }
open Go.RowKit in
theorem Tryz.strings_IndexByte (s:ByteArray)(c:Int)(w:World) :
  Calls Tryz.prog 258 #[.string s,.int .u8 c] w fun e w'=>e = .returned (.int .i64 (Lib.indexByte s.data.toList c.toNat.toUInt8))∧w'=w:=Any.strings_IndexByte Tryz.lays137 s c w
def Tryz.laysM316_ren:Go.Shelf.Ren:=⟨fun|316=>259|n=>n,fun|9=>9|3=>3|4=>4|37=>32|0=>0|127=>301|5=>5|n=>n,fun|n=>n⟩
theorem Tryz.laysM316:Go.Proofs.LaysM.n316 Tryz.prog Tryz.laysM316_ren:={
 mixed:=by kernel_rfl
 f316:=Tryz.func259.trans (congrArg some (by kernel_rfl))
 t0:=Tryz.underlying0
 a0:=Tryz.isAgg0
 z0:=Tryz.sizeOf0
 v0:=Tryz.zeroValue0
 t3:=Tryz.underlying3
 a3:=Tryz.isAgg3
 z3:=Tryz.sizeOf3
 v3:=Tryz.zeroValue3
 t4:=Tryz.underlying4
 a4:=Tryz.isAgg4
 z4:=Tryz.sizeOf4
 v4:=Tryz.zeroValue4
 t9:=Tryz.underlying9
 a9:=Tryz.isAgg9
 z9:=Tryz.sizeOf9
 v9:=Tryz.zeroValue9
 t37:=Tryz.underlying32
 a37:=Tryz.isAgg32
 z37:=Tryz.sizeOf32
 v37:=Tryz.zeroValue32
 t127:=Tryz.underlying301
 a127:=Tryz.isAgg301
 z127:=Tryz.sizeOf301
 v127:=Tryz.zeroValue301
 t5:=Tryz.underlying5
 a5:=Tryz.isAgg5
 z5:=Tryz.sizeOf5
 v5:=Tryz.zeroValue5
 i0:=by kernel_rfl
 i3:=by kernel_rfl
 i4:=by kernel_rfl
 i5:=by kernel_rfl
 i9:=by kernel_rfl
 i37:=by kernel_rfl
 i127:=by kernel_rfl }
open Go.RowKit in
theorem Tryz.stringslite_Clone (s:ByteArray)(w:World)(ac:s.size≤281474976710656) :
  Calls Tryz.prog 259 #[.string s] w fun e w'=>e = .returned (.string s)∧Below w.heap.size w w':=Any.stringslite_Clone Tryz.laysM316 s w ac
def Tryz.laysC172_ren:Go.Shelf.Ren:=⟨fun|172=>261|244=>264|245=>265|247=>267|279=>268|280=>269|281=>270|282=>271|287=>272|316=>259|171=>274|205=>273|321=>275|322=>276|243=>277|246=>278|283=>279|284=>280|285=>281|286=>282|129=>243|317=>283|318=>284|319=>285|320=>286|337=>287|338=>288|n=>n,fun|9=>9|3=>3|75=>295|76=>296|4=>4|5=>5|167=>303|37=>32|0=>0|85=>304|2=>2|168=>306|53=>63|175=>309|46=>214|210=>312|127=>301|145=>318|143=>316|21=>21|171=>320|173=>322|212=>325|51=>279|20=>20|213=>326|232=>327|233=>328|80=>264|n=>n,fun|15=>3|16=>4|17=>5|18=>6|19=>7|n=>n⟩
theorem Tryz.laysC172:Go.Proofs.LaysC.n172 Tryz.prog Tryz.laysC172_ren:={
 mixed:=by kernel_rfl
 f129:=Tryz.func243.trans (congrArg some (by kernel_rfl))
 f171:=Tryz.func274.trans (congrArg some (by kernel_rfl))
 f172:=Tryz.func261.trans (congrArg some (by kernel_rfl))
 f205:=Tryz.func273.trans (congrArg some (by kernel_rfl))
 f243:=Tryz.func277.trans (congrArg some (by kernel_rfl))
 f244:=Tryz.func264.trans (congrArg some (by kernel_rfl))
 f245:=Tryz.func265.trans (congrArg some (by kernel_rfl))
 f246:=Tryz.func278.trans (congrArg some (by kernel_rfl))
 f247:=Tryz.func267.trans (congrArg some (by kernel_rfl))
 f279:=Tryz.func268.trans (congrArg some (by kernel_rfl))
 f280:=Tryz.func269.trans (congrArg some (by kernel_rfl))
 f281:=Tryz.func270.trans (congrArg some (by kernel_rfl))
 f282:=Tryz.func271.trans (congrArg some (by kernel_rfl))
 f283:=Tryz.func279.trans (congrArg some (by kernel_rfl))
 f284:=Tryz.func280.trans (congrArg some (by kernel_rfl))
 f285:=Tryz.func281.trans (congrArg some (by kernel_rfl))
 f286:=Tryz.func282.trans (congrArg some (by kernel_rfl))
 f287:=Tryz.func272.trans (congrArg some (by kernel_rfl))
 f316:=Tryz.func259.trans (congrArg some (by kernel_rfl))
 f317:=Tryz.func283.trans (congrArg some (by kernel_rfl))
 f318:=Tryz.func284.trans (congrArg some (by kernel_rfl))
 f319:=Tryz.func285.trans (congrArg some (by kernel_rfl))
 f320:=Tryz.func286.trans (congrArg some (by kernel_rfl))
 f321:=Tryz.func275.trans (congrArg some (by kernel_rfl))
 f322:=Tryz.func276.trans (congrArg some (by kernel_rfl))
 f337:=Tryz.func287.trans (congrArg some (by kernel_rfl))
 f338:=Tryz.func288.trans (congrArg some (by kernel_rfl))
 t0:=Tryz.underlying0
 a0:=Tryz.isAgg0
 z0:=Tryz.sizeOf0
 v0:=Tryz.zeroValue0
 t2:=Tryz.underlying2
 a2:=Tryz.isAgg2
 z2:=Tryz.sizeOf2
 v2:=Tryz.zeroValue2
 t3:=Tryz.underlying3
 a3:=Tryz.isAgg3
 z3:=Tryz.sizeOf3
 v3:=Tryz.zeroValue3
 t4:=Tryz.underlying4
 a4:=Tryz.isAgg4
 z4:=Tryz.sizeOf4
 v4:=Tryz.zeroValue4
 t5:=Tryz.underlying5
 a5:=Tryz.isAgg5
 z5:=Tryz.sizeOf5
 v5:=Tryz.zeroValue5
 t9:=Tryz.underlying9
 a9:=Tryz.isAgg9
 z9:=Tryz.sizeOf9
 v9:=Tryz.zeroValue9
 t20:=Tryz.underlying20
 a20:=Tryz.isAgg20
 z20:=Tryz.sizeOf20
 v20:=Tryz.zeroValue20
 t21:=Tryz.underlying21
 a21:=Tryz.isAgg21
 z21:=Tryz.sizeOf21
 v21:=Tryz.zeroValue21
 t37:=Tryz.underlying32
 a37:=Tryz.isAgg32
 z37:=Tryz.sizeOf32
 v37:=Tryz.zeroValue32
 t46:=Tryz.underlying214
 a46:=Tryz.isAgg214
 z46:=Tryz.sizeOf214
 v46:=Tryz.zeroValue214
 t51:=Tryz.underlying279
 a51:=Tryz.isAgg279
 z51:=Tryz.sizeOf279
 v51:=Tryz.zeroValue279
 t53:=Tryz.underlying63
 a53:=Tryz.isAgg63
 z53:=Tryz.sizeOf63
 v53:=Tryz.zeroValue63
 t75:=Tryz.underlying295
 a75:=Tryz.isAgg295
 z75:=Tryz.sizeOf295
 v75:=Tryz.zeroValue295
 t76:=Tryz.underlying296
 a76:=Tryz.isAgg296
 z76:=Tryz.sizeOf296
 v76:=Tryz.zeroValue296
 t85:=Tryz.underlying304
 a85:=Tryz.isAgg304
 z85:=Tryz.sizeOf304
 v85:=Tryz.zeroValue304
 t127:=Tryz.underlying301
 a127:=Tryz.isAgg301
 z127:=Tryz.sizeOf301
 v127:=Tryz.zeroValue301
 t143:=Tryz.underlying316
 a143:=Tryz.isAgg316
 z143:=Tryz.sizeOf316
 v143:=Tryz.zeroValue316
 t145:=Tryz.underlying318
 a145:=Tryz.isAgg318
 z145:=Tryz.sizeOf318
 v145:=Tryz.zeroValue318
 t167:=Tryz.underlying303
 a167:=Tryz.isAgg303
 z167:=Tryz.sizeOf303
 v167:=Tryz.zeroValue303
 t168:=Tryz.underlying306
 a168:=Tryz.isAgg306
 z168:=Tryz.sizeOf306
 v168:=Tryz.zeroValue306
 t171:=Tryz.underlying320
 a171:=Tryz.isAgg320
 z171:=Tryz.sizeOf320
 v171:=Tryz.zeroValue320
 t173:=Tryz.underlying322
 a173:=Tryz.isAgg322
 z173:=Tryz.sizeOf322
 v173:=Tryz.zeroValue322
 t175:=Tryz.underlying309
 a175:=Tryz.isAgg309
 z175:=Tryz.sizeOf309
 v175:=Tryz.zeroValue309
 t210:=Tryz.underlying312
 a210:=Tryz.isAgg312
 z210:=Tryz.sizeOf312
 v210:=Tryz.zeroValue312
 t212:=Tryz.underlying325
 a212:=Tryz.isAgg325
 z212:=Tryz.sizeOf325
 v212:=Tryz.zeroValue325
 t213:=Tryz.underlying326
 a213:=Tryz.isAgg326
 z213:=Tryz.sizeOf326
 t232:=Tryz.underlying327
 a232:=Tryz.isAgg327
 z232:=Tryz.sizeOf327
 v232:=Tryz.zeroValue327
 t233:=Tryz.underlying328
 a233:=Tryz.isAgg328
 z233:=Tryz.sizeOf328
 v233:=Tryz.zeroValue328
 g15:=by kernel_rfl
 g16:=by kernel_rfl
 g17:=by kernel_rfl
 g18:=by kernel_rfl
 g19:=by kernel_rfl
 t80:=Tryz.underlying264
 a80:=Tryz.isAgg264
 z80:=Tryz.sizeOf264
 v80:=Tryz.zeroValue264
 i0:=by kernel_rfl
 i2:=by kernel_rfl
 i3:=by kernel_rfl
 i4:=by kernel_rfl
 i5:=by kernel_rfl
 i9:=by kernel_rfl
 i20:=by kernel_rfl
 i21:=by kernel_rfl
 i37:=by kernel_rfl
 i46:=by kernel_rfl
 i51:=by kernel_rfl
 i53:=by kernel_rfl
 i75:=by kernel_rfl
 i76:=by kernel_rfl
 i80:=by kernel_rfl
 i85:=by kernel_rfl
 i127:=by kernel_rfl
 i143:=by kernel_rfl
 i145:=by kernel_rfl
 i167:=by kernel_rfl
 i168:=by kernel_rfl
 i171:=by kernel_rfl
 i173:=by kernel_rfl
 i175:=by kernel_rfl
 i210:=by kernel_rfl
 i212:=by kernel_rfl
 i232:=by kernel_rfl
 i233:=by kernel_rfl
 m15:=by kernel_rfl
 m16:=by kernel_rfl
 m17:=by kernel_rfl
 m18:=by kernel_rfl
 m19:=by kernel_rfl
 c0:=by kernel_rfl
 c2:=by kernel_rfl
 c3:=by kernel_rfl
 c4:=by kernel_rfl
 c5:=by kernel_rfl
 c9:=by kernel_rfl
 c20:=by kernel_rfl
 c21:=by kernel_rfl
 c37:=by kernel_rfl
 c46:=by kernel_rfl
 c51:=by kernel_rfl
 c53:=by kernel_rfl
 c75:=by kernel_rfl
 c76:=by kernel_rfl
 c80:=by kernel_rfl
 c85:=by kernel_rfl
 c127:=by kernel_rfl
 c143:=by kernel_rfl
 c145:=by kernel_rfl
 c167:=by kernel_rfl
 c168:=by kernel_rfl
 c171:=by kernel_rfl
 c173:=by kernel_rfl
 c175:=by kernel_rfl
 c210:=by kernel_rfl
 c212:=by kernel_rfl
 c213:=by kernel_rfl
 c232:=by kernel_rfl
 c233:=by kernel_rfl }
open Go.RowKit in
theorem Tryz.strconv_Atoi_ok (s:ByteArray)(ac:s.size≤9223372036854775806)(v:Int)(h:Lib.atoiAll s.data.toList = .ok v)(w:World) :
  Calls Tryz.prog 261 #[.string s] w fun e w'=>e = .returned (.tuple #[.int .i64 v,.nilIface])∧(w'=w∨∃ t,w'=Lib.bytesWorld w 5 t):=Any.strconv_Atoi_ok Tryz.laysC172 s ac v h w
open Go.RowKit in
theorem Tryz.strconv_Atoi_range_var (s : ByteArray) (hlim : s.size ≤ 281474976710656) (h : Lib.atoiAll s.data.toList = .range) (tp : TypeId) (p : Value) (w : World) (hvar : w.var? Tryz.prog "strconv.ErrRange" = some #[.iface tp p]) :
  Calls Tryz.prog 261 #[.string s] w fun e w'=>∃ N,e = .returned (.tuple #[.int .i64 (Lib.atoiSat s.data.toList),.iface 306 (.pointer (some ⟨N,0,none⟩))])∧w.heap.size≤N∧w'.heap[N]?=some (.cells #[.string ⟨#[65,116,111,105]⟩,.string s,.iface tp p] 312 (0,0))∧Below w.heap.size w w':=Any.strconv_Atoi_range_var Tryz.laysC172 s hlim h tp p w hvar
def Tryz.lays99_ren:Go.Shelf.Ren:=⟨fun|99=>246|206=>257|n=>n,fun|9=>9|4=>4|3=>3|n=>n,fun|n=>n⟩
theorem Tryz.lays99:Go.Proofs.Lays.n99 Tryz.prog Tryz.lays99_ren:={
 mixed:=by kernel_rfl
 f99:=Tryz.func246.trans (congrArg some (by kernel_rfl))
 f206:=Tryz.func257.trans (congrArg some (by kernel_rfl))
 t3:=Tryz.underlying3
 a3:=Tryz.isAgg3
 z3:=Tryz.sizeOf3
 v3:=Tryz.zeroValue3
 t4:=Tryz.underlying4
 a4:=Tryz.isAgg4
 z4:=Tryz.sizeOf4
 v4:=Tryz.zeroValue4
 t9:=Tryz.underlying9
 a9:=Tryz.isAgg9
 z9:=Tryz.sizeOf9
 v9:=Tryz.zeroValue9 }
open Go.RowKit Go.Lib in
theorem Tryz.strings_HasPrefix (s p:ByteArray)(w:World) :
  Calls Tryz.prog 246 #[.string s,.string p] w fun e w'=>e = .returned (.bool (Lib.hasPrefix s.data.toList p.data.toList))∧w'=w:=Any.strings_HasPrefix Tryz.lays99 s p w
end Go.Proofs
namespace Go.Proofs.YtgaoojpakjjdnaaGreatDoor
open Go.RowKit
structure Kp (b:Nat) (w w':World):Prop where
 os:w'.os=w.os
 tape:w'.tape=w.tape
 output:w'.output=w.output
 size:w.heap.size≤w'.heap.size
 block:∀ k,k<w.heap.size→k≠b→w'.heap[k]?=w.heap[k]?
theorem Kp.refl (b:Nat)(w:World):Kp b w w:=⟨rfl,rfl,rfl,Nat.le_refl _,fun _ _ _=>rfl⟩
theorem Kp.trans {b:Nat}{x y z:World}(h:Kp b x y)(k:Kp b y z):Kp b x z:=
 ⟨k.os.trans h.os,k.tape.trans h.tape,k.output.trans h.output,Nat.le_trans h.size k.size,fun i hi hb=>(k.block i (Nat.lt_of_lt_of_le hi h.size) hb).trans (h.block i hi hb)⟩
theorem Kp.of_below {b:Nat}{w w':World}(h:Below w.heap.size w w'):Kp b w w':=⟨h.os,h.tape,h.output,h.size,fun i hi _=>h.block i hi⟩
theorem Kp.drew {b:Nat}{x w:World}(h:Kp b x w):Kp b x w.drew:=⟨h.os,h.tape,h.output,h.size,h.block⟩
theorem Kp.set {b:Nat}{x w:World}(h:Kp b x w)(i:Nat)(v:Value):Kp b x (w.setCell ⟨b,i,none⟩ v):=
 h.trans ⟨rfl,rfl,rfl,by simp[World.setCell],fun k _ hb=>Below.heap_setCell _ _ _ _ hb⟩
theorem Kp.below {b B:Nat}{w w':World}(h:Kp b w w')(hB:B≤b)(hs:B≤w.heap.size):Below B w w':=
 ⟨h.os,h.tape,h.output,h.size,fun k hk=>h.block k (by omega) (by omega)⟩
theorem Kp.cell {b:Nat}{w w':World}(h:Kp b w w'){p:Addr}(hp:p.block<w.heap.size)(hb:p.block≠b):w'.cell? p=w.cell? p:=World.cell?_of_block (w:=w) (h.block p.block hp hb)
theorem Kp.drewN {b:Nat}{x w:World}(h:Kp b x w)(n:Nat):Kp b x (w.drewN n):=⟨h.os,h.tape,h.output,h.size,h.block⟩
def St (w:World)(b:Nat)(txt r:List UInt8)(m e:Value):Prop:=
 txt.length≤3000∧r.length≤txt.length∧r=txt.drop (txt.length-r.length)∧
  w.heap[b]?=some (.cells #[.string (S txt),.int .i64 ((txt.length-r.length:Nat):Int),m,e] 182 (0,0))
theorem St.lt {w:World}{b:Nat}{txt r:List UInt8}{m e:Value}(h:St w b txt r m e):b<w.heap.size:=(Array.getElem?_eq_some_iff.1 h.2.2.2).1
theorem St.c0 {w:World}{b:Nat}{txt r:List UInt8}{m e:Value}(h:St w b txt r m e):w.cell? ⟨b,0,none⟩=some (.string (S txt)):=by
 simp[World.cell?,h.2.2.2]
theorem St.c1 {w:World}{b:Nat}{txt r:List UInt8}{m e:Value}(h:St w b txt r m e):w.cell? ⟨b,1,none⟩=some (.int .i64 ((txt.length-r.length:Nat):Int)):=by
 simp[World.cell?,h.2.2.2]
theorem St.f1 {w:World}{b:Nat}{txt r:List UInt8}{m e:Value}(h:St w b txt r m e):w.frozen? ⟨b,1,none⟩=false:=by
 simp[World.frozen?,h.2.2.2]
theorem St.kept {w w':World}{b:Nat}{txt r:List UInt8}{m e:Value}(h:St w b txt r m e)(hb:Below w.heap.size w w'):St w' b txt r m e:=
 ⟨h.1,h.2.1,h.2.2.1,by rw[hb.block b h.lt];exact h.2.2.2⟩
theorem St.drew {w:World}{b:Nat}{txt r:List UInt8}{m e:Value}(h:St w b txt r m e):St w.drew b txt r m e:=⟨h.1,h.2.1,h.2.2.1,h.2.2.2⟩
theorem St.drewN {w:World}{b:Nat}{txt r:List UInt8}{m e:Value}(h:St w b txt r m e)(n:Nat):St (w.drewN n) b txt r m e:=⟨h.1,h.2.1,h.2.2.1,h.2.2.2⟩
theorem St.set {w:World}{b:Nat}{txt r r':List UInt8}{m e:Value}(h:St w b txt r m e)(h1:r'.length≤r.length)(h2:r'=r.drop (r.length-r'.length)){v:Int}(hv:v=((txt.length-r'.length:Nat):Int)) :
  St (w.setCell ⟨b,1,none⟩ (.int .i64 v)) b txt r' m e:=by
 obtain⟨a1,a2,a3,a4⟩:=h
 refine⟨a1,by omega,?_,?_⟩
 ·rw[h2,a3,List.drop_drop]
  congr 1
  simp
  omega
 ·subst hv
  rw[heap_setCell_same _ _ _ _ _ _ a4]
  rfl
def A5x (l:List UInt8):Nat:=(l.takeWhile (fun c=>c != 10)).length
theorem D2i (l:List UInt8):A5x l≤l.length:=(List.takeWhile_sublist _).length_le
theorem D2j (l:List UInt8):(Lib.indexByte l 10 = -1∧A5x l=l.length)∨Lib.indexByte l 10=(A5x l:Int):=by
 induction l with
 | nil=>exact .inl ⟨rfl,rfl⟩
 | cons c r ih=>
  by_cases h:c=10
  ·subst h;exact .inr (by simp[Lib.indexByte,A5x])
  ·have hb:(c==10)=false:=by simp[h]
   have e:A5x (c::r)=A5x r+1:=by simp[A5x,h]
   rcases ih with⟨h1,h2⟩|h1
   ·exact .inl ⟨by simp[Lib.indexByte,hb,h1],by rw[e,h2];simp⟩
   ·refine .inr ?_
    have:((A5x r:Int) == -1)=false:=by rw[beq_eq_false_iff_ne];omega
    simp only[Lib.indexByte,hb,h1,this,e]
    simp
theorem B3y (l:List UInt8)(w:World):Calls Tryz.prog 247 #[.string (S l)] w fun e w'=>e = .returned (.int .i64 (A5x l:Int))∧w=w':=by
 have hsz:=A3j l
 go_enter Tryz.func247,Tryz.ntmps247
 go_wp2_with fail
 refine(Tryz.strings_IndexByte _ _ _).mono ?_
 rintro e w1 ⟨rfl,ac⟩
 subst ac
 have hd:(S l).data.toList=l:=by simp[S]
 have h10:(10:Int).toNat.toUInt8=10:=rfl
 rw[hd,h10]
 rcases D2j l with⟨h1,h2⟩|h1
 ·rw[h1]
  have H2:Hid (A5x l=l.length):=h2
  clear h1 h2 hd
  go_wp2
  go_ret
  exact⟨A1r (by rw[H2.out]),rfl⟩
 ·rw[h1]
  clear h1 hd
  go_wp2
  go_ret
  exact⟨rfl,rfl⟩
end Go.Proofs.YtgaoojpakjjdnaaGreatDoor
namespace Go.Proofs.YtgaoojpakjjdnaaGreatDoor
open Go.RowKit
theorem C5u {c:UInt8}{r:List UInt8}(h:c=32∨c=10):A1o (c::r)=A1o r:=by simp[A1o,A7y,h]
theorem C7f (r:List UInt8):r.drop (A5x r)=r.dropWhile (fun c=>c != 10):=by
 induction r with
 | nil=>rfl
 | cons c t ih=>
  by_cases hc:c=10
  ·subst hc;simp[A5x]
  ·have hb:(c != 10)=true:=by simp[hc]
   simp only[A5x,List.takeWhile_cons,hb,if_true,List.length_cons,List.drop_succ_cons,List.dropWhile_cons]
   exact ih
theorem B3n {a b:UInt8}{r:List UInt8}(h:Lib.hasPrefix (a::b::r) [47,47]=true):a=47∧b=47:=by
 have h1:((47:UInt8)==a&&((47:UInt8)==b&&true))=true:=h
 rw[Bool.and_true,Bool.and_eq_true,beq_iff_eq,beq_iff_eq] at h1
 exact⟨h1.1.symm,h1.2.symm⟩
theorem C9r {r:List UInt8}(h:Lib.hasPrefix r [47,47]=true):A1o r=A1o (r.drop (A5x r)):=by
 match r,h with
 | [],h=>exact absurd h (by decide)
 | [a],h=>exact absurd h (by simp[Lib.hasPrefix])
 | a::b::r,h=>
  obtain⟨rfl,rfl⟩:=B3n h
  rw[C7f,A1o,A1o]
  have e:(47::47::r).dropWhile (fun c:UInt8=>c != 10)=r.dropWhile (fun c=>c != 10):=by simp
  rw[e,←C5t]
  simp[A7y]
theorem C9s {c:UInt8}{r:List UInt8}(h:¬ (c=32∨c=10))(hp:Lib.hasPrefix (c::r) [47,47]=false):A1o (c::r)=c::r:=by
 have:¬ (c=47∧r.head?=some 47):=by
  rintro⟨rfl,hr⟩
  cases r with
  | nil=>simp at hr
  | cons d t=>simp at hr;subst hr;simp[Lib.hasPrefix] at hp
 simp[A1o,A7y,h,this]
theorem D2o {r:List UInt8}(h:Lib.hasPrefix r [47,47]=true):0<A5x r:=by
 match r,h with
 | [],h=>exact absurd h (by decide)
 | [a],h=>exact absurd h (by simp[Lib.hasPrefix])
 | a::b::r,h=>
  obtain⟨rfl,rfl⟩:=B3n h
  simp[A5x]
theorem A9x (b:Nat)(txt r0:List UInt8)(m e:Value)(w:World)(h0:St w b txt r0 m e) :
  Calls Tryz.prog 225 #[.pointer (some ⟨b,0,none⟩)] w fun en w'=>en = .returned (.string (S (A1o r0)))∧St w' b txt (A1o r0) m e∧Kp b w w':=by
 go_enter Tryz.func225,Tryz.ntmps225
 go_wp2
 go_loopg [] r0.length (fun k wr=>∃ r:List UInt8,r.length=k∧St wr b txt r m e∧Kp b w wr∧Hid (A1o r0=A1o r))
 case atStart=>exact⟨r0,rfl,h0,Kp.refl _ _,rfl⟩
 case round=>
  obtain⟨r,hk,hst,ac,HR⟩:=hrel
  have c0:=hst.c0
  have c1:=hst.c1
  have f1:=hst.f1
  have aw:txt.length≤3000:=hst.1
  have hl2:r.length≤txt.length:=hst.2.1
  have hsz:=A3j txt
  obtain⟨K,HK⟩:∃ K:Nat,Hid (K=txt.length-r.length):=⟨_,rfl⟩
  rw[←HK.out] at c1
  cases r with
  | nil=>
   have aj:K=txt.length:=by have:=HK.out;simpa using this
   subst aj
   go_wp2_with fail
   go_quiet (fail)
   go_wp2
   go_ret
   refine⟨?_,?_,ac.drewN _⟩
   ·rw[HR.out];rfl
   ·rw[HR.out];exact hst.drewN _
  | cons c t=>
   have aj:K<txt.length:=by have:=HK.out;simp at this hl2;omega
   have hdr:txt.drop K=c::t:=by rw[HK.out];exact hst.2.2.1.symm
   have au:∀ w,(Instr.slice 9 (.string (S txt)) (some (.int .i64 (K:Int))) none none).run Tryz.prog w = .ok (.string (S (c::t))) w:=by
    intro w;rw[←hdr];exact D4r txt K (by omega) w
   have ak:(S (c::t)).size=t.length+1:=by rw[A3j];rfl
   obtain⟨X,HX⟩:∃ X:Nat,Hid (X=c.toNat):=⟨_,rfl⟩
   have hx:∀ h,((S (c::t))[0]'h).toNat=X:=by intro h;rw[B0e,HX.out];rfl
   clear hdr
   have HL:Hid (txt.length-t.length=K+1∧t.length≤(c::t).length):=⟨by have:=HK.out;simp at this hl2;omega,by simp⟩
   by_cases h1:X=32∨X=10
   ·have hc:Hid (c=32∨c=10):=by
     show _∨_
     rcases h1 with h|h
     ·exact .inl (UInt8.toNat_inj.1 (by rw[←HX.out,h];rfl))
     ·exact .inr (UInt8.toNat_inj.1 (by rw[←HX.out,h];rfl))
    have HT:Hid (A1o r0=A1o t):=HR.out.trans (C5u hc.out)
    clear hl2
    rcases h1 with rfl|rfl
    rotate_right
    rotate_right
    all_goals
     go_wp2_with fail
     go_quiet (fail)
     go_wp2_with fail
     go_quiet (fail)
     go_wp2_with fail
     go_roundg t.length
     case measure=>simp at hk;omega
     case rel=>exact⟨t,rfl,(hst.drewN _).set HL.out.2 (by simp) (by rw[HL.out.1];rfl),(ac.drewN _).set _ _,HT⟩
   ·have hc:Hid (¬ (c=32∨c=10)):=by
     show ¬ _
     rintro(rfl|rfl)
     ·exact h1 (.inl HX.out)
     ·exact h1 (.inr HX.out)
    have e1:((X:Int)==32)=false:=beq_eq_false_iff_ne.2 (by omega)
    have e2:((X:Int)==10)=false:=beq_eq_false_iff_ne.2 (by omega)
    have hd:(S (c::t)).data.toList=c::t:=by simp[S]
    clear h1 hl2
    by_cases hp:Lib.hasPrefix (c::t) [47,47]=true
    ·have HT:Hid (A1o r0=A1o ((c::t).drop (A5x (c::t)))):=HR.out.trans (C9r hp)
     have HN:Hid (0<A5x (c::t)∧A5x (c::t)≤(c::t).length):=⟨D2o hp,D2i _⟩
     obtain⟨N,ah⟩:∃ N,Hid (N=A5x (c::t)):=⟨_,rfl⟩
     rw[←ah.out] at HT HN
     have hN:N≤3000:=by have:=HN.out.2;have:=hst.2.1;omega
     go_wp2_with fail
     go_quiet (fail)
     go_wp2_with fail
     go_quiet (fail)
     go_wp2_with fail
     refine(Tryz.strings_HasPrefix _ _ _).mono ?_
     rintro e w1 ⟨rfl,ag⟩
     subst ag
     rw[hd,hp]
     go_wp2_with fail
     go_region_with (go_at_call 247;refine(B3y _ _).mono ?_;rintro e w1 ⟨rfl,rfl⟩)
     all_goals
      rw[←ah.out]
      have HM:Hid (((c::t).drop N).length=(c::t).length-N∧txt.length-((c::t).length-N)=K+N):=⟨by simp,by have:=HK.out;have:=HN.out;have:=hst.2.1;omega⟩
      go_wp2
      go_roundg ((c::t).drop N).length
      case measure=>have:=HM.out.1;have:=HN.out;omega
      case rel=>exact⟨(c::t).drop N,rfl,(hst.drewN _).set (by rw[HM.out.1];omega) (by rw[HM.out.1,Nat.sub_sub_self HN.out.2]) (by rw[HM.out.1,HM.out.2,IntKind.wrap_i64];omega),(ac.drewN _).set _ _,HT⟩
    ·rw[Bool.not_eq_true] at hp
     have HT:Hid (A1o r0=c::t):=HR.out.trans (C9s hc.out hp)
     go_wp2_with fail
     go_quiet (fail)
     go_wp2_with fail
     go_quiet (fail)
     go_wp2_with fail
     refine(Tryz.strings_HasPrefix _ _ _).mono ?_
     rintro e w1 ⟨rfl,ag⟩
     subst ag
     rw[hd,hp]
     go_wp2
     go_ret
     refine⟨?_,?_,ac.drewN _⟩
     ·rw[HT.out];rfl
     ·rw[HT.out];exact hst.drewN _
end Go.Proofs.YtgaoojpakjjdnaaGreatDoor
namespace Go.Proofs.YtgaoojpakjjdnaaGreatDoor
open Go.RowKit
def Ft (c p:Nat):List PanicEntry:=[{ v:=.iface 50 (.agg #[.int .i64 (c:Int),.int .i64 (p:Int)]),recovered:=false }]
def C6j {α:Type}(b:Nat)(txt:List UInt8)(m e:Value)(w:World)(good : α→Value→World→Prop)(x:R α)(en:Ending)(w':World):Prop:=
 Kp b w w'∧
  match x with
  | .ok (a,t)=>St w' b txt t m e∧∃ v,en = .returned v∧good a v w'
  | .error (some (c,t))=>t.length≤txt.length∧en = .panicked (Ft c (txt.length-t.length))
  | .error none=>False
theorem A0s {b:Nat}{txt r:List UInt8}{m e:Value}{w:World}(h:St w b txt r m e)(c:Nat) :
  Calls Tryz.prog 193 #[.pointer (some ⟨b,0,none⟩),.int .i64 (c:Int)] w fun en w'=>en = .panicked (Ft c (txt.length-r.length))∧w=w':=by
 have c1:=h.c1
 obtain⟨K,HK⟩:∃ K:Nat,Hid (K=txt.length-r.length):=⟨_,rfl⟩
 rw[←HK.out] at c1 ⊢
 go_enter Tryz.func193,Tryz.ntmps193
 go_wp2
 exact⟨rfl,rfl,rfl⟩
theorem A7t {b:Nat}{txt r:List UInt8}{m e:Value}{w:World}(h:St w b txt r m e)(c:UInt8) :
  Calls Tryz.prog 228 #[.pointer (some ⟨b,0,none⟩),.int .u8 (c.toNat:Int)] w fun en w'=>en = .returned (.bool (A3w c r).1)∧St w' b txt (A3w c r).2 m e∧Kp b w w':=by
 go_enter Tryz.func228,Tryz.ntmps228
 go_wp2_with fail
 refine(A9x b txt r m e w h).mono ?_
 rintro en w1 ⟨rfl,hs,hk⟩
 have HS:Hid (A1o r=A1o r):=rfl
 generalize hq:A1o r=q at hs
 cases q with
 | nil=>
  have HM:Hid (A3w c r=(false,[])):=by show _=_;simp[A3w,hq]
  have ag:(S []).toList.isEmpty=true:=by rw[A2t];rfl
  go_wp2
  go_ret
  rw[HM.out]
  exact⟨rfl,hs,hk⟩
 | cons x t=>
  have ag:(S (x::t)).toList.isEmpty=false:=by rw[A2t];rfl
  have hsz:(S (x::t)).size=t.length+1:=by rw[A3j];rfl
  obtain⟨X,HX⟩:∃ X:Nat,Hid (X=x.toNat):=⟨_,rfl⟩
  have hx:∀ h,((S (x::t))[0]'h).toNat=X:=by intro h;rw[B0e,HX.out];rfl
  obtain⟨C,HC⟩:∃ C:Nat,Hid (C=c.toNat):=⟨_,rfl⟩
  rw[←HC.out]
  by_cases h1:x=c
  ·have HM:Hid (A3w c r=(true,t)):=by show _=_;simp[A3w,hq,h1]
   have ac:X=C:=by rw[HX.out,HC.out,h1]
   subst ac
   have c1:=hs.c1
   have f1:=hs.f1
   have hl:=hs.1
   obtain⟨K,HK⟩:∃ K:Nat,Hid (K=txt.length-(x::t).length):=⟨_,rfl⟩
   rw[←HK.out] at c1
   have hK:K≤3000:=by have:=HK.out;omega
   clear hq h1
   go_wp2
   go_ret
   rw[HM.out]
   refine⟨rfl,hs.set (by simp) (by simp) ?_,hk.set _ _⟩
   have:=HK.out
   have:=hs.2.1
   simp at *
   omega
  ·have HM:Hid (A3w c r=(false,x::t)):=by show _=_;simp[A3w,hq,h1]
   have ac:((X:Int) != (C:Int))=true:=by rw[bne_iff_ne];intro hh;exact h1 (UInt8.toNat_inj.1 (by rw[←HX.out,←HC.out];omega))
   clear hq
   go_wp2
   go_ret
   rw[HM.out]
   exact⟨rfl,hs,hk⟩
theorem D5p {b:Nat}{txt r:List UInt8}{m e:Value}{w:World}(h:St w b txt r m e) :
  Calls Tryz.prog 189 #[.pointer (some ⟨b,0,none⟩)] w fun en w'=>en = .returned (.bool (decide (A1o r = [])))∧St w' b txt (A1o r) m e∧Kp b w w':=by
 go_enter Tryz.func189,Tryz.ntmps189
 go_wp2_with fail
 refine(A9x b txt r m e w h).mono ?_
 rintro en w1 ⟨rfl,hs,hk⟩
 generalize hq:A1o r=q at hs
 cases q with
 | nil=>
  have ac:(S []).toList.isEmpty=true:=by rw[A2t];rfl
  have HQ:Hid (A1o r = []):=hq
  clear hq
  go_wp2
  go_ret
  rw[HQ.out]
  exact⟨rfl,hs,hk⟩
 | cons x t=>
  have ac:(S (x::t)).toList.isEmpty=false:=by rw[A2t];rfl
  have HQ:Hid (A1o r=x::t):=hq
  clear hq
  go_wp2
  go_ret
  rw[HQ.out]
  exact⟨rfl,hs,hk⟩
theorem A0f {α:Type}{b:Nat}{txt:List UInt8}{m e:Value}{w w':World}{good : α→Value→World→Prop}{x:R α}{c:Nat}{t:List UInt8}(hk:Kp b w w')(hx:x = .error (some (c,t)))(ht:t.length≤txt.length) :
  C6j b txt m e w good x (.panicked (Ft c (txt.length-t.length))) w':=by rw[hx];exact⟨hk,ht,rfl⟩
theorem A5b {α:Type}{b:Nat}{txt:List UInt8}{m e:Value}{w w':World}{good : α→Value→World→Prop}{x:R α}{a : α}{t:List UInt8}{v:Value}(hk:Kp b w w')(hx:x = .ok (a,t))(hs:St w' b txt t m e)(hg:good a v w') :
  C6j b txt m e w good x (.returned v) w':=by rw[hx];exact⟨hk,hs,v,rfl,hg⟩
theorem A4k {b:Nat}{txt r:List UInt8}{m e:Value}{w:World}(h:St w b txt r m e)(c:UInt8) :
  Calls Tryz.prog 227 #[.pointer (some ⟨b,0,none⟩),.int .u8 (c.toNat:Int)] w (C6j b txt m e w (fun _ v _=>v = .tuple #[]) (A1y c r)):=by
 go_enter Tryz.func227,Tryz.ntmps227
 go_wp2_with fail
 refine(A7t h c).mono ?_
 rintro en w1 ⟨rfl,hs,hk⟩
 generalize hq:A3w c r=q at *
 obtain⟨ok,t⟩:=q
 cases ok with
 | true=>
  have HM:Hid (A1y c r = .ok ((),t)):=by show _=_;simp[A1y,hq]
  go_wp2
  go_end0
  exact A5b hk HM.out hs rfl
 | false=>
  have HM:Hid (A1y c r = .error (some (2,t))):=by show _=_;simp[A1y,hq]
  go_wp2_with fail
  refine(A0s hs 2).mono ?_
  rintro en w1 ⟨rfl,rfl⟩
  go_wp2
  exact⟨rfl,A0f hk HM.out hs.2.1⟩
theorem B5e (l:List UInt8):A1c l≤l.length:=by
 cases l with
 | nil=>exact Nat.le_refl _
 | cons c r=>
  simp only[A1c]
  split
  ·have:=(List.takeWhile_sublist A7c (l:=r)).length_le;simp;omega
  ·exact Nat.zero_le _
theorem C7e (l:List UInt8):A4r l≤l.length:=(List.takeWhile_sublist _).length_le
theorem A4x {b:Nat}{txt r:List UInt8}{m e:Value}{w:World}(h:St w b txt r m e)(kw:List UInt8)(aj:kw.length≤100) :
  Calls Tryz.prog 190 #[.pointer (some ⟨b,0,none⟩),.string (S kw)] w fun en w'=>en = .returned (.bool (B2w kw r).1)∧St w' b txt (B2w kw r).2 m e∧Kp b w w':=by
 go_enter Tryz.func190,Tryz.ntmps190
 go_wp2_with fail
 refine(A9x b txt r m e w h).mono ?_
 rintro en w1 ⟨rfl,hs,hk⟩
 generalize hq:A1o r=q at hs
 have ak:q.length≤3000:=by have:=hs.1;have:=hs.2.1;omega
 have ah:=D8k q (A1c q) (B5e q)
 have ag:=A2t (q.take (A1c q))
 have hl2:=A2t kw
 have hsz:=A3j kw
 go_wp2_with fail
 refine(A4a q (by omega) _).mono ?_
 rintro en w2 ⟨rfl,rfl⟩
 by_cases h1:q.take (A1c q)=kw
 ·have HM:Hid (B2w kw r=(true,q.drop kw.length)):=by show _=_;simp[B2w,hq,h1]
  have ac:Hid (kw.length≤q.length):=by show _≤_;rw[←h1];simp;exact Nat.min_le_right _ _
  rw[h1] at ah ag
  clear ag
  have c1:=hs.c1
  have f1:=hs.f1
  have hl:=hs.1
  obtain⟨K,HK⟩:∃ K:Nat,Hid (K=txt.length-q.length):=⟨_,rfl⟩
  rw[←HK.out] at c1
  have hK:K≤3000:=by have:=HK.out;omega
  have HE:Hid (txt.length-(q.drop kw.length).length=K+kw.length):=by show _=_;have:=HK.out;have:=ac.out;have:=hs.2.1;simp;omega
  clear hq h1
  go_wp2
  go_ret
  rw[HM.out]
  refine⟨rfl,hs.set (by simp) ?_ ?_,hk.set _ _⟩
  ·show q.drop kw.length=q.drop (q.length-(q.drop kw.length).length)
   rw[List.length_drop,Nat.sub_sub_self ac.out]
  ·show _=((txt.length-(q.drop kw.length).length:Nat):Int)
   rw[HE.out];push_cast;rfl
 ·have HM:Hid (B2w kw r=(false,q)):=by show _=_;simp[B2w,hq,h1]
  have hb:(q.take (A1c q)==kw)=false:=by simpa using h1
  clear hq
  go_wp2
  go_ret
  rw[HM.out]
  exact⟨rfl,hs,hk⟩
end Go.Proofs.YtgaoojpakjjdnaaGreatDoor
