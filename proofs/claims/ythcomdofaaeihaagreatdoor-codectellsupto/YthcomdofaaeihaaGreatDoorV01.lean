import Derived.Test.YthcomdofaaeihaaGreatDoorV00
import Derived.Test.YthcomdofaaeihaaGreatDoorProg
import Derived.Laws.BitsAllLaws
import Derived.Laws.BitsLemmas
import Derived.RowKit
import Derived.WalkKit
import Derived.WalkSpells
import Derived.WalkLawsBesides
import Derived.Laws.AppendOwnNone
import Derived.Lib.LazyBuf
import Derived.ProofKit
import Derived.OpenShut
import Derived.Deep.Slices
import Derived.SizedLaws
set_option maxHeartbeats 32000000
set_option maxRecDepth 100000
namespace Go.Proofs.YthcomdofaaeihaaGreatDoor
variable{k f m acc X:Nat}{l:List UInt8}{n:Int}
theorem lG (n:Int)(h₀:0≤n)(h₁:n<2 ^ 64):IntKind.u64.wrap n=n:=by rw[IntKind.wrap_u64];omega
theorem D8n (a:Nat)(ha:a<9223372036854775808):bits .xor .i64 (-1) (a:Int) = -1-(a:Int):=by
 have e:(BitVec.ofInt 64 (-1) ^^^ BitVec.ofInt 64 (a:Int)).toNat=18446744073709551615-a:=by
  rw[show BitVec.ofInt 64 (-1)=BitVec.allOnes 64 by decide,BitVec.ofInt_natCast,BitVec.allOnes_xor,BitVec.toNat_not,BitVec.toNat_ofNat,eJ (by omega)]
 refine(congrArg (fun n:Nat=>IntKind.i64.wrap (n:Int)) e).trans ?_;rw[IntKind.wrap_i64];omega
def sR:Nat→Nat→List UInt8
 | 0,_=>[]
 | f+1,n=>if n<128 then [UInt8.ofNat n] else UInt8.ofNat (n%128+128)::sR f (n / 128)
def uF (n:Nat):List UInt8:=sR 10 n
def yZ:Nat→Nat→List UInt8→Nat×Nat×Nat
 | _,_,[]=>(0,0,2)
 | i,acc,x::r=>
  if i=9∧1<x.toNat then(0,0,3)
  else if x.toNat<128 then(acc+x.toNat%128*2 ^ (7*i),i+1,0)
  else yZ (i+1) (acc+x.toNat%128*2 ^ (7*i)) r
def oM (n:Int):Int:=if n%2=1 then -(n / 2)-1 else n / 2
def pM (n:Int):Int:=if n<0 then -2*n-1 else 2*n
theorem B8e (h:n%2=1):oM n = -(n / 2)-1:=by unfold oM;rw[zF h]
theorem B4p (h:n%2≠1):oM n=n / 2:=by unfold oM;rw[zC h]
theorem B7l (h:n<0):pM n = -2*n-1:=by unfold pM;rw[zF h]
theorem B7m (h:0≤n):pM n=2*n:=by unfold pM;rw[zC (by omega)]
theorem VW (s:Int)(h0 : -9223372036854775808≤s)(h1:s≤9223372036854775807):0≤pM s∧pM s≤18446744073709551615:=by
 unfold pM;split <;> omega
theorem B6d (n:Int)(h0:0≤n)(h1:n≤18446744073709551615)(h:(bits BinOp.and IntKind.u64 n 1==1)=true) :
  bits BinOp.xor IntKind.i64 (-1) (n / 2)=oM n:=by
 obtain⟨a,rfl⟩:=jP h0;have e1:=(bits_nat .u64 64 (by decide) lG a 1 (by omega) (by decide)).1;rw[show((1:Nat):Int)=1 from rfl] at e1;rw[e1,Nat.and_one_is_mod] at h;have h2:(a:Int)%2=1:=by have:=beq_iff_eq.1 h;omega
 rw[B8e h2,show((a:Int) / 2)=((a / 2:Nat):Int) by omega,D8n _ (by omega)];omega
theorem B3r (n:Int)(h0:0≤n)(h1:n≤18446744073709551615)(h:(bits BinOp.and IntKind.u64 n 1==1)=false) :
  n / 2=oM n:=by
 obtain⟨a,rfl⟩:=jP h0;have e1:=(bits_nat .u64 64 (by decide) lG a 1 (by omega) (by decide)).1;rw[show((1:Nat):Int)=1 from rfl] at e1;rw[e1,Nat.and_one_is_mod] at h;have h2:(a:Int)%2≠1:=by have:=beq_eq_false_iff_ne.1 h;omega
 rw[B4p h2]
theorem C0h (n:Int)(h0 : -9223372036854775808≤n)(h1:n<0):bits BinOp.xor IntKind.i64 (-1) n = -1-n:=by
 obtain⟨a,ha⟩:=jP (show 0≤-1-n by omega);have h2:BitVec.ofInt 64 n = ~~~ (BitVec.ofNat 64 a):=by
  apply BitVec.eq_of_toNat_eq;rw[BitVec.toNat_not,BitVec.toNat_ofInt,BitVec.toNat_ofNat];have:n = -1-(a:Int):=by omega
  subst this;omega
 show IntKind.i64.wrap ((BitVec.ofInt 64 (-1) ^^^ BitVec.ofInt 64 n).toNat:Int)=_;have h3:BitVec.ofInt 64 (-1)=BitVec.allOnes 64:=by decide
 rw[h3,h2,BitVec.allOnes_xor,BitVec.not_not,BitVec.toNat_ofNat];rw[show a%2 ^ 64=a from eJ (by omega),IntKind.wrap_i64];omega
theorem B5p (n:Int)(h0 : -9223372036854775808≤n)(h1:n<0) :
  bits BinOp.or IntKind.u64 (IntKind.u64.wrap (IntKind.u64.wrap (bits BinOp.xor IntKind.i64 (-1) n)*2)) 1=pM n:=by
 rw[C0h n h0 h1,B7l h1];obtain⟨a,ha⟩:=jP (show 0≤-1-n by omega);rw[ha,IntKind.wrap_u64,IntKind.wrap_u64];rw[show((a:Int)%18446744073709551616*2%18446744073709551616)=((2*a:Nat):Int) by omega];have:=bits_join .u64 64 (by decide) lG 1 ((2*a:Nat):Int) 1 (by omega) (by omega) (by omega) (by omega) (by omega) (by omega);rw[this];omega
theorem C7k (x:Int)(h₀:0≤x)(h₁:x<256):bits .andNot .u8 x 128=x%128:=by
 have e:bits .andNot .u8 x 128=bits .and .u8 x 127:=by
  show IntKind.u8.wrap ((BitVec.ofInt 8 x&&& ~~~ BitVec.ofInt 8 128).toNat:Int)=IntKind.u8.wrap ((BitVec.ofInt 8 x&&& BitVec.ofInt 8 127).toNat:Int);rw[show ~~~ BitVec.ofInt 8 128=BitVec.ofInt 8 127 by decide]
 rw[e];exact bits_mask .u8 8 (by decide) wraps_u8 7 (by decide) x h₀ h₁
theorem D6v (i a b:Nat)(ha:a<2 ^ i)(ha':a<2 ^ 64)(hb:b%2 ^ i=0)(hb':b<2 ^ 64):bits .or .u64 (a:Int) (b:Int)=((a+b:Nat):Int):=by
 rw[(bits_nat .u64 64 (by decide) lG a b ha' hb').2,Nat.or_comm];have hq:b=2 ^ i*(b / 2 ^ i):=by have:=gI b (2 ^ i);omega
 rw[hq,←Nat.two_pow_add_eq_or_of_lt ha (b / 2 ^ i),←hq,Nat.add_comm]
theorem WI (h:k≤8):2 ^ (7*k)≤72057594037927936:=by
 have:=mU (show 0<2 by decide) (show 7*k≤56 by omega);exact this
theorem dM (ac:acc<2 ^ (7*k)):acc+X%128*2 ^ (7*k)<2 ^ (7*(k+1)):=by
 have e:2 ^ (7*(k+1))=128*2 ^ (7*k):=by rw[show 7*(k+1)=7+7*k by omega,jO]
 have h:X%128*2 ^ (7*k)≤127*2 ^ (7*k):=qV _ (by omega);omega
theorem C1e (hk:k≤9)(ac:acc<2 ^ (7*k))(hX:X<256)(h9:k=9→X≤1) :
  bits BinOp.or IntKind.u64 (acc:Int) (IntKind.u64.wrap (IntKind.u64.wrap (bits BinOp.andNot IntKind.u8 (X:Int) 128)*2 ^ (7*k)))=((acc+X%128*2 ^ (7*k):Nat):Int):=by
 have hb:X%128*2 ^ (7*k)<2 ^ 64:=by
  by_cases h:k≤8
  ·have h1:=WI h;have h2:X%128*2 ^ (7*k)≤127*2 ^ (7*k):=qV _ (by omega);omega
  have ag:k=9:=by omega
  subst ag;have:=h9 rfl;rw[show 2 ^ (7*9)=9223372036854775808 from rfl];omega
 have ha:acc<2 ^ 64:=by
  have:=mU (show 0<2 by decide) (show 7*k≤64 by omega);omega
 rw[C7k _ (by omega) (by omega),lG ((X:Int)%128) (by omega) (by omega)];have e:((X:Int)%128*2 ^ (7*k))=((X%128*2 ^ (7*k):Nat):Int):=by simp
 rw[e,lG _ (by omega) (by exact_mod_cast hb)];exact D6v (7*k) acc _ ac ha (Nat.mul_mod_left _ _) hb
theorem D5b (m:Nat):bits BinOp.or IntKind.u8 (IntKind.u8.wrap (m:Int)) 128=((UInt8.ofNat (m%128+128)).toNat:Int):=by
 rw[IntKind.wrap_u8];have e:((m:Int)%256)=((m%256:Nat):Int):=by omega
 rw[e];have h:=(bits_nat .u8 8 (by decide) wraps_u8 (m%256) 128 (by omega) (by decide)).2;rw[show((128:Nat):Int)=128 from rfl] at h;rw[h];have g:∀ x:Nat,x<256→(x||| 128)=x%128+128:=by decide +kernel
 rw[g _ (by omega),UInt8.toNat_ofNat'];omega
theorem ZP (h:¬ m<128):sR (f+1) m=UInt8.ofNat (m%128+128)::sR f (m / 128):=by rw[sR,zC h]
theorem dU (h:m<128):sR (f+1) m = [UInt8.ofNat m]:=by rw[sR,zF h]
theorem D5a (f m:Nat):(sR f m).length≤f:=by
 induction f generalizing m with
 | zero=>simp[sR]
 | succ f ih=>
 rw[sR];split
 ·simp
 have:=ih (m / 128);simp;omega
theorem VY (hk:k<l.length)(hX:X=(l.getD k 0).toNat):∃ c:UInt8,l.drop k=c::l.drop (k+1)∧c.toNat=X:=by
 refine⟨l[k],uQ hk,?_⟩;rw[hX,pG,vG hk];rfl
theorem C2b (hk:k<l.length)(hX:X=(l.getD k 0).toNat)(h9:k=9)(h1:1<X):yZ k acc (l.drop k)=(0,0,3):=by
 obtain⟨c,e,hc⟩:=VY hk hX;rw[e,yZ,zF ⟨h9,by omega⟩]
theorem TQ (hk:k<l.length)(hX:X=(l.getD k 0).toNat)(h9:k=9→X≤1)(h1:X<128) :
  yZ k acc (l.drop k)=(acc+X%128*2 ^ (7*k),k+1,0):=by
 obtain⟨c,e,hc⟩:=VY hk hX;rw[e,yZ,zC (by rintro⟨a,b⟩;have:=h9 a;omega),zF (by omega),hc]
theorem C8j (hk:k<l.length)(hX:X=(l.getD k 0).toNat)(h9:k≠9)(h1:¬ X<128) :
  yZ k acc (l.drop k)=yZ (k+1) (acc+X%128*2 ^ (7*k)) (l.drop (k+1)):=by
 obtain⟨c,e,hc⟩:=VY hk hX;rw[e,yZ,zC (by rintro⟨a,b⟩;exact h9 a),zC (by omega),hc]
theorem UM (hk:l.length≤k):yZ k acc (l.drop k)=(0,0,2):=by
 rw[sF hk,yZ]
end Go.Proofs.YthcomdofaaeihaaGreatDoor
namespace Go.Proofs.YthcomdofaaeihaaGreatDoor
open Go.RowKit
variable{h:Int}
theorem C3b {k:IntKind}{a b:Int}(h:a=b):Ending.returned (.int k a) = .returned (.int k b):=by rw[h]
def vV (h:Int):Bool:=decide (h=0∨h=1∨h=2∨h=5)
theorem gE (k:h=0∨h=1∨h=2∨h=5):true=vV h:=by unfold vV;simp[k]
theorem iT (k:¬ (h=0∨h=1∨h=2∨h=5)):false=vV h:=by unfold vV;simp only[k,decide_false]
theorem eC (h:Int)(w:World) :
  Calls Tryz.prog 148 #[.int .i64 h] w fun e w'=>e = .returned (.bool (vV h))∧w=w':=by
 by_cases k:h=0∨h=1∨h=2∨h=5
 ·rw[←gE k];rcases k with rfl|rfl|rfl|rfl
  all_goals
   go_enter Tryz.func148,Tryz.ntmps148;go_wp2;go_ret;exact⟨rfl,rfl⟩
 rw[←iT k];have b0:(h==0)=false:=beq_eq_false_iff_ne.2 (by omega);have b1:(h==1)=false:=beq_eq_false_iff_ne.2 (by omega);have b2:(h==2)=false:=beq_eq_false_iff_ne.2 (by omega);have b5:(h==5)=false:=beq_eq_false_iff_ne.2 (by omega);go_enter Tryz.func148,Tryz.ntmps148;go_wp2;go_ret;exact⟨rfl,rfl⟩
def tG (h:Int):Nat:=if h=1 then 8 else if h=5 then 4 else 0
theorem UZ (h:Int)(w:World) :
  Calls Tryz.prog 193 #[.int .i64 h] w fun e w'=>e = .returned (.int .i64 (tG h))∧w=w':=by
 by_cases k:h=1∨h=5
 ·rcases k with rfl|rfl
  all_goals
   go_enter Tryz.func193,Tryz.ntmps193;go_wp2;go_ret;exact⟨rfl,rfl⟩
 have e:tG h=0:=by unfold tG;rw[zC (by omega),zC (by omega)]
 rw[e];have b1:(h==1)=false:=beq_eq_false_iff_ne.2 (by omega);have b5:(h==5)=false:=beq_eq_false_iff_ne.2 (by omega);clear e;go_enter Tryz.func193,Tryz.ntmps193;go_wp2;go_ret;exact⟨rfl,rfl⟩
theorem D4r (n:Int)(w:World)(hl:0≤n)(hu:n≤18446744073709551615) :
  Calls Tryz.prog 205 #[.int .u64 n] w fun e w'=>e = .returned (.int .i64 (oM n))∧w=w':=by
 go_enter Tryz.func205,Tryz.ntmps205;go_wp2
 ·go_ret;exact⟨C3b (B6d n hl hu ‹_›),rfl⟩
 go_ret;exact⟨C3b (B3r n hl hu ‹_›),rfl⟩
end Go.Proofs.YthcomdofaaeihaaGreatDoor
namespace Go.Proofs.YthcomdofaaeihaaGreatDoor
open Go.RowKit
variable{v:Value}{ao:Option Addr}{len cap:Nat}{w' w:World}{l:List UInt8}
def RdA (w:World)(ao:Option Addr)(len cap:Nat)(l:List UInt8):Prop:=
 l.length=len∧len≤cap∧cap≤maxLen∧(ao=none→cap=0)∧
  ∀ x,ao=some x→∀ i,i<len→w.cell? (x.add i)=some (.int .u8 ((l.getD i 0).toNat:Int))
theorem RdA.at (h:RdA w ao len cap l)(hp:0<len) :
  ∃ b off,ao=some ⟨b,off,none⟩∧b<w.heap.size∧∀ i,i<len→w.cell? ⟨b,off+i,none⟩=some (.int .u8 ((l.getD i 0).toNat:Int)):=by
 obtain⟨h1,h2,h3,h4,h5⟩:=h;cases ao with
 | none=>have:=h4 rfl;omega
 | some x=>
 obtain⟨b,off,spot⟩:=x;have hc:=h5 _ rfl 0 hp;have hspot:spot=none:=by simpa [Addr.add] using World.cell?_spot hc
 subst hspot;refine⟨b,off,rfl,?_,?_⟩
 ·have:=mD w _ hc;simpa [Addr.add] using this
 intro i hi;have:=h5 _ rfl i hi;have e:(⟨b,off,none⟩:Addr).add i=⟨b,off+i,none⟩:=by unfold Addr.add;split <;> simp_all
 rw[e] at this;exact this
theorem RdA.later (h:RdA w ao len cap l)(hb:zB w w'):RdA w' ao len cap l:=by
 obtain⟨h1,h2,h3,h4,h5⟩:=h;refine⟨h1,h2,h3,h4,fun x hx i hi=>?_⟩;have hc:=h5 x hx i hi;rw[hb.cell (mD w _ hc)];exact hc
theorem RdA.nil (w:World):RdA w none 0 0 []:=⟨rfl,zG _,by unfold maxLen;omega,fun _=>rfl,fun _ _ i hi=>absurd hi (by omega)⟩
def OwnB (w:World)(base:Nat)(v:Value)(l:List UInt8):Prop:=
 w.ownsRow base 5 1 v l.length (l.map fun c=>Value.int .u8 (c.toNat:Int))
theorem OwnB.nil (w:World)(base:Nat):OwnB w base (.slice none 0 0) []:=jY _ _ _ _
theorem OwnB.rd {base:Nat}(h:OwnB w base v l):∃ ao len cap,v = .slice ao len cap∧RdA w ao len cap l:=by
 have hl:=h.1;rcases h.2 with⟨hv,hn⟩|⟨g,cap,cur,hv,hb,hg,hn,hm,hs,ht⟩
 ·have:l = []:=uE hn;subst this;exact⟨none,0,0,hv,RdA.nil w⟩
 refine⟨some ⟨g,0,none⟩,l.length,cap,hv,rfl,hn,hm,by simp,?_⟩;intro x hx i hi;cases hx
 have:=World.ownsRow.cells h (g:=g) (by rw[hv];rfl) i (.int .u8 ((l.getD i 0).toNat:Int)) (by
  rw[sE,vG hi];simp[vG hi])
 exact this
theorem OwnB.keptB {base:Nat}(h:OwnB w base v l)(hb:zB w w'):OwnB w' base v l:=by
 refine⟨h.1,?_⟩;rcases h.2 with hn|⟨g,cap,cur,hv,hbg,hg,r⟩
 ·exact .inl hn
 exact .inr ⟨g,cap,cur,hv,hbg,by rw[hb.block g (zR hg)];exact hg,r⟩
theorem ZA {k1 k2 k3:IntKind}{a b c a' b' c':Int}(h1:a=a')(h2:b=b')(h3:c=c') :
  Ending.returned (.tuple #[.int k1 a,.int k2 b,.int k3 c]) = .returned (.tuple #[.int k1 a',.int k2 b',.int k3 c']):=by rw[h1,h2,h3]
theorem iI{P:Prop}(h:P:=by
 go_wp2;go_ret3;have e:=TQ (acc:=acc) (by rw[Hl.out];exact hlt) HX.out (by omega) hs;rw[HR.out,e];exact⟨ZA (C1e ag ac.out hX (by omega)) (by show(k:Int)+1=((k+1:Nat):Int);omega) rfl,rfl⟩):P:=h
theorem VT (ao:Option Addr)(len cap:Nat)(l:List UInt8)(w:World)(hr:RdA w ao len cap l) :
  Calls Tryz.prog 202 #[.slice ao len cap] w fun e w'=>e = .returned (.tuple #[.int .u64 (yZ 0 0 l).1,.int .i64 (yZ 0 0 l).2.1,.int .i64 (yZ 0 0 l).2.2])∧w=w':=by
 have au:len≤9223372036854775807:=by have:=hr.2.1;have:=hr.2.2.1;unfold maxLen at this;omega
 have H0:Hid (yZ 0 0 l=yZ 0 0 (l.drop 0)):=by show _=_;rw[oC]
 have Hl:=zI hr.1;by_cases hp:0<len
 ·obtain⟨b,off,rfl,ak,hcell⟩:=hr.at hp;clear hr;go_enter Tryz.func202,Tryz.ntmps202;go_wp2;go_loop [5,10] (fun a i=>∃ k acc:Nat,k≤len∧k≤9∧Hid (acc<2 ^ (7*k))∧i = .int .i64 k∧a = .int .u64 acc∧Hid (yZ 0 0 l=yZ k acc (l.drop k))) (fun _ i=>len-(intOf i).toNat)
  case atStart=>exact⟨0,0,qA _,qA _,by show(0:Nat)<1;decide,rfl,rfl,H0⟩
  obtain⟨k,acc,hk,ag,ac,rfl,rfl,HR⟩:=hrel;by_cases hlt:k<len
  ·obtain⟨X,HX⟩:=zM ((l.getD k 0).toNat:Nat);have hc:w.cell? ⟨b,off+k,none⟩=some (.int .u8 (X:Int)):=by rw[HX.out];exact hcell k hlt
   have hX:X<256:=by rw[HX.out];exact UInt8.toNat_lt _
   clear hcell;by_cases h9:k=9
   ·have ah:((k:Int)==9)=true:=beq_iff_eq.2 (by omega);have aj:9≤k:=by omega
    clear h9;by_cases h1:1<X
    ·go_wp2;go_ret3;have e:=C2b (acc:=acc) (by rw[Hl.out];exact hlt) HX.out (by omega) h1;rw[HR.out,e];exact⟨rfl,rfl⟩
    have hs:X<128:=by omega
    exact iI
   have ah:((k:Int)==9)=false:=beq_eq_false_iff_ne.2 (by omega);by_cases hs:X<128
   ·exact iI
   go_wp2;go_round
   case rel=>exact⟨k+1,_,by omega,by omega,dM ac.out,by go_num,congrArg (Value.int .u64) (C1e ag ac.out hX (by omega)),HR.out.trans (C8j (by rw[Hl.out];exact hlt) HX.out h9 hs)⟩
   case measure=>simp[intOf];omega
  go_wp2;go_ret3;have e:=UM (l:=l) (k:=k) (acc:=acc) (by rw[Hl.out];omega);rw[HR.out,e];exact⟨rfl,rfl⟩
 go_enter Tryz.func202,Tryz.ntmps202;have h0:len=0:=by omega
 subst h0;have hn:=uE Hl.out;clear hr H0 Hl;subst hn;go_wp2;refine wp_loop_rounds 1 ?_;rw[rounds_succ];go_wp2;go_ret3;exact⟨rfl,rfl⟩
end Go.Proofs.YthcomdofaaeihaaGreatDoor
namespace Go.Proofs.YthcomdofaaeihaaGreatDoor
open Go.RowKit
variable{m f:Nat}{v:Value}{l:List UInt8}{w:World}
theorem D8e:(Tryz.prog.info? 5).map (fun i=>(i.zero,i.size,i.bytes))=some (some (.int .u8 0),1,1):=by kernel_rfl
theorem OwnB.base {base:Nat}(h:OwnB w base v l):∀ k,v.ownBlock=some k→base≤k:=fun k hk=>(World.ownsRow.lt h k hk).1
theorem mP {ops:Array Oper}{rest:List Oper}{o:Oper}{a:Act}{Q:Exit→Act→World→Prop}(hgd:o.guard=none)(s x:Operand)
  (ho:o.op = .call { callee:=.builtin .append,args:=#[s,x],argTypes:=#[30,30] })
  (base:Nat) (v:Value) (l m:List UInt8) (hs:a.eval s=v) (hown:OwnB w base v l) (ao:Option Addr) (len cap:Nat) (hx:a.eval x = .slice ao len cap) (hr:RdA w ao len cap m)
  (hlen:l.length+m.length≤140737488355328) (hb:base≤w.heap.size)
  (h:∀ v' w',OwnB w' base v' (l++m)→Below base w w'→wpList Tryz.prog ops Q rest (a.put o.dst v') w'):wpList Tryz.prog ops Q (o::rest) a w:=by
 obtain⟨i0,hi,hz0,hz1,hz2⟩:=info_parts D8e;obtain⟨r1,r2,r3,r4,r5⟩:=hr;cases ao with
 | none=>
  have hc0:=r4 rfl;have hl0:len=0:=by omega
  subst hc0 hl0;have hm:=uE r1;subst hm;refine wpList_append_own_none hgd s x 30 ho base 5 i0 1 Tryz.underlying30 hi v l.length _ hs hown hx ?_;exact h v w (by rw[tT];exact hown) (zH _ _)
 | some ad=>
  refine wpList_append_own w hgd s x 30 ho base 5 i0 (.int .u8 0) 1 1 Tryz.underlying30 hi hz0 hz1 hz2 rfl (by decide) v l.length _ hs hown ad len cap
   (m.map fun c=>Value.int .u8 (c.toNat:Int)) hx (by simp[r1]) ?_ ?_ (by unfold maxLen;omega) (by omega) hb ?_
  ·intro j u hj;rw[sE] at hj;cases hmj:m[j]? with
   | none=>rw[hmj] at hj;cases hj
   | some c=>
    rw[hmj] at hj;have ac:j<m.length:=by
     rcases mW j m.length with h1|h1
     ·exact h1
     ·rw[eN h1] at hmj;cases hmj
    have:=r5 ad rfl j (by omega);rw[this,pG,hmj];exact hj
  ·intro u hu;rw[vT] at hu;obtain⟨c,_,rfl⟩:=hu;rfl
  ·intro v' w' h1 h2 _;refine h v' w' ?_ ((zH base w).grown h2 hb hown.base);show w'.ownsRow base _ 1 v' _ _;rw[yQ,wM,r1];exact h1
theorem OwnB.alloc {base:Nat}(h:OwnB w base v l)(o:Obj):OwnB (w.alloc o) base v l:=World.ownsRow.alloc h o
theorem D6w (hf:m<2 ^ (7*f))(hs:¬ m<128):2≤f:=by
 rcases mW f 2 with h|h
 ·have h1:2 ^ (7*f)≤2 ^ 7:=mU (by decide) (by omega);have h2:(2:Nat) ^ 7=128:=rfl;omega
 exact h
theorem C2t (hf:m<2 ^ (7*(f+1))):m / 128<2 ^ (7*f):=by
 rw[show 7*(f+1)=7*f+7 by omega,jO] at hf;have h2:(2:Nat) ^ 7=128:=rfl;rw[h2] at hf;omega
end Go.Proofs.YthcomdofaaeihaaGreatDoor
namespace Go.Proofs.YthcomdofaaeihaaGreatDoor
open Go.RowKit
structure Rcd where
 num:Int
 how:Int
 bits:Nat
 bytes:List UInt8
def qD:Nat→Nat→List UInt8
 | 0,_=>[]
 | k+1,n=>UInt8.ofNat n::qD k (n / 256)
theorem UJ (k n:Nat):(qD k n).length=k:=by
 induction k generalizing n with
 | zero=>rfl
 | succ k ih=>rw[qD,sQ,ih]
end Go.Proofs.YthcomdofaaeihaaGreatDoor
namespace Go.Proofs.YthcomdofaaeihaaGreatDoor
open Go.RowKit
def yW (num how:Int)(bits len:Nat):Int:=
 if vV how=false then 1
 else if how=2∧4000<len then 4
 else if num<1∨536870912≤num then 3
 else if how=5∧bits / 4294967296≠0 then 3
 else if how=2∧bits≠0 then 8
 else if how≠2∧0<len then 8
 else 0
theorem mQ {how:Int}(h:how=0∨how=1∨how=2∨how=5):¬ vV how=false:=by rw[←gE h];decide
end Go.Proofs.YthcomdofaaeihaaGreatDoor
namespace Go.Proofs.YthcomdofaaeihaaGreatDoor
open Go.RowKit
def mI (how:Int)(bits:Nat)(l:List UInt8):List UInt8:=if how=2 then uF l.length++l else if how=0 then uF bits else qD (tG how) bits
def rJ (num how:Int)(bits:Nat)(l:List UInt8):List UInt8:=uF (num.toNat*8+how.toNat)++mI how bits l
theorem OwnB.mono {w:World}{base base':Nat}{v:Value}{l:List UInt8}(h:OwnB w base v l)(hb:base'≤base):OwnB w base' v l:=by
 refine⟨h.1,?_⟩;rcases h.2 with hn|⟨g,cap,cur,hv,hbg,r⟩
 ·exact .inl hn
 exact .inr ⟨g,cap,cur,hv,yN hb hbg,r⟩
end Go.Proofs.YthcomdofaaeihaaGreatDoor
namespace Go.Proofs.YthcomdofaaeihaaGreatDoor
open Go.RowKit
def Rcd.wf (r:Rcd):Prop:=-9223372036854775808≤r.num∧r.num≤9223372036854775807∧-9223372036854775808≤r.how∧r.how≤9223372036854775807∧r.bits≤18446744073709551615
def pR:Nat→List UInt8→List Rcd→List UInt8×Int×Nat
 | _,acc,[]=>(acc,0,0)
 | i,acc,r::rest=>
  if yW r.num r.how r.bits r.bytes.length≠0 then([],yW r.num r.how r.bits r.bytes.length,i)
  else if 4000<(acc++rJ r.num r.how r.bits r.bytes).length then([],4,i)
  else pR (i+1) (acc++rJ r.num r.how r.bits r.bytes) rest
theorem B3q {h:Int}(k:¬ vV h=false):h=0∨h=1∨h=2∨h=5:=by
 rcases Decidable.em (h=0∨h=1∨h=2∨h=5) with g|g
 ·exact g
 exact absurd (iT g).symm k
theorem D6j {num how:Int}{bits len:Nat}(h:0=yW num how bits len) :
  (how=0∨how=1∨how=2∨how=5)∧1≤num∧num<536870912∧len≤4000∧(how=5→bits<4294967296)∧(how=2→bits=0)∧(how≠2→len=0):=by
 unfold yW at h;split at h
 ·cases h
 rename_i hk;have hh:=B3q hk;split at h
 ·cases h
 split at h
 ·cases h
 split at h
 ·cases h
 split at h
 ·cases h
 split at h
 ·cases h
 refine⟨hh,by omega,by omega,by omega,by omega,by omega,by omega⟩
end Go.Proofs.YthcomdofaaeihaaGreatDoor
namespace Go.Proofs.YthcomdofaaeihaaGreatDoor
open Go.RowKit
variable{ao:Option Addr}{len k N E cap K:Nat}{l:List UInt8}{w:World}
theorem B5n (w:World)(a:Option Addr)(l c:Nat):(binOp .eql 30 (.slice a l c) (.slice none 0 0)).run Tryz.prog w = .ok (.bool a.isNone) w:=
 run_eql_slice_nil w 30 5 a l c Tryz.underlying30
theorem OwnB.made (w:World){base:Nat}(hb:base≤w.heap.size):OwnB (w.alloc (.cells #[] 5)) base (.slice (some ⟨w.heap.size,0,none⟩) 0 0) []:=
 World.ownsRow_made w #[] 0 hb (by unfold maxLen;omega) rfl
theorem C4h (ao:Option Addr)(len cap:Nat)(m:List UInt8)(w:World)(hr:RdA w ao len cap m)(hlen:len≤1000000) :
  Calls Tryz.prog 203 #[.slice ao len cap] w fun e w'=>∃ v',e = .returned v'∧OwnB w' w.heap.size v' m∧zB w w':=by
 have he:=B5n;cases ao with
 | none=>
  have hm:m = []:=uE (by have:=hr.1;have:=hr.2.1;have:=hr.2.2.2.1 rfl;omega);subst hm;go_enter Tryz.func203,Tryz.ntmps203;go_wp2;go_ret;exact⟨_,rfl,OwnB.nil _ _,zH _ _⟩
 | some x=>
 have hb0:∀ o,zB w (w.alloc o):=fun o=>(zH w.heap.size w).alloc (zG _) o
 have HL:=zI hr.1;have hr1:RdA (w.alloc (.cells #[] 5)) (some x) len cap m:=hr.later (hb0 _);go_enter Tryz.func203,Tryz.ntmps203;go_wp2_with (at_builtin;refine mP rfl _ _ rfl w.heap.size _ [] m rfl (OwnB.made w (zG _)) (some x) len cap rfl hr1 ?e1 ?e2 ?_)
 case e1=>have:=HL.out;simp;omega
 case e2=>simp
 intro v2 w2 ag ac;go_wp2;go_ret;exact⟨v2,rfl,ag,(hb0 _).trans ac⟩
theorem D7q (x:Addr)(a b:Nat):(x.add a).add b=x.add (a+b):=by
 unfold Addr.add;split <;> split <;> simp_all <;> omega
theorem RdA.drop (h:RdA w ao len cap l)(hk:k≤len) :
  RdA w (if cap=k then ao else ao.map (·.add k)) (len-k) (cap-k) (l.drop k):=by
 obtain⟨h1,h2,h3,h4,h5⟩:=h;refine⟨by simp[h1],by omega,by omega,?_,?_⟩
 ·intro hn;split at hn
  ·omega
  have:ao=none:=by simpa using hn
  have:=h4 this;omega
 intro x hx i hi;rw[zC (by omega)] at hx;cases ao with
 | none=>cases hx
 | some y=>
 simp at hx;subst hx;rw[D7q];have:=h5 y rfl (k+i) (by omega);rw[this];simp
theorem RdA.take (h:RdA w ao len cap l)(hk:k≤len) :
  RdA w ao k cap (l.take k):=by
 obtain⟨h1,h2,h3,h4,h5⟩:=h;refine⟨by simp;omega,by omega,h3,h4,?_⟩;intro x hx i hi;rw[h5 x hx i (by omega)];simp[hi]
theorem D7x (l:List UInt8):∀ (i acc:Nat),acc<2 ^ (7*i)→i≤9→
  (yZ i acc l).1≤18446744073709551615∧(yZ i acc l).2.1≤i+l.length∧(yZ i acc l).2.1≤10∧((yZ i acc l).2.2=0∨(yZ i acc l).2.2=2∨(yZ i acc l).2.2=3)∧((yZ i acc l).2.2=0→i+1≤(yZ i acc l).2.1):=by
 induction l with
 | nil=>intro i acc _ _;rw[yZ];exact⟨by simp,by simp,by simp,.inr (.inl rfl),by simp⟩
 | cons x r ih=>
 intro i acc ac hi;rw[yZ];split
 ·exact⟨by simp,by simp,by simp,.inr (.inr rfl),by simp⟩
 rename_i h9;have hx:x.toNat<256:=UInt8.toNat_lt _;have hb:acc+x.toNat%128*2 ^ (7*i)≤18446744073709551615:=by
  by_cases h:i≤8
  ·have h1:=WI h;have h2:x.toNat%128*2 ^ (7*i)≤127*2 ^ (7*i):=qV _ (by omega);omega
  have ag:i=9:=by omega
  subst ag;rw[show 2 ^ (7*9)=9223372036854775808 from rfl] at ac ⊢;omega
 split
 ·exact⟨hb,by simp,by simp;omega,.inl rfl,by simp⟩
 have ah:i≠9:=by intro e;apply h9;exact⟨e,by omega⟩
 obtain⟨a,b,c,d,e⟩:=ih (i+1) _ (dM ac) (by omega);exact⟨a,by simp;omega,c,d,fun h=>by have:=e h;omega⟩
theorem lN (h:yZ 0 0 l=(N,K,E)):N≤18446744073709551615∧K≤l.length∧K≤10∧(E=0∨E=2∨E=3)∧(E=0→1≤K):=by
 have:=D7x l 0 0 (by decide) (by omega);rw[h] at this;simpa using this
theorem VB (hr:RdA w ao len cap l)(h:yZ 0 0 l=(N,K,E)) :
  Calls Tryz.prog 202 #[.slice ao len cap] w fun e w'=>e = .returned (.tuple #[.int .u64 (N:Int),.int .i64 (K:Int),.int .i64 (E:Int)])∧w=w':=by
 have:=VT ao len cap l w hr;rw[h] at this;exact this
theorem lM {a b c d a' b' c' d':Nat}(e:(a,b,c,d)=(a',b',c',d')):a=a'∧b=b'∧c=c'∧d=d':=by simpa using e
def qE (N K E:Nat):Nat×Nat×Nat×Nat:=
 if E≠0 then(0,0,0,E)
 else if N / 8<1∨536870912≤N / 8 then(0,0,0,3)
 else if vV ((N%8:Nat):Int)=false then(0,0,0,1)
 else(N / 8,N%8,K,0)
def tJ (l:List UInt8):Nat×Nat×Nat×Nat:=qE (yZ 0 0 l).1 (yZ 0 0 l).2.1 (yZ 0 0 l).2.2
theorem gV{P:Prop}(h:P:=by
 clear h1;go_wp2;refine bodyPost_ret (v:=.tuple #[.int .i64 0,.int .i64 0,.int .i64 0,.int .i64 3]) (by simp[results,Tryz.results173,go_sem]) rfl ⟨rfl,rfl⟩):P:=h
theorem C8k (hr:RdA w ao len cap l){A B C D:Nat}(h:tJ l=(A,B,C,D)) :
  Calls Tryz.prog 173 #[.slice ao len cap] w fun e w'=>e = .returned (.tuple #[.int .i64 (A:Int),.int .i64 (B:Int),.int .i64 (C:Int),.int .i64 (D:Int)])∧w=w':=by
 obtain⟨N,K,E,Hg⟩:∃ N K E,Hid (yZ 0 0 l=(N,K,E)):=⟨_,_,_,rfl⟩
 obtain⟨b1,b2,b3,b4,b5⟩:=lN Hg.out;have HT:Hid (qE N K E=(A,B,C,D)):=by show _=_;rw[←h,tJ,Hg.out]
 clear h;go_enter Tryz.func173,Tryz.ntmps173;go_wp2_with fail
 refine(VB hr Hg.out).mono ?_;rintro e w1 ⟨rfl,rfl⟩;by_cases h0:E=0
 ·have ag:((E:Int) != 0)=false:=by simp[h0]
  by_cases h1:N / 8<1∨536870912≤N / 8
  ·obtain⟨rfl,rfl,rfl,rfl⟩:=lM (show(0,0,0,3)=(A,B,C,D) by rw[←HT.out,qE,zC (by omega),zF h1]);clear HT h0;rcases h1 with h1|h1
   ·have ac:(N:Int) / 8<1:=by omega
    exact gV
   have ac:1≤(N:Int) / 8:=by omega
   have ah:536870912≤(N:Int) / 8:=by omega
   exact gV
  obtain⟨Q,HQ⟩:=zM (N / 8);obtain⟨M,HM⟩:=zM (N%8);have q1:1≤Q:=by have:=HQ.out;omega
  have q2:Q<536870912:=by have:=HQ.out;omega
  have q3:M<8:=by have:=HM.out;omega
  have q4:(N:Int) / 8=(Q:Int):=by have:=HQ.out;omega
  have q5:(N:Int)%8=(M:Int):=by have:=HM.out;omega
  by_cases h3:vV (M:Int)=false
  ·obtain⟨rfl,rfl,rfl,rfl⟩:=lM (show(0,0,0,1)=(A,B,C,D) by rw[←HT.out,qE,zC (by omega),zC h1,zF (by rw[←HM.out];exact h3)]);clear HT h0 h1 b1 b2 b3 b4 b5 HM HQ;have H3:=zI h3;clear h3;go_wp2_with fail
   refine(eC _ _).mono ?_;rintro e w1 ⟨rfl,rfl⟩;rw[H3.out];go_wp2;refine bodyPost_ret (v:=.tuple #[.int .i64 0,.int .i64 0,.int .i64 0,.int .i64 1]) (by simp[results,Tryz.results173,go_sem]) rfl ⟨rfl,rfl⟩
  obtain⟨rfl,rfl,rfl,rfl⟩:=lM (show(Q,M,K,0)=(A,B,C,D) by rw[←HT.out,qE,zC (by omega),zC h1,zC (by rw[←HM.out];exact h3),HQ.out,HM.out]);clear HT h0 h1 b1 b2 b3 b4 b5 HM HQ;have H3:Hid (vV (M:Int)=true):=by show _=_;simpa using h3
  clear h3;go_wp2_with fail
  refine(eC _ _).mono ?_;rintro e w1 ⟨rfl,rfl⟩;rw[H3.out];go_wp2;refine bodyPost_ret (v:=.tuple #[.int .i64 (Q:Int),.int .i64 (M:Int),.int .i64 (K:Int),.int .i64 0]) (by simp[results,Tryz.results173,go_sem]) rfl ⟨rfl,rfl⟩
 have ag:((E:Int) != 0)=true:=by rw[qK];omega
 obtain⟨rfl,rfl,rfl,rfl⟩:=lM (show(0,0,0,E)=(A,B,C,D) by rw[←HT.out,qE,zF h0]);clear h0 HT;go_wp2;refine bodyPost_ret (v:=.tuple #[.int .i64 0,.int .i64 0,.int .i64 0,.int .i64 (E:Int)]) (by simp[results,Tryz.results173,go_sem]) rfl ⟨rfl,rfl⟩
end Go.Proofs.YthcomdofaaeihaaGreatDoor
namespace Go.Proofs.YthcomdofaaeihaaGreatDoor
open Go.RowKit
variable{ao:Option Addr}{len k cap C X B:Nat}{l:List UInt8}{w:World}
def lI (l:List UInt8)(N K E:Nat):List UInt8×Nat×Nat:=
 if E≠0 then([],0,E)
 else if l.length-K<N then([],0,2)
 else((l.drop K).take N,K+N,0)
def rW (l:List UInt8):List UInt8×Nat×Nat:=lI l (yZ 0 0 l).1 (yZ 0 0 l).2.1 (yZ 0 0 l).2.2
theorem xJ {α:Type}{a a' : α}{b c b' c':Nat}(e:(a,b,c)=(a',b',c')):a=a'∧b=b'∧c=c':=by simpa using e
theorem cR (hr:RdA w ao len cap l)(hk:k≤len)(kd:IntKind) :
  ∃ ac,(∀ w,(Instr.slice 30 (.slice ao len cap) (some (.int kd (k:Int))) none none).run Tryz.prog w = .ok (.slice ac (len-k) (cap-k)) w)∧RdA w ac (len-k) (cap-k) (l.drop k):=by
 refine⟨_,?_,hr.drop hk⟩;intro w;have:=run_slice_l (P:=Tryz.prog) (w:=w) 30 ao len cap Tryz.underlying30 kd (k:Int) (by omega) (by omega);rw[this];have e1:(sizeOf (Tryz.prog.elem 30)).run Tryz.prog w = .ok 1 w:=by rfl
 rw[e1];simp[Result.andThen,sliced]
theorem C3m (hr:RdA w ao len cap l)(hk:k≤len)(kd:IntKind) :
  (∀ w,(Instr.slice 30 (.slice ao len cap) none (some (.int kd (k:Int))) none).run Tryz.prog w = .ok (.slice ao k cap) w)∧RdA w ao k cap (l.take k):=by
 refine⟨?_,hr.take hk⟩;intro w;have hc:=hr.2.1;have:=run_slice_h (P:=Tryz.prog) (w:=w) 30 ao len cap Tryz.underlying30 kd (k:Int) (by omega) (by omega);rw[this];have e1:(sizeOf (Tryz.prog.elem 30)).run Tryz.prog w = .ok 1 w:=by rfl
 rw[e1];have e2:ao.map (fun x=>x.add 0)=ao:=by cases ao <;> rfl
 simp[Result.andThen,sliced,e2]
theorem C0d (hr:RdA w ao len cap l)(hlen:len≤4000){A:List UInt8}(h:rW l=(A,B,C)) :
  Calls Tryz.prog 174 #[.slice ao len cap] w fun e w'=>∃ v',e = .returned (.tuple #[v',.int .i64 (B:Int),.int .i64 (C:Int)])∧OwnB w' w.heap.size v' A∧zB w w':=by
 obtain⟨N,K,E,Hg⟩:∃ N K E,Hid (yZ 0 0 l=(N,K,E)):=⟨_,_,_,rfl⟩
 obtain⟨b1,b2,b3,b4,b5⟩:=lN Hg.out;have HT:Hid (lI l N K E=(A,B,C)):=by show _=_;rw[←h,rW,Hg.out]
 have HL:=zI hr.1;have ah:K≤len:=by rw[←HL.out];exact b2
 have au:=hr.2.1;have hcm:cap≤9223372036854775807:=by have:=hr.2.2.1;unfold maxLen at this;omega
 clear h b2;go_enter Tryz.func174,Tryz.ntmps174;go_wp2_with fail
 refine(VB hr Hg.out).mono ?_;rintro e w1 ⟨rfl,rfl⟩;by_cases h0:E=0
 ·have ag:((E:Int) != 0)=false:=by simp[h0]
  obtain⟨ak,av,aj⟩:=cR hr ah .i64;by_cases h1:len-K<N
  ·obtain⟨rfl,rfl,rfl⟩:=xJ (show([],0,2)=(A,B,C) by rw[←HT.out,lI,zC (by omega),zF (by rw[HL.out];exact h1)]);clear HT h0;have ac:((len-K:Nat):Int)<(N:Int):=by omega
   go_wp2;go_ret3;exact⟨_,rfl,OwnB.nil _ _,zH _ _⟩
  obtain⟨rfl,rfl,rfl⟩:=xJ (show((l.drop K).take N,K+N,0)=(A,B,C) by rw[←HT.out,lI,zC (by omega),zC (by rw[HL.out];exact h1)]);clear HT h0;have ac:(N:Int)≤((len-K:Nat):Int):=by omega
  obtain⟨hst,hrt⟩:=C3m aj (show N≤len-K by omega) .u64;go_wp2_with fail
  refine(C4h _ _ _ _ _ hrt (by omega)).mono ?_;rintro e w2 ⟨v2,rfl,ho,hbl⟩;go_wp2;go_ret3;exact⟨v2,rfl,ho,hbl⟩
 have ag:((E:Int) != 0)=true:=by rw[qK];omega
 obtain⟨rfl,rfl,rfl⟩:=xJ (show([],0,E)=(A,B,C) by rw[←HT.out,lI,zF h0]);clear h0 HT;go_wp2;go_ret3;exact⟨_,rfl,OwnB.nil _ _,zH _ _⟩
def uJ:List UInt8→Nat
 | []=>0
 | c::r=>c.toNat+256*uJ r
theorem dY (l:List UInt8):uJ l<2 ^ (8*l.length):=by
 induction l with
 | nil=>simp[uJ]
 | cons c r ih=>
 rw[uJ,sQ,show 8*(r.length+1)=8*r.length+8 by omega,jO];have:c.toNat<256:=UInt8.toNat_lt _;have e:(2:Nat) ^ 8=256:=rfl;omega
theorem C4v (l:List UInt8)(c:UInt8):uJ (l++[c])=uJ l+c.toNat*2 ^ (8*l.length):=by
 induction l with
 | nil=>simp[uJ]
 | cons a r ih=>
 rw[lT,uJ,ih,uJ,sQ,show 8*(r.length+1)=8*r.length+8 by omega,jO];have e:(2:Nat) ^ 8=256:=rfl;rw[e];generalize 2 ^ (8*r.length)=p;rw[←Nat.mul_assoc c.toNat p 256,mT (c.toNat*p) 256,Nat.mul_add];omega
theorem C8o {W:Nat}(hk:k<l.length)(hW:k<W)(hX:X=((l.take W).getD k 0).toNat):uJ (l.take (k+1))=uJ (l.take k)+X*2 ^ (8*k):=by
 rw[List.take_succ_eq_append_getElem hk,C4v,vZ,eM (by omega),hX];simp[hW,hk]
theorem D7z (hk:k≤l.length):uJ (l.take k)<2 ^ (8*k):=by
 have:=dY (l.take k)
 rwa [vZ,eM hk] at this
theorem E1h {acc:Nat}(hk:k≤7)(ac:acc<2 ^ (8*k))(hX:X<256) :
  bits BinOp.or IntKind.u64 (acc:Int) (IntKind.u64.wrap ((X:Int)*2 ^ (8*k)))=((acc+X*2 ^ (8*k):Nat):Int):=by
 have hp:2 ^ (8*k)≤2 ^ 56:=mU (by decide) (by omega);have hb:X*2 ^ (8*k)<2 ^ 64:=by
  have h2:X*2 ^ (8*k)≤255*2 ^ (8*k):=qV _ (by omega);omega
 have e:((X:Int)*2 ^ (8*k))=((X*2 ^ (8*k):Nat):Int):=by simp
 rw[e,lG _ (by omega) (by exact_mod_cast hb)];exact D6v (8*k) acc _ ac (by omega) (Nat.mul_mod_left _ _) hb
def vD (l:List UInt8)(how:Int):Nat×Nat×Nat:=
 if how=0 then yZ 0 0 l
 else if l.length<tG how then(0,0,2)
 else(uJ (l.take (tG how)),tG how,0)
theorem B4h (hr:RdA w ao len cap l)(how:Int){A:Nat}(h:vD l how=(A,B,C)) :
  Calls Tryz.prog 175 #[.slice ao len cap,.int .i64 how] w fun e w'=>e = .returned (.tuple #[.int .u64 (A:Int),.int .i64 (B:Int),.int .i64 (C:Int)])∧w=w':=by
 have HL:=zI hr.1;have hlc:=hr.2.1;have hcm:cap≤9223372036854775807:=by have:=hr.2.2.1;unfold maxLen at this;omega
 by_cases h0:how=0
 ·subst h0;rw[vD,zF rfl] at h;have Hh:=zI h;clear h;go_enter Tryz.func175,Tryz.ntmps175;go_wp2_with fail
  refine(VB hr Hh.out).mono ?_;rintro e w1 ⟨rfl,rfl⟩;go_wp2;go_ret3;exact⟨rfl,rfl⟩
 have b0:=beq_eq_false_iff_ne.2 h0;rw[vD,zC h0] at h;obtain⟨W,HW⟩:=yP (tG how);have ah:W≤8:=by rw[←HW.out];unfold tG;split <;> (try split) <;> omega
 rw[HW.out,HL.out] at h;clear h0;by_cases h1:len<W
 ·rw[zF h1] at h;obtain⟨rfl,rfl,rfl⟩:=xJ h;clear h;go_enter Tryz.func175,Tryz.ntmps175;go_wp2_with (go_at_call 193;refine(UZ how _).mono ?_;rintro e w1 ⟨rfl,rfl⟩;rw[HW.out])
  go_ret3;exact⟨rfl,rfl⟩
 rw[zC h1] at h;obtain⟨rfl,rfl,rfl⟩:=xJ h;clear h;obtain⟨hst,hrt⟩:=C3m hr (show W≤len by omega) .i64;by_cases hp:0<W
 ·obtain⟨b,off,rfl,aj,hcell⟩:=hrt.at hp;go_enter Tryz.func175,Tryz.ntmps175;go_wp2_with (go_at_call 193;refine(UZ how _).mono ?_;rintro e w1 ⟨rfl,rfl⟩;rw[HW.out])
  go_loop [8,28] (fun a i=>∃ k acc:Nat,k≤W∧i = .int .i64 k∧a = .int .u64 acc∧Hid (acc=uJ (l.take k))) (fun _ i=>W-(intOf i).toNat)
  case atStart=>exact⟨0,0,qA _,rfl,rfl,rfl⟩
  obtain⟨k,acc,hk,rfl,rfl,HR⟩:=hrel;by_cases hlt:k<W
  ·obtain⟨X,HX⟩:=zM (((l.take W).getD k 0).toNat:Nat);have hc:w.cell? ⟨b,off+k,none⟩=some (.int .u8 (X:Int)):=by rw[HX.out];exact hcell k hlt
   have hX:X<256:=by rw[HX.out];exact UInt8.toNat_lt _
   clear hcell;go_wp2;go_round
   case rel=>
    have ag:k<l.length:=by rw[HL.out];omega
    refine⟨k+1,acc+X*2 ^ (8*k),by omega,by go_num,congrArg (Value.int .u64) (E1h (by omega) (by rw[HR.out];exact D7z (by omega)) hX),?_⟩;show _=_;rw[C8o ag hlt HX.out,HR.out]
   case measure=>simp[intOf];omega
  go_wp2;go_ret3;have ac:k=W:=by omega
  exact⟨ZA (by rw[HR.out,ac]) rfl rfl,rfl⟩
 have hW0:W=0:=by omega
 subst hW0;go_enter Tryz.func175,Tryz.ntmps175;go_wp2_with (go_at_call 193;refine(UZ how _).mono ?_;rintro e w1 ⟨rfl,rfl⟩;rw[HW.out])
 refine wp_loop_rounds 1 ?_;rw[rounds_succ];go_wp2;go_ret3;exact⟨rfl,rfl⟩
end Go.Proofs.YthcomdofaaeihaaGreatDoor
namespace Go.Proofs.YthcomdofaaeihaaGreatDoor
open Go.RowKit
variable{C B A:Nat}{l:List UInt8}{w:World}
def qG (A B C:Nat)(rest:List UInt8):Rcd×Nat×Nat:=
 if B=2 then
  if (rW rest).2.2≠0 then(⟨0,0,0,[]⟩,0,(rW rest).2.2)
  else(⟨(A:Int),(B:Int),0,(rW rest).1⟩,C+(rW rest).2.1,0)
 else
  if (vD rest (B:Int)).2.2≠0 then(⟨0,0,0,[]⟩,0,(vD rest (B:Int)).2.2)
  else(⟨(A:Int),(B:Int),(vD rest (B:Int)).1,[]⟩,C+(vD rest (B:Int)).2.1,0)
def uC (l:List UInt8):Rcd×Nat×Nat:=
 if (tJ l).2.2.2≠0 then(⟨0,0,0,[]⟩,0,(tJ l).2.2.2)
 else qG (tJ l).1 (tJ l).2.1 (tJ l).2.2.1 (l.drop (tJ l).2.2.1)
theorem ZN {D:Nat}(h:tJ l=(A,B,C,D)):A<536870912∧B<8∧C≤l.length∧C≤10∧D≤3∧(D=0→1≤C∧1≤A∧vV (B:Int)=true):=by
 obtain⟨N,K,E,hg⟩:∃ N K E,yZ 0 0 l=(N,K,E):=⟨_,_,_,rfl⟩
 obtain⟨b1,b2,b3,b4,b5⟩:=lN hg;rw[tJ,hg] at h;dsimp only at h;unfold qE at h;split at h
 ·obtain⟨rfl,rfl,rfl,rfl⟩:=lM h;omega
 split at h
 ·obtain⟨rfl,rfl,rfl,rfl⟩:=lM h;omega
 split at h
 ·obtain⟨rfl,rfl,rfl,rfl⟩:=lM h;omega
 rename_i h3;obtain⟨rfl,rfl,rfl,rfl⟩:=lM h;refine⟨by omega,by omega,by omega,by omega,by omega,fun _=>⟨b5 (by omega),by omega,?_⟩⟩;simpa using h3
theorem YJ {A:List UInt8}(h:rW l=(A,B,C)):A.length≤l.length∧B≤l.length∧C≤3∧(C=0→1≤B)∧A.length≤B:=by
 obtain⟨N,K,E,hg⟩:∃ N K E,yZ 0 0 l=(N,K,E):=⟨_,_,_,rfl⟩
 obtain⟨b1,b2,b3,b4,b5⟩:=lN hg;rw[rW,hg] at h;dsimp only at h;unfold lI at h;split at h
 ·obtain⟨rfl,rfl,rfl⟩:=xJ h;simp;omega
 split at h
 ·obtain⟨rfl,rfl,rfl⟩:=xJ h;simp
 obtain⟨rfl,rfl,rfl⟩:=xJ h;simp;omega
theorem cC {how:Int}(h:vD l how=(A,B,C)):A≤18446744073709551615∧B≤l.length∧B≤10∧C≤3:=by
 unfold vD at h;split at h
 ·obtain⟨b1,b2,b3,b4,b5⟩:=lN h;omega
 split at h
 ·obtain⟨rfl,rfl,rfl⟩:=xJ h;omega
 obtain⟨rfl,rfl,rfl⟩:=xJ h;have hw:tG how≤8:=by unfold tG;split <;> (try split) <;> omega
 have:=dY (l.take (tG how));have hp:2 ^ (8*(l.take (tG how)).length)≤2 ^ 64:=mU (by decide) (by simp;omega);omega
theorem D6q {w':World}{g t:Nat}{a b c d:Value}(h:w.heap[g]?=some (.cells #[a,b,c,d] t (0,0)))(hb:Below B w w')(hg:g<B) :
  (w'.cell? ⟨g,0,none⟩=some a∧w'.cell? ⟨g,1,none⟩=some b∧w'.cell? ⟨g,2,none⟩=some c∧w'.cell? ⟨g,3,none⟩=some d)∧
  (w'.frozen? ⟨g,0,none⟩=false∧w'.frozen? ⟨g,1,none⟩=false∧w'.frozen? ⟨g,2,none⟩=false∧w'.frozen? ⟨g,3,none⟩=false):=by
 have h':w'.heap[g]?=some (.cells #[a,b,c,d] t (0,0)):=by rw[hb.block g hg];exact h
 simp[World.cell?,World.frozen?,h']
theorem Qa3{P:Prop}(h:P:=by
 exact((((au.setCell (by simp) _).setCell (zG _) _).setCell (zG _) _).setCell (zG _) _).setCell (zG _) _):P:=h
theorem B7n {ao:Option Addr}{len cap:Nat}(hr:RdA w ao len cap l)(hlen:len≤4000){r:Rcd}{n E:Nat}(h:uC l=(r,n,E)) :
  Calls Tryz.prog 99 #[.slice ao len cap] w fun e w'=>∃ v',e = .returned (.tuple #[.agg #[.int .i64 r.num,.int .i64 r.how,.int .u64 (r.bits:Int),v'],.int .i64 (n:Int),.int .i64 (E:Int)])∧OwnB w' w.heap.size v' r.bytes∧zB w w':=by
 have HL:=zI hr.1;obtain⟨A,B,C,D,HT⟩:∃ A B C D,Hid (tJ l=(A,B,C,D)):=⟨_,_,_,_,rfl⟩
 obtain⟨t1,t2,t3,t4,t5,t6⟩:=ZN HT.out;rw[uC,HT.out] at h;dsimp only at h;have ba:C≤len:=by rw[←HL.out];exact t3
 have hb0:zB w (w.alloc (.cells #[.int .i64 0,.int .i64 0,.int .u64 0,.slice none 0 0] 78)):=(zH _ _).alloc (zG _) _;go_enter Tryz.func99,Tryz.ntmps99;have Hh:Hid _:=h;clear h t3;go_wp2_with fail
 refine(C8k (hr.later hb0) HT.out).mono ?_;rintro e w1 ⟨rfl,rfl⟩;by_cases h0:D=0
 ·have bc:((D:Int) != 0)=false:=by simp[h0]
  obtain⟨c1,c2,c3⟩:=t6 h0;have H2:Hid (qG A B C (l.drop C)=(r,n,E)):=by show _=_;rw[←Hh.out,zC (by omega)]
  clear Hh h0 t6 c3;obtain⟨bh,bk,bg⟩:=cR hr ba .i64;have hb2:zB w ((w.alloc (.cells #[.int .i64 0,.int .i64 0,.int .u64 0,.slice none 0 0] 78)).alloc (.cells #[.int .i64 (A:Int),.int .i64 (B:Int),.int .u64 0,.slice none 0 0] 78)):=hb0.alloc (by simp) _;have ah:=bg.later hb2;by_cases hB:B=2
  ·have aw:((B:Int)==2)=true:=by simp[hB]
   obtain⟨S,T,U,Hs⟩:∃ S T U,Hid (rW (l.drop C)=(S,T,U)):=⟨_,_,_,rfl⟩
   obtain⟨s1,s2,s3,s4,s5⟩:=YJ Hs.out;have H3:Hid ((if U≠0 then(⟨0,0,0,[]⟩,0,U) else(⟨(A:Int),(B:Int),0,S⟩,C+T,0))=(r,n,E)):=by
    show _=_;rw[←H2.out,qG,zF hB,Hs.out]
   have hT:T≤4000:=by have:=HL.out;simp at s2;omega
   clear H2 hB s1 s2 s4 s5;go_wp2_with fail
   refine(C0d ah (by omega) Hs.out).mono ?_;rintro e w2 ⟨v2,rfl,ho,hbl⟩;obtain⟨⟨p0,p1,p2,p3⟩,p4,p5,p6,p7⟩:=D6q (g:=w.heap.size) (t:=78) (a:=.int .i64 0) (b:=.int .i64 0) (c:=.int .u64 0) (d:=.slice none 0 0) (by rw[wT _ _ _ (by simp)];exact yM w _) hbl (by simp;omega);obtain⟨⟨q0,q1,q2,q3⟩,q4,q5,q6,q7⟩:=D6q (g:=w.heap.size+1) (t:=78) (a:=.int .i64 (A:Int)) (b:=.int .i64 (B:Int)) (c:=.int .u64 0) (d:=.slice none 0 0) (by have:=yM (w.alloc (.cells #[.int .i64 0,.int .i64 0,.int .u64 0,.slice none 0 0] 78)) (.cells #[.int .i64 (A:Int),.int .i64 (B:Int),.int .u64 0,.slice none 0 0] 78);simpa using this) hbl (by simp);have au:=hb2.trans (hbl.mono (by simp;omega));obtain⟨aj,ag,ac,hv3,hr3⟩:=ho.rd;have HV:=zI hv3;rw[hv3];clear hv3;by_cases hU:U=0
   ·have ak:((U:Int) != 0)=false:=by simp[hU]
    obtain⟨rfl,rfl,rfl⟩:=xJ (show(⟨(A:Int),(B:Int),0,S⟩,C+T,0)=(r,n,E) by rw[←H3.out,zC (by omega)]);clear hU H3;go_wp2;refine bodyPost_ret (v:=.tuple #[.agg #[.int .i64 (A:Int),.int .i64 (B:Int),.int .u64 0,.slice aj ag ac],.int .i64 ((C+T:Nat):Int),.int .i64 0]) (by simp[results,Tryz.results99,go_sem,p0,p1,p2,p3]) rfl ⟨_,rfl,?_,?_⟩
    ·have av:=ho;rw[HV.out] at av;have:=jK (jK (jK (jK (jK av (a:=⟨w.heap.size+1,3,none⟩) (by simp) (.slice aj ag ac)) (a:=⟨w.heap.size,0,none⟩) (by simp;omega) (.int .i64 (A:Int))) (a:=⟨w.heap.size,1,none⟩) (by simp;omega) (.int .i64 (B:Int))) (a:=⟨w.heap.size,2,none⟩) (by simp;omega) (.int .u64 0)) (a:=⟨w.heap.size,3,none⟩) (by simp;omega) (.slice aj ag ac);exact OwnB.mono this (by simp;omega)
    exact Qa3
   have ak:((U:Int) != 0)=true:=by rw[qK];omega
   obtain⟨rfl,rfl,rfl⟩:=xJ (show(⟨0,0,0,[]⟩,0,U)=(r,n,E) by rw[←H3.out,zF hU]);clear hU H3;go_wp2;refine bodyPost_ret (v:=.tuple #[.agg #[.int .i64 0,.int .i64 0,.int .u64 0,.slice none 0 0],.int .i64 0,.int .i64 (U:Int)]) (by simp[results,Tryz.results99,go_sem,p0,p1,p2,p3]) rfl ⟨_,rfl,OwnB.nil _ _,?_⟩;exact Qa3
  have aw:((B:Int)==2)=false:=by simp;omega
  obtain⟨S,T,U,Hs⟩:∃ S T U,Hid (vD (l.drop C) (B:Int)=(S,T,U)):=⟨_,_,_,rfl⟩
  obtain⟨s1,s2,s3,s4⟩:=cC Hs.out;have H3:Hid ((if U≠0 then(⟨0,0,0,[]⟩,0,U) else(⟨(A:Int),(B:Int),S,[]⟩,C+T,0))=(r,n,E)):=by
   show _=_;rw[←H2.out,qG,zC hB,Hs.out]
  clear H2 hB s2;go_wp2_with fail
  refine(B4h ah (B:Int) Hs.out).mono ?_;rintro e w2 ⟨rfl,rfl⟩;by_cases hU:U=0
  ·have ak:((U:Int) != 0)=false:=by simp[hU]
   obtain⟨rfl,rfl,rfl⟩:=xJ (show(⟨(A:Int),(B:Int),S,[]⟩,C+T,0)=(r,n,E) by rw[←H3.out,zC (by omega)]);clear hU H3;go_wp2;refine bodyPost_ret (v:=.tuple #[.agg #[.int .i64 (A:Int),.int .i64 (B:Int),.int .u64 (S:Int),.slice none 0 0],.int .i64 ((C+T:Nat):Int),.int .i64 0]) (by simp[results,Tryz.results99,go_sem]) rfl ⟨_,rfl,OwnB.nil _ _,?_⟩;exact((zH _ _).alloc (zG _) _).alloc (by simp) _
  have ak:((U:Int) != 0)=true:=by rw[qK];omega
  obtain⟨rfl,rfl,rfl⟩:=xJ (show(⟨0,0,0,[]⟩,0,U)=(r,n,E) by rw[←H3.out,zF hU]);clear hU H3;go_wp2;refine bodyPost_ret (v:=.tuple #[.agg #[.int .i64 0,.int .i64 0,.int .u64 0,.slice none 0 0],.int .i64 0,.int .i64 (U:Int)]) (by simp[results,Tryz.results99,go_sem]) rfl ⟨_,rfl,OwnB.nil _ _,?_⟩;exact((zH _ _).alloc (zG _) _).alloc (by simp) _
 have bc:((D:Int) != 0)=true:=by rw[qK];omega
 obtain⟨rfl,rfl,rfl⟩:=xJ (show(⟨0,0,0,[]⟩,0,D)=(r,n,E) by rw[←Hh.out,zF h0]);clear Hh h0;go_wp2;refine bodyPost_ret (v:=.tuple #[.agg #[.int .i64 0,.int .i64 0,.int .u64 0,.slice none 0 0],.int .i64 0,.int .i64 (D:Int)]) (by simp[results,Tryz.results99,go_sem]) rfl ⟨_,rfl,OwnB.nil _ _,?_⟩;exact hb0
end Go.Proofs.YthcomdofaaeihaaGreatDoor
namespace Go.Proofs.YthcomdofaaeihaaGreatDoor
open Go.RowKit
variable{v:Value}{w:World}
def mK (p:Rcd×Value):List Value:=[.int .i64 p.1.num,.int .i64 p.1.how,.int .u64 (p.1.bits:Int),p.2]
def flat (ps:List (Rcd×Value)):List Value:=ps.flatMap mK
def OwnR (w:World)(base:Nat)(v:Value)(ps:List (Rcd×Value)):Prop:=
 w.ownsRow base 78 4 v ps.length (flat ps)∧∀ p∈ps,OwnB w base p.2 p.1.bytes∧p.1.wf
theorem OwnR.nil (w:World)(base:Nat):OwnR w base (.slice none 0 0) []:=⟨jY _ _ _ _,fun p hp=>by cases hp⟩
theorem OwnB.ne_row {base base':Nat}{sv:Value}{l:List UInt8}{n:Nat}{xs:List Value}(h:OwnB w base sv l)(h':w.ownsRow base' 78 4 v n xs):sv.ownBlock=none∨sv.ownBlock≠v.ownBlock:=by
 rcases h.2 with⟨hv,_⟩|⟨g,cap,cur,hv,_,hg,_⟩
 ·left;rw[hv];rfl
 rcases h'.2 with⟨hv',_⟩|⟨g',cap',cur',hv',_,hg',_⟩
 ·right;rw[hv,hv'];simp[Value.ownBlock]
 right;rw[hv,hv'];simp only[Value.ownBlock,ne_eq,Option.some.injEq];intro e;rw[e,hg'] at hg;simp at hg
theorem OwnR.keptB {w':World}{base:Nat}{ps:List (Rcd×Value)}(h:OwnR w base v ps)(hb:zB w w'):OwnR w' base v ps:=by
 refine⟨⟨h.1.1,?_⟩,fun p hp=>⟨(h.2 p hp).1.keptB hb,(h.2 p hp).2⟩⟩;rcases h.1.2 with hn|⟨g,cap,cur,hv,hbg,hg,r⟩
 ·exact .inl hn
 exact .inr ⟨g,cap,cur,hv,hbg,by rw[hb.block g (zR hg)];exact hg,r⟩
theorem E1b (b o i:Nat):(⟨b,o,none⟩:Addr).add i=⟨b,o+i,none⟩:=by unfold Addr.add;split <;> simp_all
theorem D3z:(Tryz.prog.info? 78).map (fun i=>(i.zero,i.size,i.bytes))=some (some (.agg #[.int .i64 0,.int .i64 0,.int .u64 0,.slice none 0 0]),4,48):=by kernel_rfl
theorem TL (ps:List (Rcd×Value))(p:Rcd×Value):flat (ps++[p])=flat ps++mK p:=by simp[flat]
theorem C1l {ops:Array Oper}{rest:List Oper}{o:Oper}{a:Act}{Q:Exit→Act→World→Prop}(hgd:o.guard=none)(s x:Operand)
  (ho:o.op = .call { callee:=.builtin .append,args:=#[s,x],argTypes:=#[27,27] })
  (base:Nat) (v:Value) (ps:List (Rcd×Value)) (p:Rcd×Value) (hs:a.eval s=v) (hown:OwnR w base v ps) (hp:OwnB w base p.2 p.1.bytes) (ag:p.1.wf) (g:Nat) (hx:a.eval x = .slice (some ⟨g,0,none⟩) 1 1)
  (hc:w.cell? ⟨g,0,none⟩=some (.int .i64 p.1.num)∧w.cell? ⟨g,1,none⟩=some (.int .i64 p.1.how)∧w.cell? ⟨g,2,none⟩=some (.int .u64 (p.1.bits:Int))∧w.cell? ⟨g,3,none⟩=some p.2)
  (hlen:ps.length+1≤1000000) (hb:base≤w.heap.size)
  (h:∀ v' w',OwnR w' base v' (ps++[p])→Below base w w'→wpList Tryz.prog ops Q rest (a.put o.dst v') w'):wpList Tryz.prog ops Q (o::rest) a w:=by
 obtain⟨i0,hi,hz0,hz1,hz2⟩:=info_parts D3z;obtain⟨c0,c1,c2,c3⟩:=hc;obtain⟨ao,len,cap,ac,_⟩:=hp.rd;refine wpList_append_own w hgd s x 27 ho base 78 i0 _ 4 48 Tryz.underlying27 hi hz0 hz1 hz2 rfl (by decide) v ps.length _ hs hown.1 ⟨g,0,none⟩ 1 1
  (mK p) hx rfl ?_ ?_ (by unfold maxLen;omega) (by omega) hb ?_
 ·intro j u hj;rw[E1b]
  match j,hj with
  | 0,hj=>simp[mK] at hj;subst hj;exact c0
  | 1,hj=>simp[mK] at hj;subst hj;exact c1
  | 2,hj=>simp[mK] at hj;subst hj;exact c2
  | 3,hj=>simp[mK] at hj;subst hj;exact c3
  | j+4,hj=>simp[mK] at hj
 ·intro u hu;simp only[mK,yY,rI,or_false] at hu;rcases hu with rfl|rfl|rfl|rfl
  ·rfl
  ·rfl
  ·rfl
  ·rw[ac];rfl
 ·intro v' w' h1 h2 _;refine h v' w' ⟨?_,?_⟩ ((zH base w).grown h2 hb (fun k hk=>(World.ownsRow.lt hown.1 k hk).1))
  ·rw[yQ,TL];exact h1
  ·intro q hq;rw[zU,zS] at hq;rcases hq with hq|rfl
   ·exact⟨World.ownsRow.kept (hown.2 q hq).1 h2 ((hown.2 q hq).1.ne_row hown.1),(hown.2 q hq).2⟩
   ·exact⟨World.ownsRow.kept hp h2 (hp.ne_row hown.1),ag⟩
end Go.Proofs.YthcomdofaaeihaaGreatDoor
namespace Go.Proofs.YthcomdofaaeihaaGreatDoor
open Go.RowKit
variable{v:Value}{f E at_ n:Nat}{l:List UInt8}{w:World}
def rM:Nat→Nat→List Rcd→List UInt8→List Rcd×Nat×Nat
 | 0,_,acc,_=>(acc,0,0)
 | f+1,at_,acc,l=>
  if l.length=0 then(acc,0,0)
  else if (uC l).2.2≠0 then([],(uC l).2.2,at_)
  else rM f (at_+(uC l).2.1) (acc++[(uC l).1]) (l.drop (uC l).2.1)
def uL (l:List UInt8):List Rcd×Nat×Nat:=if 4000<l.length then([],4,0) else rM l.length 0 [] l
theorem iH{P:Prop}(h:P:=by
 obtain⟨rfl,rfl,rfl⟩:=xJ h;refine⟨by omega,by omega,fun h=>by omega,?_⟩;simp[Rcd.wf]):P:=h
theorem UE {r:Rcd}(h:uC l=(r,n,E)):E≤3∧n≤l.length∧(E=0→1≤n∧r.bytes.length≤n∧1≤r.num∧r.num<536870912∧vV r.how=true∧0≤r.how∧r.how<8)∧r.wf:=by
 obtain⟨A,B,C,D,hT⟩:∃ A B C D,tJ l=(A,B,C,D):=⟨_,_,_,_,rfl⟩
 obtain⟨t1,t2,t3,t4,t5,t6⟩:=ZN hT;rw[uC,hT] at h;dsimp only at h;split at h
 ·exact iH
 rename_i h0;obtain⟨c1,c2,c3⟩:=t6 (by omega);unfold qG at h;split at h
 ·obtain⟨S,T,U,hs⟩:∃ S T U,rW (l.drop C)=(S,T,U):=⟨_,_,_,rfl⟩
  obtain⟨s1,s2,s3,s4,s5⟩:=YJ hs;rw[hs] at h;dsimp only at h;rw[vE] at s1 s2;split at h
  ·exact iH
  obtain⟨rfl,rfl,rfl⟩:=xJ h;refine⟨by omega,by omega,fun _=>⟨by omega,by dsimp only;omega,by dsimp only;omega,by dsimp only;omega,c3,by dsimp only;omega,by dsimp only;omega⟩,?_⟩;simp[Rcd.wf];omega
 obtain⟨S,T,U,hs⟩:∃ S T U,vD (l.drop C) (B:Int)=(S,T,U):=⟨_,_,_,rfl⟩
 obtain⟨s1,s2,s3,s4⟩:=cC hs;rw[hs] at h;dsimp only at h;rw[vE] at s2;split at h
 ·exact iH
 obtain⟨rfl,rfl,rfl⟩:=xJ h;refine⟨by omega,by omega,fun _=>⟨by omega,by simp,by dsimp only;omega,by dsimp only;omega,c3,by dsimp only;omega,by dsimp only;omega⟩,?_⟩;simp[Rcd.wf];omega
theorem cW {acc:List Rcd}(h:l.length=0):rM f at_ acc l=(acc,0,0):=by
 cases f with
 | zero=>rfl
 | succ f=>rw[rM,zF h]
theorem YZ {acc:List Rcd}{r:Rcd}(h:l.length≠0)(hr:uC l=(r,n,E))(hE:E≠0):rM (f+1) at_ acc l=([],E,at_):=by
 rw[rM,zC h,hr,zF hE]
theorem cU {acc:List Rcd}{r:Rcd}(h:l.length≠0)(hr:uC l=(r,n,0)):rM (f+1) at_ acc l=rM f (at_+n) (acc++[r]) (l.drop n):=by
 rw[rM,zC h,hr,zC (by simp)]
theorem D6p {w':World}{B g t:Nat}{a b:Value}(h:w.heap[g]?=some (.cells #[a,b] t (0,0)))(hb:Below B w w')(hg:g<B) :
  w'.cell? ⟨g,0,none⟩=some a∧w'.cell? ⟨g,1,none⟩=some b∧w'.frozen? ⟨g,0,none⟩=false∧w'.frozen? ⟨g,1,none⟩=false:=by
 have h':w'.heap[g]?=some (.cells #[a,b] t (0,0)):=by rw[hb.block g hg];exact h
 simp[World.cell?,World.frozen?,h']
theorem OwnR.alloc {base:Nat}{ps:List (Rcd×Value)}(h:OwnR w base v ps)(o:Obj):OwnR (w.alloc o) base v ps:=
 h.keptB ((zH _ _).alloc (zG _) _)
theorem OwnR.mono {base base':Nat}{ps:List (Rcd×Value)}(h:OwnR w base v ps)(hb:base'≤base):OwnR w base' v ps:=by
 refine⟨⟨h.1.1,?_⟩,fun p hp=>⟨(h.2 p hp).1.mono hb,(h.2 p hp).2⟩⟩;rcases h.1.2 with hn|⟨g,cap,cur,hv,hbg,r⟩
 ·exact .inl hn
 exact .inr ⟨g,cap,cur,hv,yN hb hbg,r⟩
theorem OwnR.set_below {base:Nat}{ps:List (Rcd×Value)}(h:OwnR w base v ps){a:Addr}(ha:a.block<base)(u:Value):OwnR (w.setCell a u) base v ps:=
 ⟨jK h.1 ha u,fun p hp=>⟨jK (h.2 p hp).1 ha u,(h.2 p hp).2⟩⟩
theorem D4y {ao:Option Addr}{len cap:Nat}(hr:RdA w ao len cap l){rs:List Rcd}{A:Nat}(h:uL l=(rs,E,A)) :
  Calls Tryz.prog 43 #[.slice ao len cap] w fun e w'=>∃ v' ps,e = .returned (.tuple #[v',.agg #[.int .i64 (E:Int),.int .i64 (A:Int)]])∧OwnR w' w.heap.size v' ps∧ps.map Prod.fst=rs∧zB w w':=by
 have HL:=zI hr.1;have hlc:=hr.2.1;have hcm:cap≤9223372036854775807:=by have:=hr.2.2.1;unfold maxLen at this;omega
 rw[uL,HL.out] at h;have hb0:zB w (w.alloc (.cells #[.int .i64 0,.int .i64 0] 54)):=(zH _ _).alloc (zG _) _;by_cases hm:4000<len
 ·rw[zF hm] at h;obtain⟨rfl,rfl,rfl⟩:=xJ h;clear h;go_enter Tryz.func43,Tryz.ntmps43;go_wp2;refine bodyPost_ret (v:=.tuple #[.slice none 0 0,.agg #[.int .i64 4,.int .i64 0]]) (by simp[results,Tryz.results43,go_sem]) rfl ⟨_,[],rfl,OwnR.nil _ _,rfl,?_⟩;exact(zH _ _).alloc (zG _) _
 rw[zC hm] at h;have HP:Hid (rM len 0 [] (l.drop 0)=(rs,E,A)):=by show _=_;rw[oC];exact h
 clear h;have cg:decide ((4000:Int)<(len:Int))=false:=by simp;omega
 go_enter Tryz.func43,Tryz.ntmps43;go_wp2;go_loopw [4,5] (fun v i wr=>∃ (f k:Nat) (ps:List (Rcd×Value)),i = .int .i64 (k:Int)∧k≤len∧len≤f+k∧ps.length≤k∧OwnR wr (w.heap.size+1) v ps∧Below (w.heap.size+1) (w.alloc (.cells #[.int .i64 0,.int .i64 0] 54)) wr∧Hid (rM f k (ps.map Prod.fst) (l.drop k)=(rs,E,A)))
  (fun _ i _=>len-(intOf i).toNat)
 case atStart=>exact⟨len,0,[],rfl,qA _,by omega,by simp,OwnR.nil _ _,zH _ _,HP⟩
 obtain⟨f,k,ps,rfl,hk,hf,hpl,hown,au,HR⟩:=hrel;have bg:=hb0.trans (au.mono (by omega));have hsz:w.heap.size+1≤wr.heap.size:=by have:=au.size;simpa using this
 by_cases hlt:k<len
 ·obtain⟨bu,cj,bn⟩:=cR hr hk .i64;obtain⟨r,n,F,Hr⟩:∃ r n F,Hid (uC (l.drop k)=(r,n,F)):=⟨_,_,_,rfl⟩
  obtain⟨r1,r2,r3,r4⟩:=UE Hr.out;rw[vE,HL.out] at r2;have hne:(l.drop k).length≠0:=by rw[vE,HL.out];omega
  have ba:=zI hne;obtain⟨f',rfl⟩:∃ f',f=f'+1:=⟨f-1,by omega⟩
  have aw:=bn.later bg;clear hne;go_wp2_with fail
  refine(B7n aw (by omega) Hr.out).mono ?_;rintro e w1 ⟨sv,rfl,ag,hbl⟩;obtain⟨bc,ak,ah,hv3,hr3⟩:=ag.rd;have HV:=zI hv3;rw[hv3];rw[hv3] at ag;clear hv3;have ac:=au.trans (hbl.mono hsz);obtain⟨g0,g1,g2,g3⟩:=D6p (g:=w.heap.size) (t:=54) (a:=.int .i64 0) (b:=.int .i64 0) (by exact yM w _) ac (by omega);have hs1:w.heap.size+1≤w1.heap.size:=by have:=hbl.size;omega
  have av:w.heap.size<w1.heap.size:=by omega
  by_cases h0:F=0
  ·have bk:((F:Int) != 0)=false:=by simp[h0]
   have bh:Hid (rM f' (k+n) (ps.map Prod.fst++[r]) ((l.drop k).drop n)=(rs,E,A)):=by
    show _=_;rw[←HR.out,cU ba.out (by rw[Hr.out,h0])]
   obtain⟨n1,_,_,_,_,_,_⟩:=r3 h0;clear h0 HR r3;have aj:=ag.mono hsz;have hown1:=hown.keptB hbl;go_wp2_with (at_builtin;refine C1l rfl _ _ rfl (w.heap.size+1) _ ps (r,.slice bc ak ah) rfl ((hown1.alloc _).alloc _) ((aj.alloc _).alloc _) r4 (w1.heap.size+1) rfl ?c1 ?c2 ?c3 ?_)
   case c2=>omega
   case c3=>simp;omega
   intro v2 w2 bl hb2;go_wp2;go_roundw
   case rel=>
    refine⟨f',k+n,ps++[(r,.slice bc ak ah)],by go_num,by omega,by omega,by simp;omega,bl,((ac.alloc hs1 _).alloc (by simp;omega) _).trans hb2,?_⟩;show _=_;rw[←bh.out,nW,wM];rfl
   case measure=>simp[intOf];omega
  have bk:((F:Int) != 0)=true:=by rw[qK];omega
  obtain⟨rfl,rfl,rfl⟩:=xJ (show([],F,k)=(rs,E,A) by rw[←HR.out,YZ ba.out Hr.out h0]);clear h0 HR r3;go_wp2;refine bodyPost_ret (v:=.tuple #[.slice none 0 0,.agg #[.int .i64 (F:Int),.int .i64 (k:Int)]]) (by simp[results,Tryz.results43,go_sem,g0,g1,av]) rfl ⟨_,[],rfl,OwnR.nil _ _,rfl,?_⟩;exact(((hb0.trans (ac.mono (by omega))).setCell (zG _) _).setCell (zG _) _).alloc (by simp;omega) _
 obtain⟨g0,g1,g2,g3⟩:=D6p (g:=w.heap.size) (t:=54) (a:=.int .i64 0) (b:=.int .i64 0) (by exact yM w _) au (by omega);obtain⟨e1,rfl,rfl⟩:=xJ (show(ps.map Prod.fst,0,0)=(rs,E,A) by rw[←HR.out,cW (by rw[vE,HL.out];omega)]);have E1:=zI e1;clear HR e1;go_wp2;refine bodyPost_ret (v:=.tuple #[u4,.agg #[.int .i64 0,.int .i64 0]]) (by simp[results,Tryz.results43,go_sem,g0,g1]) rfl ⟨u4,ps,rfl,?_,E1.out,?_⟩
 ·exact((hown.set_below (by simp) _).set_below (by simp) _).mono (by omega)
 exact(bg.setCell (zG _) _).setCell (zG _) _
end Go.Proofs.YthcomdofaaeihaaGreatDoor
namespace Go.Proofs.YthcomdofaaeihaaGreatDoor
open Go.RowKit
theorem D3v:∀ (f i acc m:Nat) (more:List UInt8),f+i=10→1≤f→m<2 ^ (7*f)→m*2 ^ (7*i)≤18446744073709551615→
  yZ i acc (sR f m++more)=(acc+m*2 ^ (7*i),i+(sR f m).length,0):=by
 intro f
 induction f with
 | zero=>intro i acc m more _ h;omega
 | succ f ih=>
 intro i acc m more ag _ hm hb;have h9:i=9→m≤1:=by
  intro e;subst e;rw[show 2 ^ (7*9)=9223372036854775808 from rfl] at hb;omega
 by_cases hs:m<128
 ·rw[dU hs];have e:(UInt8.ofNat m).toNat=m:=by rw[UInt8.toNat_ofNat'];omega
  rw[lT,yZ,e,zC (by rintro⟨a,b⟩;have:=h9 a;omega),zF hs,eJ hs];rfl
 rw[ZP hs];have e:(UInt8.ofNat (m%128+128)).toNat=m%128+128:=by rw[UInt8.toNat_ofNat'];omega
 have hi:i≠9:=fun a=>by have:=h9 a;omega
 have hp:2 ^ (7*(i+1))=128*2 ^ (7*i):=by rw[show 7*(i+1)=7+7*i by omega,jO]
 have hf2:=D6w hm hs;have ac:m%128*2 ^ (7*i)+m / 128*2 ^ (7*(i+1))=m*2 ^ (7*i):=by
  rw[hp,←Nat.mul_assoc,←kC]
  congr 1
  omega
 rw[lT,yZ,e,zC (by rintro⟨a,_⟩;exact hi a),zC (by omega),
  ih (i+1) _ (m / 128) more (by omega) (by omega) (C2t hm) (by omega)]
 rw[show(m%128+128)%128=m%128 by omega,sQ];refine Prod.ext ?_ (Prod.ext ?_ rfl)
 ·show acc+m%128*2 ^ (7*i)+m / 128*2 ^ (7*(i+1))=_;omega
 show i+1+(sR f (m / 128)).length=i+((sR f (m / 128)).length+1);omega
theorem TK (n:Nat)(more:List UInt8)(hn:n≤18446744073709551615):yZ 0 0 (uF n++more)=(n,(uF n).length,0):=by
 have:=D3v 10 0 0 n more rfl (by omega) (by omega) (by simpa using hn);rw[uF,this];simp
theorem UH (n:Nat):1≤(uF n).length:=by
 rw[uF,sR];split <;> simp
end Go.Proofs.YthcomdofaaeihaaGreatDoor
namespace Go.Proofs.YthcomdofaaeihaaGreatDoor
variable{B a A:Nat}{l:List UInt8}
theorem D3w (k n:Nat):uJ (qD k n)=n%2 ^ (8*k):=by
 induction k generalizing n with
 | zero=>simp[qD,uJ,Nat.mod_one]
 | succ k ih=>
 rw[qD,uJ,ih,UInt8.toNat_ofNat',show 8*(k+1)=8+8*k by omega,jO,Nat.mod_mul]
theorem D6b {num how:Nat}{rest:List UInt8}(h1:1≤num)(h2:num<536870912)(h3:how=0∨how=1∨how=2∨how=5):tJ (uF (num*8+how)++rest)=(num,how,(uF (num*8+how)).length,0):=by
 rw[tJ,TK _ _ (by omega)];dsimp only;unfold qE;rw[zC (by simp),zC (by omega),zC (by rw[show(num*8+how)%8=how by omega];exact mQ (by omega))];rw[show(num*8+how) / 8=num by omega,show(num*8+how)%8=how by omega]
theorem C6d {r:Rcd}(hw:0=yW r.num r.how r.bits r.bytes.length)(hb:r.bits≤18446744073709551615)(m:List UInt8) :
  uC (rJ r.num r.how r.bits r.bytes++m)=(r,(rJ r.num r.how r.bits r.bytes).length,0):=by
 obtain⟨num,how,bits,bytes⟩:=r;dsimp only at hw hb ⊢;obtain⟨q1,q2,q3,q4,q5,q6,q7⟩:=D6j hw;obtain⟨N,rfl⟩:=jP (show 0≤num by omega);obtain⟨H,rfl⟩:=jP (show 0≤how by omega);unfold rJ;rw[qU,qU,vY,uC,D6b (by omega) (by omega) (by omega)];dsimp only;rw[zC (by simp),List.drop_left];by_cases h2:H=2
 ·have ht:mI (H:Int) bits bytes=uF bytes.length++bytes:=by unfold mI;rw[zF (by omega)]
  rw[ht,qG,zF h2];have hs:rW ((uF bytes.length++bytes)++m)=(bytes,(uF bytes.length).length+bytes.length,0):=by
   rw[rW,vY,TK _ _ (by omega)];dsimp only;unfold lI;rw[zC (by simp),zC (by simp),List.drop_left,List.take_left]
  rw[hs];dsimp only;rw[zC (by simp),q6 (by omega)];simp
 have ht:mI (H:Int) bits bytes=if (H:Int)=0 then uF bits else qD (tG (H:Int)) bits:=by unfold mI;rw[zC (by omega)]
 rw[ht,qG,zC h2];have hby:=uE (q7 (by omega));subst hby;have hs:vD ((if (H:Int)=0 then uF bits else qD (tG (H:Int)) bits)++m) (H:Int)=(bits,(if (H:Int)=0 then uF bits else qD (tG (H:Int)) bits).length,0):=by
  unfold vD;by_cases h0:(H:Int)=0
  ·rw[zF h0,zF h0,TK _ _ hb]
  rw[zC h0,zC h0,yQ,UJ,zC (by omega)];have e:(qD (tG (H:Int)) bits++m).take (tG (H:Int))=qD (tG (H:Int)) bits:=List.take_left' (UJ _ _);rw[e,D3w];have hm:bits%2 ^ (8*tG (H:Int))=bits:=by
   apply eJ;have hH:(H:Int)=1∨(H:Int)=5:=by omega
   rcases hH with e|e
   ·rw[e];show bits<2 ^ 64;omega
   have:=q5 e;rw[e];show bits<2 ^ 32;omega
  rw[hm]
 rw[hs];dsimp only;rw[zC (by simp),yQ]
theorem D5g (num how:Int)(bits:Nat)(l:List UInt8):1≤(rJ num how bits l).length:=by
 have:=UH (num.toNat*8+how.toNat);unfold rJ;rw[yQ];omega
theorem C0t:∀ (rs:List Rcd) (i:Nat) (acc B:List UInt8) (a:Nat),(∀ r∈rs,r.bits≤18446744073709551615)→acc.length≤4000→pR i acc rs=(B,0,a)→
  ∃ ag,B=acc++ag∧B.length≤4000∧∀ f k ac,ag.length≤f→rM f k ac ag=(ac++rs,0,0):=by
 intro rs
 induction rs with
 | nil=>
  intro i acc B a _ ah h;rw[pR] at h;obtain⟨rfl,_,_⟩:acc=B∧(0:Int)=0∧0=a:=by simpa using h
  refine⟨[],by simp,ah,?_⟩;intro f k ac _;rw[cW rfl,tT]
 | cons r rest ih=>
 intro i acc B a hb ah h;rw[pR] at h;split at h
 ·rename_i h0;have:yW r.num r.how r.bits r.bytes.length=0:=by simpa using congrArg (fun p=>p.2.1) h
  exact absurd this h0
 rename_i h0;have hw:0=yW r.num r.how r.bits r.bytes.length:=by
  rcases Decidable.em (yW r.num r.how r.bits r.bytes.length=0) with e|e
  ·exact e.symm
  exact absurd e h0
 split at h
 ·have:(4:Int)=0:=by simpa using congrArg (fun p=>p.2.1) h
  omega
 rename_i h1;obtain⟨ag,hB,hl,hp⟩:=ih (i+1) _ B a (fun q hq=>hb q (wW _ hq)) (by omega) h;refine⟨rJ r.num r.how r.bits r.bytes++ag,by rw[hB,vY],hl,?_⟩;intro f k ac hf;have aj:=D5g r.num r.how r.bits r.bytes;rw[yQ] at hf;obtain⟨g,rfl⟩:∃ g,f=g+1:=⟨f-1,by omega⟩
 rw[cU (by rw[yQ];omega) (C6d hw (hb r vF) ag),List.drop_left,hp g _ _ (by omega),vY];rfl
theorem B3s {rs:List Rcd}{B:List UInt8}(hb:∀ r∈rs,r.bits≤18446744073709551615)(h:pR 0 [] rs=(B,0,a)):B.length≤4000∧uL B=(rs,0,0):=by
 obtain⟨ac,hB,hl,hp⟩:=C0t rs 0 [] B a hb (by simp) h;rw[tH] at hB;subst hB;refine⟨hl,?_⟩;rw[uL,zC (by omega),hp _ _ _ (zG _)];rfl
theorem C5w:∀ (f m k:Nat),m<2 ^ (7*k)→1≤k→(sR f m).length≤k:=by
 intro f
 induction f with
 | zero=>intro m k _ _;simp[sR]
 | succ f ih=>
 intro m k hm hk;by_cases hs:m<128
 ·rw[dU hs];simpa using hk
 rw[ZP hs,sQ];have hk2:=D6w hm hs;obtain⟨j,rfl⟩:∃ j,k=j+1:=⟨k-1,by omega⟩
 have:=ih (m / 128) j (C2t hm) (by omega);omega
theorem C4u:∀ (l:List UInt8) (i acc N K:Nat),acc<2 ^ (7*i)→yZ i acc l=(N,K,0)→N<2 ^ (7*K)∧1≤K:=by
 intro l
 induction l with
 | nil=>intro i acc N K _ h;rw[yZ] at h;simp at h
 | cons x r ih=>
 intro i acc N K ac h;rw[yZ] at h;split at h
 ·simp at h
 split at h
 ·obtain⟨rfl,rfl,_⟩:=xJ h;exact⟨dM ac,by omega⟩
 exact ih _ _ _ _ (dM ac) h
theorem TW {N K:Nat}(h:yZ 0 0 l=(N,K,0)):(uF N).length≤K:=by
 obtain⟨a,b⟩:=C4u l 0 0 N K (by decide) h;exact C5w 10 N K a b
theorem C6q {C:Nat}(h:tJ l=(A,B,C,0)):(uF (A*8+B)).length≤C:=by
 obtain⟨N,K,E,hg⟩:∃ N K E,yZ 0 0 l=(N,K,E):=⟨_,_,_,rfl⟩
 rw[tJ,hg] at h;dsimp only at h;unfold qE at h;split at h
 ·simp at h;omega
 rename_i h0;split at h
 ·simp at h
 split at h
 ·simp at h
 obtain⟨rfl,rfl,rfl,_⟩:=lM h;have hE:E=0:=by omega
 subst hE;rw[show N / 8*8+N%8=N by omega];exact TW hg
theorem B9b {A:List UInt8}(h:rW l=(A,B,0)):(uF A.length++A).length≤B:=by
 obtain⟨N,K,E,hg⟩:∃ N K E,yZ 0 0 l=(N,K,E):=⟨_,_,_,rfl⟩
 obtain⟨b1,b2,b3,b4,b5⟩:=lN hg;rw[rW,hg] at h;dsimp only at h;unfold lI at h;split at h
 ·simp at h;omega
 rename_i h0;split at h
 ·simp at h
 rename_i h1;obtain⟨rfl,rfl,_⟩:=xJ h;have hE:E=0:=by omega
 subst hE;have e:((l.drop K).take N).length=N:=by rw[vZ,vE];omega
 rw[yQ,e];have:=TW hg;omega
theorem B1u {how:Int}(h:vD l how=(A,B,0)):(if how=0 then uF A else qD (tG how) A).length≤B∧(how=5→A<4294967296):=by
 unfold vD at h;split at h
 ·rename_i h0;rw[zF h0];exact⟨TW h,fun e=>by omega⟩
 rename_i h0;rw[zC h0];split at h
 ·simp at h
 rename_i h1;obtain⟨rfl,rfl,_⟩:=xJ h;refine⟨by rw[UJ];omega,?_⟩;intro e;subst e;have:=dY (l.take (tG 5));rw[show tG 5=4 from rfl] at this h1 ⊢;rw[vZ,eM (by omega)] at this;exact this
theorem C0v {r:Rcd}{n:Nat}(hl:l.length≤4000)(h:uC l=(r,n,0)):0=yW r.num r.how r.bits r.bytes.length∧(rJ r.num r.how r.bits r.bytes).length≤n:=by
 obtain⟨A,B,C,D,hT⟩:∃ A B C D,tJ l=(A,B,C,D):=⟨_,_,_,_,rfl⟩
 obtain⟨t1,t2,t3,t4,t5,t6⟩:=ZN hT;rw[uC,hT] at h;dsimp only at h;split at h
 ·rename_i h0;obtain⟨_,_,e⟩:=xJ h;exact absurd e h0
 rename_i h0;have hD:D=0:=by omega
 subst hD;obtain⟨c1,c2,c3⟩:=t6 rfl;have hk:¬ vV (B:Int)=false:=by rw[c3];simp
 have ac:=C6q hT;unfold qG at h;split at h
 ·rename_i hB;obtain⟨S,T,U,hs⟩:∃ S T U,rW (l.drop C)=(S,T,U):=⟨_,_,_,rfl⟩
  obtain⟨s1,s2,s3,s4,s5⟩:=YJ hs;rw[vE] at s1;rw[hs] at h;dsimp only at h;split at h
  ·rename_i h1;obtain⟨_,_,e⟩:=xJ h;exact absurd e h1
  rename_i h1;have hU:U=0:=by omega
  subst hU;obtain⟨rfl,rfl,_⟩:=xJ h;dsimp only;refine⟨?_,?_⟩
  ·unfold yW;rw[zC hk,zC (by omega),zC (by omega),zC (by omega),zC (by omega),zC (by omega)]
  have ht:mI (B:Int) 0 S=uF S.length++S:=by unfold mI;rw[zF (by omega)]
  have:=B9b hs;rw[rJ,ht,yQ,qU,qU];omega
 rename_i hB;obtain⟨S,T,U,hs⟩:∃ S T U,vD (l.drop C) (B:Int)=(S,T,U):=⟨_,_,_,rfl⟩
 rw[hs] at h;dsimp only at h;split at h
 ·rename_i h1;obtain⟨_,_,e⟩:=xJ h;exact absurd e h1
 rename_i h1;have hU:U=0:=by omega
 subst hU;obtain⟨rfl,rfl,_⟩:=xJ h;dsimp only;obtain⟨u1,u2⟩:=B1u hs;refine⟨?_,?_⟩
 ·unfold yW;rw[zC hk,zC (by omega),zC (by omega),zC (by rintro⟨e,e'⟩;have:=u2 e;omega),zC (by omega),zC (by simp)]
 have ht:mI (B:Int) S []=if (B:Int)=0 then uF S else qD (tG (B:Int)) S:=by unfold mI;rw[zC (by omega)]
 rw[rJ,ht,yQ,qU,qU];omega
theorem B9v:∀ (f k:Nat) (acc:List Rcd) (l:List UInt8) (m:List Rcd) (a:Nat),l.length≤f→l.length≤4000→rM f k acc l=(m,0,a)→
  ∃ rs,m=acc++rs∧(∀ r∈rs,r.wf)∧∀ i ac,ac.length+l.length≤4000→∃ p,pR i ac rs=(ac++p,0,0)∧p.length≤l.length:=by
 intro f
 induction f with
 | zero=>
  intro k acc l m a hf _ h;rw[rM] at h;obtain⟨rfl,_,_⟩:=xJ h;exact⟨[],by simp,fun r hr=>by simp at hr,fun i ac _=>⟨[],by simp[pR],by simp⟩⟩
 | succ f ih=>
 intro k acc l m a hf hl h;by_cases h0:l.length=0
 ·rw[cW h0] at h;obtain⟨rfl,_,_⟩:=xJ h;exact⟨[],by simp,fun r hr=>by simp at hr,fun i ac _=>⟨[],by simp[pR],by simp⟩⟩
 obtain⟨r,n,E,hr⟩:∃ r n E,uC l=(r,n,E):=⟨_,_,_,rfl⟩
 obtain⟨r1,r2,r3,r4⟩:=UE hr;by_cases hE:E=0
 ·subst hE;rw[cU h0 hr] at h;have hn:=(r3 rfl).1;have aj:(l.drop n).length=l.length-n:=vE;obtain⟨rs,hm,ah,hb⟩:=ih (k+n) (acc++[r]) (l.drop n) m a (by omega) (by omega) h;obtain⟨hw,ak⟩:=C0v hl hr;refine⟨r::rs,by rw[hm,vY];rfl,?_,?_⟩
  ·intro q hq;rw[yY] at hq;rcases hq with rfl|hq
   ·exact r4
   exact ah q hq
  intro i ac ag;have hlen:(ac++rJ r.num r.how r.bits r.bytes).length≤ac.length+n:=by rw[yQ];omega
  obtain⟨p,hp,hpl⟩:=hb (i+1) (ac++rJ r.num r.how r.bits r.bytes) (by omega);refine⟨rJ r.num r.how r.bits r.bytes++p,?_,by rw[yQ];omega⟩;rw[pR,←hw,zC (by simp),zC (by omega),hp,vY]
 rw[YZ h0 hr hE] at h;obtain⟨_,e,_⟩:=xJ h;exact absurd e hE
theorem C0s {m:List Rcd}(h:uL l=(m,0,a)) :
  ∃ p,pR 0 [] m=(p,0,0)∧p.length≤l.length∧uL p=(m,0,0)∧p.length≤4000:=by
 unfold uL at h;split at h
 ·obtain⟨_,e,_⟩:=xJ h;simp at e
 rename_i h0;obtain⟨rs,hm,ac,hb⟩:=B9v _ _ _ _ _ _ (zG _) (by omega) h;rw[tH] at hm;subst hm;obtain⟨p,hp,hpl⟩:=hb 0 [] (by simp;omega);rw[tH] at hp;obtain⟨h4,h5⟩:=B3s (fun r hr=>(ac r hr).2.2.2.2) hp;exact⟨p,hp,hpl,h5,h4⟩
end Go.Proofs.YthcomdofaaeihaaGreatDoor
namespace Go.Proofs.YthcomdofaaeihaaGreatDoor
open Go.ChangeShapes Go.WideShapes Go.ChangeAt Go.RowKit
theorem C6b {w:World}{x:Addr}{len cap:Nat}{zs:List Int}(hl:len≤cap)(hm:cap≤maxLen)(hz:len≤zs.length)
  (hcell:∀ i,i<zs.length→w.cell? (x.add i)=some (.int .u8 (zs.getD i 0))) (ag:∀ n∈zs,(Lit.int .u8 n).wf=true) :
  RdA w (some x) len cap ((zs.take len).map fun n=>UInt8.ofNat n.toNat):=by
 refine⟨by simp;omega,hl,hm,by simp,?_⟩;intro y hy i hi;cases hy
 rw[hcell i (by omega)];have ac:i<zs.length:=by omega
 have hb:=bounds_u8 (ag zs[i] (List.getElem_mem ac));simp[hi,ac];omega
section
variable {H:Type}{enc:TypeId×Value→H}{w:World}{base:Nat}{spare:Nat→Bool}{held:Bool}
theorem C5k {fuel:Nat}{cs:List Value}{x:DataW H×List MemPlace}(h:DataW.trod enc Tryz.prog w base spare held fuel 30 cs=some x) :
  ∃ ao len cap l,cs = [.slice ao len cap]∧RdA w ao len cap l:=by
 rcases open_ints Tryz.underlying30 Tryz.underlying5 (by kernel_rfl) h with⟨hcs,_⟩|⟨a,len,cap,zs,hcs,_,hl,hm,hz,_,hcell,hwz⟩
 ·exact⟨none,0,0,[],hcs,RdA.nil _⟩
 exact⟨some a,len,cap,_,hcs,C6b hl hm (by split at hz <;> omega) hcell hwz⟩
end
end Go.Proofs.YthcomdofaaeihaaGreatDoor
