import Derived.Test.YtgaoojpakjjdnaaGreatDoorU00
set_option maxHeartbeats 32000000
set_option maxRecDepth 100000
namespace Go.Proofs.YtgaoojpakjjdnaaGreatDoor
namespace L
open Go.RowKit
structure FI where
 name:List UInt8
 number:Int
 kind:Int
 type:List UInt8
 many:Bool
 choice:Int
deriving DecidableEq
structure MI where
 name:List UInt8
 fields:List FI
 barred:List Int
deriving DecidableEq
structure II where
 name:List UInt8
 value:Int
deriving DecidableEq
structure EI where
 name:List UInt8
 items:List II
deriving DecidableEq
structure GI where
 msgs:List MI
 enums:List EI
deriving DecidableEq
def RdL {α:Type}(sz:Nat) (P:World→Addr→α→Prop) (w:World) (v:Value) (l:List α):Prop:=
 ∃ ao n cap,v = .slice ao n cap∧l.length=n∧n≤cap∧cap≤maxLen∧(ao=none→n=0∧cap=0)∧∀ x,ao=some x→∀ k a,l[k]?=some a→P w (x.add (k*sz)) a
def A3x {α:Type}(P:World→Addr→α→Prop):Prop:=∀ (w w':World) (x:Addr) (a : α),Below w.heap.size w w'→P w x a→P w' x a
theorem A0c {w w':World}{x:Addr}{v:Value}(hb:Below w.heap.size w w') (h:w.cell? x=some v):w'.cell? x=some v:=by
 rw[hb.cell (World.block_lt_of_cell? w x h)];exact h
theorem RdL.below {α:Type}{sz:Nat}{P:World→Addr→α→Prop}(hP:A3x P){w w':World}{v:Value}{l:List α}(h:RdL sz P w v l) (hb:Below w.heap.size w w'):RdL sz P w' v l:=by
 obtain⟨ao,n,cap,rfl,h1,h2,h3,h4,h5⟩:=h
 exact⟨ao,n,cap,rfl,h1,h2,h3,h4,fun x hx k a ha=>hP w w' _ a hb (h5 x hx k a ha)⟩
theorem RdL.nil {α:Type}(sz:Nat) (P:World→Addr→α→Prop) (w:World):RdL sz P w (.slice none 0 0) []:=⟨none,0,0,rfl,rfl,Nat.le_refl _,by unfold maxLen;omega,fun _=>⟨rfl,rfl⟩,fun x hx=>by cases hx⟩
def SAt (w:World) (x:Addr) (s:List UInt8):Prop:=w.cell? x=some (.string (S s))
def NAt (w:World) (x:Addr) (n:Int):Prop:=w.cell? x=some (.int .i64 n)
def FAt (w:World) (x:Addr) (f:FI):Prop:=w.cell? x=some (.string (S f.name))∧w.cell? (x.add 1)=some (.int .i64 f.number)∧w.cell? (x.add 2)=some (.int .i64 f.kind)∧w.cell? (x.add 3)=some (.string (S f.type))∧w.cell? (x.add 4)=some (.bool f.many)∧w.cell? (x.add 5)=some (.int .i64 f.choice)
def TAt (w:World) (x:Addr) (i:II):Prop:=w.cell? x=some (.string (S i.name))∧w.cell? (x.add 1)=some (.int .i64 i.value)
theorem SAt.stays:A3x SAt:=fun _ _ _ _ hb h=>A0c hb h
theorem NAt.stays:A3x NAt:=fun _ _ _ _ hb h=>A0c hb h
theorem FAt.stays:A3x FAt:=fun _ _ _ _ hb h=>⟨A0c hb h.1,A0c hb h.2.1,A0c hb h.2.2.1,A0c hb h.2.2.2.1,A0c hb h.2.2.2.2.1,A0c hb h.2.2.2.2.2⟩
theorem TAt.stays:A3x TAt:=fun _ _ _ _ hb h=>⟨A0c hb h.1,A0c hb h.2⟩
def MAt (w:World) (x:Addr) (m:MI):Prop:=∃ vf vb,w.cell? x=some (.string (S m.name))∧w.cell? (x.add 1)=some vf∧w.cell? (x.add 2)=some vb∧RdL 6 FAt w vf m.fields∧RdL 1 NAt w vb m.barred
def EAt (w:World) (x:Addr) (e:EI):Prop:=∃ vi,w.cell? x=some (.string (S e.name))∧w.cell? (x.add 1)=some vi∧RdL 2 TAt w vi e.items
theorem MAt.stays:A3x MAt:=fun _ _ _ _ hb ⟨vf,vb,h1,h2,h3,h4,h5⟩=>⟨vf,vb,A0c hb h1,A0c hb h2,A0c hb h3,h4.below FAt.stays hb,h5.below NAt.stays hb⟩
theorem EAt.stays:A3x EAt:=fun _ _ _ _ hb ⟨vi,h1,h2,h3⟩=>⟨vi,A0c hb h1,A0c hb h2,h3.below TAt.stays hb⟩
def GRd (w:World) (vm ve:Value) (g:GI):Prop:=RdL 3 MAt w vm g.msgs∧RdL 2 EAt w ve g.enums
theorem GRd.below {w w':World}{vm ve:Value}{g:GI}(h:GRd w vm ve g) (hb:Below w.heap.size w w'):GRd w' vm ve g:=⟨h.1.below MAt.stays hb,h.2.below EAt.stays hb⟩
def D1p (l:List UInt8):List Value:=[.string (S l)]
def ekS:EK (List UInt8) where
 elem:=9
 slice:=93
 size:=1
 bytes:=16
 zero:=.string ⟨#[]⟩
 enc:=D1p
 under:=Tryz.underlying93
 info:=by kernel_rfl
 zs:=rfl
 pos:=by decide
 small:=by decide
 len:=fun _=>rfl
 one:=by intro a u hu;simp only[D1p,List.mem_singleton] at hu;subst hu;rfl
def C9j (n:Int):List Value:=[.int .i64 n]
def ekN:EK Int where
 elem:=3
 slice:=30
 size:=1
 bytes:=8
 zero:=.int .i64 0
 enc:=C9j
 under:=Tryz.underlying30
 info:=by kernel_rfl
 zs:=rfl
 pos:=by decide
 small:=by decide
 len:=fun _=>rfl
 one:=by intro a u hu;simp only[C9j,List.mem_singleton] at hu;subst hu;rfl
theorem Row.rd {α:Type}{E:EK α}{w:World}{base:Nat}{v:Value}{l:List α}(h:Row E w base v l) (P:World→Addr→α→Prop) (hP:∀ g i a,(∀ j u,(E.enc a)[j]?=some u→w.cell? ⟨g,i+j,none⟩=some u)→P w ⟨g,i,none⟩ a):RdL E.size P w v l:=by
 obtain⟨ao,cap,rfl⟩:=h.shape
 refine⟨ao,l.length,cap,rfl,rfl,?_,?_,?_,?_⟩
 ·rcases h.2 with⟨hv,hn⟩|⟨g,cap',cur,hv,_,_,hc,_⟩
  ·simp at hv;omega
  ·simp at hv;omega
 ·rcases h.2 with⟨hv,hn⟩|⟨g,cap',cur,hv,_,_,_,hm,_⟩
  ·simp at hv;unfold maxLen;omega
  ·simp at hv;rw[hv.2];exact hm
 ·intro e
  subst e
  rcases h.2 with⟨hv,hn⟩|⟨g,cap',cur,hv,_⟩
  ·simp at hv;exact⟨hn,hv.2⟩
  ·simp at hv
 ·intro x hx k a ha
  obtain⟨g,hg,hc⟩:=h.get ha
  rw[hx] at hg
  cases hg
  rw[A0d,Nat.zero_add]
  exact hP g _ a hc
theorem Row.rdS {w:World}{base:Nat}{v:Value}{l:List (List UInt8)}(h:Row ekS w base v l):RdL 1 SAt w v l:=h.rd SAt fun g i a hc=>by have:=hc 0 _ rfl;simpa [SAt] using this
theorem Row.rdN {w:World}{base:Nat}{v:Value}{l:List Int}(h:Row ekN w base v l):RdL 1 NAt w v l:=h.rd NAt fun g i a hc=>by have:=hc 0 _ rfl;simpa [NAt] using this
def A6s {α:Type}(P:World→Addr→α→Prop):Prop:=∀ (w:World) (b off:Nat) (spot:_) (a : α),P w ⟨b,off,spot⟩ a→spot=none
theorem RdL.get {α:Type}{sz:Nat}{P:World→Addr→α→Prop}(hP:A6s P){w:World}{ao:Option Addr}{n cap:Nat}{l:List α}(h:RdL sz P w (.slice ao n cap) l){k:Nat}{a : α}(ha:l[k]?=some a) :
  ∃ b off,ao=some ⟨b,off,none⟩∧P w ⟨b,off+k*sz,none⟩ a:=by
 obtain⟨ag,n',cap',e,h1,h2,h3,h4,h5⟩:=h
 cases e
 cases ao with
 | none=>
  have h0:=(h4 rfl).1
  rw[List.eq_nil_of_length_eq_zero (h1.trans h0)] at ha
  simp at ha
 | some x=>
  obtain⟨b,off,spot⟩:=x
  have hl:0 < l.length:=Nat.lt_of_le_of_lt (Nat.zero_le k) (List.getElem?_eq_some_iff.1 ha).1
  have ac:=h5 _ rfl 0 _ (List.getElem?_eq_getElem hl)
  have e0:(⟨b,off,spot⟩:Addr).add (0*sz)=⟨b,off,spot⟩:=by simp[Addr.add]
  rw[e0] at ac
  have hs:=hP _ _ _ _ _ ac
  subst hs
  have hp:=h5 _ rfl k a ha
  rw[A0d] at hp
  exact⟨b,off,rfl,hp⟩
theorem RdL.len {α:Type}{sz:Nat}{P:World→Addr→α→Prop}{w:World}{ao:Option Addr}{n cap:Nat}{l:List α}(h:RdL sz P w (.slice ao n cap) l):n=l.length∧n≤cap∧cap≤maxLen:=by
 obtain⟨ac,n',cap',e,h1,h2,h3,_⟩:=h
 cases e
 exact⟨h1.symm,h2,h3⟩
theorem RdL.shape {α:Type}{sz:Nat}{P:World→Addr→α→Prop}{w:World}{v:Value}{l:List α}(h:RdL sz P w v l):∃ ao n cap,v = .slice ao n cap∧Hid (n=l.length)∧n≤9223372036854775807:=by
 obtain⟨ao,n,cap,e,h1,h2,h3,_⟩:=h
 exact⟨ao,n,cap,e,h1.symm,by unfold maxLen at h3;omega⟩
theorem A1l {w:World}{b off:Nat}{spot:_}{v:Value}(h:w.cell? ⟨b,off,spot⟩=some v):spot=none:=World.cell?_spot h
theorem SAt.plain:A6s SAt:=fun _ _ _ _ _ h=>A1l h
theorem NAt.plain:A6s NAt:=fun _ _ _ _ _ h=>A1l h
theorem FAt.plain:A6s FAt:=fun _ _ _ _ _ h=>A1l h.1
theorem TAt.plain:A6s TAt:=fun _ _ _ _ _ h=>A1l h.1
theorem MAt.plain:A6s MAt:=fun _ _ _ _ _ ⟨_,_,h,_⟩=>A1l h
theorem EAt.plain:A6s EAt:=fun _ _ _ _ _ ⟨_,h,_⟩=>A1l h
theorem FAt.at {w:World}{b o:Nat}{f:FI}(h:FAt w ⟨b,o,none⟩ f):w.cell? ⟨b,o,none⟩=some (.string (S f.name))∧w.cell? ⟨b,o+1,none⟩=some (.int .i64 f.number)∧w.cell? ⟨b,o+2,none⟩=some (.int .i64 f.kind)∧w.cell? ⟨b,o+3,none⟩=some (.string (S f.type))∧w.cell? ⟨b,o+4,none⟩=some (.bool f.many)∧w.cell? ⟨b,o+5,none⟩=some (.int .i64 f.choice):=by
 simp only[FAt,A0d] at h;exact h
theorem TAt.at {w:World}{b o:Nat}{f:II}(h:TAt w ⟨b,o,none⟩ f):w.cell? ⟨b,o,none⟩=some (.string (S f.name))∧w.cell? ⟨b,o+1,none⟩=some (.int .i64 f.value):=by
 simp only[TAt,A0d] at h;exact h
theorem MAt.at {w:World}{b o:Nat}{m:MI}(h:MAt w ⟨b,o,none⟩ m):∃ vf vb,w.cell? ⟨b,o,none⟩=some (.string (S m.name))∧w.cell? ⟨b,o+1,none⟩=some vf∧w.cell? ⟨b,o+2,none⟩=some vb∧RdL 6 FAt w vf m.fields∧RdL 1 NAt w vb m.barred:=by
 simp only[MAt,A0d] at h;exact h
theorem EAt.at {w:World}{b o:Nat}{m:EI}(h:EAt w ⟨b,o,none⟩ m):∃ vi,w.cell? ⟨b,o,none⟩=some (.string (S m.name))∧w.cell? ⟨b,o+1,none⟩=some vi∧RdL 2 TAt w vi m.items:=by
 simp only[EAt,A0d] at h;exact h
theorem A0w {α:Type}{l:List α}{k:Nat}{a : α}(h:l[k]?=some a):l.take (k+1)=l.take k++[a]:=by rw[List.take_add_one,h];rfl
theorem A2v {α:Type}{l:List α}{k:Nat}{a : α}(h:l[k]?=some a):a∈l:=List.mem_of_getElem? h
theorem B8q {v:Value}{l:List (List UInt8)}{w:World}(h:RdL 1 SAt w v l) (x:List UInt8) :
  Calls Tryz.prog 211 #[v,.string (S x)] w fun e w'=>∃ r:Int,e = .returned (.int .i64 r)∧decide (0≤r)=decide (x∈l)∧w=w':=by
 obtain⟨ao,n,cap,rfl,Hn,ac⟩:=h.shape
 have hl:=A1x x
 go_enter Tryz.func211,Tryz.ntmps211
 go_wp2_with fail
 go_loopg [8] n (fun m i wr=>∃ k:Nat,k+m=n∧i = .int .i64 k∧Hid (x∉l.take k)∧w=wr)
 case atStart=>exact⟨0,by omega,rfl,by show ¬ _;simp,rfl⟩
 case round=>
  obtain⟨k,hk,rfl,HK,rfl⟩:=hrel
  by_cases hlt:k < n
  ·obtain⟨a,Ha⟩:∃ a,Hid (l[k]?=some a):=⟨l[k]'(by rw[←Hn.out];exact hlt),List.getElem?_eq_getElem (by rw[←Hn.out];exact hlt)⟩
   obtain⟨b,off,rfl,hc⟩:=h.get SAt.plain Ha.out
   have hc:w.cell? ⟨b,off+k*1,none⟩=some (.string (S a)):=hc
   rw[Nat.mul_one] at hc
   have ah:=A1x a
   have ag:(k:Int) < (n:Int):=by omega
   by_cases hxa:x=a
   ·have HM:Hid (x∈l):=by show _∈_;rw[hxa];exact A2v Ha.out
    have hb:(x == a)=true:=by simp[hxa]
    clear hxa
    go_wp2
    go_ret
    exact⟨_,rfl,by simp[HM.out],rfl⟩
   ·have hb:(x == a)=false:=by simp[hxa]
    have HX:Hid (x∉l.take (k+1)):=by
     show ¬ _;rw[A0w Ha.out];simp[hxa];exact HK.out
    clear hxa
    go_wp2_with fail
    go_roundg (n - (k+1))
    case measure=>omega
    case rel=>exact⟨k+1,by omega,by go_num,HX,rfl⟩
  ·have HX:Hid (x∉l):=by show ¬ _;have:=HK.out;rwa [List.take_of_length_le (by rw[←Hn.out];omega)] at this
   go_wp2
   go_ret
   exact⟨_,rfl,by simp[HX.out],rfl⟩
def I64 (n:Int):Prop:=-9223372036854775808≤n∧n≤9223372036854775807
open Go.RowKit
theorem B8p {v:Value}{l:List Int}{w:World}(h:RdL 1 NAt w v l) (x:Int) :
  Calls Tryz.prog 216 #[v,.int .i64 x] w fun e w'=>∃ r:Int,e = .returned (.int .i64 r)∧decide (0≤r)=decide (x∈l)∧w=w':=by
 obtain⟨ao,n,cap,rfl,Hn,ac⟩:=h.shape
 go_enter Tryz.func216,Tryz.ntmps216
 go_wp2_with fail
 go_loopg [8] n (fun m i wr=>∃ k:Nat,k+m=n∧i = .int .i64 k∧Hid (x∉l.take k)∧w=wr)
 case atStart=>exact⟨0,by omega,rfl,by show ¬ _;simp,rfl⟩
 case round=>
  obtain⟨k,hk,rfl,HK,rfl⟩:=hrel
  by_cases hlt:k < n
  ·obtain⟨a,Ha⟩:∃ a,Hid (l[k]?=some a):=⟨l[k]'(by rw[←Hn.out];exact hlt),List.getElem?_eq_getElem (by rw[←Hn.out];exact hlt)⟩
   obtain⟨b,off,rfl,hc⟩:=h.get NAt.plain Ha.out
   have hc:w.cell? ⟨b,off+k*1,none⟩=some (.int .i64 a):=hc
   rw[Nat.mul_one] at hc
   have ag:(k:Int) < (n:Int):=by omega
   by_cases hxa:x=a
   ·have HM:Hid (x∈l):=by show _∈_;rw[hxa];exact A2v Ha.out
    have hb:(x == a)=true:=by simp[hxa]
    clear hxa
    go_wp2
    go_ret
    exact⟨_,rfl,by simp[HM.out],rfl⟩
   ·have hb:(x == a)=false:=by simp[hxa]
    have HX:Hid (x∉l.take (k+1)):=by
     show ¬ _;rw[A0w Ha.out];simp[hxa];exact HK.out
    clear hxa
    go_wp2_with fail
    go_roundg (n - (k+1))
    case measure=>omega
    case rel=>exact⟨k+1,by omega,by go_num,HX,rfl⟩
  ·have HX:Hid (x∉l):=by show ¬ _;have:=HK.out;rwa [List.take_of_length_le (by rw[←Hn.out];omega)] at this
   go_wp2
   go_ret
   exact⟨_,rfl,by simp[HX.out],rfl⟩
theorem A6w {v:Value}{l:List (List UInt8)}{w:World}(h:RdL 1 SAt w v l) (x:List UInt8) :
  Calls Tryz.prog 155 #[v,.string (S x)] w fun e w'=>e = .returned (.bool (decide (x∈l)))∧w=w':=by
 have hi:=B8q h x
 go_enter Tryz.func155,Tryz.ntmps155
 go_wp2_with fail
 refine hi.mono ?_
 rintro e w1 ⟨r,rfl,hr,rfl⟩
 have HR:Hid (decide (0≤r)=decide (x∈l)):=hr
 clear hr hi
 go_wp2
 go_ret
 exact⟨A1z HR.out,rfl⟩
theorem A4r {v:Value}{l:List Int}{w:World}(h:RdL 1 NAt w v l) (x:Int) :
  Calls Tryz.prog 165 #[v,.int .i64 x] w fun e w'=>e = .returned (.bool (decide (x∈l)))∧w=w':=by
 have hi:=B8p h x
 go_enter Tryz.func165,Tryz.ntmps165
 go_wp2_with fail
 refine hi.mono ?_
 rintro e w1 ⟨r,rfl,hr,rfl⟩
 have HR:Hid (decide (0≤r)=decide (x∈l)):=hr
 clear hr hi
 go_wp2
 go_ret
 exact⟨A1z HR.out,rfl⟩
def A5g (l:List UInt8):Bool:=!l.isEmpty&&(decide (l.length≤16)&&decide (A0t l=l.length))
theorem A9p (l:List UInt8) (hl:l.length≤9223372036854775807) (w:World) :
  Calls Tryz.prog 94 #[.string (S l)] w fun e w'=>e = .returned (.bool (A5g l))∧w=w':=by
 have hsz:=A2l l
 obtain⟨E,hE⟩:∃ E,(S l).toList.isEmpty=E:=⟨_,rfl⟩
 obtain⟨Q,HQ⟩:∃ Q,Hid (Q=decide (A0t l=l.length)):=⟨_,rfl⟩
 have HR:Hid (A5g l=(!E&&(decide (l.length≤16)&&Q))):=by show _=_;rw[A5g,←hE,HQ.out,A1x]
 have ac:=A3b l hl w
 have HB:Hid (((A0t l:Int) == (l.length:Int))=Q):=by show _=_;rw[HQ.out,Bool.eq_iff_iff];simp;omega
 generalize A0t l=W at ac HB
 have hB:=HB.out
 cases E with
 | true=>
  go_enter Tryz.func94,Tryz.ntmps94
  go_wp2
  go_ret
  exact⟨by rw[HR.out];rfl,rfl⟩
 | false=>
  by_cases h16:l.length≤16
  ·have ag:((l.length:Nat):Int)≤16:=by omega
   go_enter Tryz.func94,Tryz.ntmps94
   go_wp2_with fail
   refine ac.mono ?_
   rintro e w1 ⟨rfl,rfl⟩
   cases Q
   all_goals go_wp2
   all_goals go_ret
   all_goals exact⟨by rw[HR.out];simp[h16],rfl⟩
  ·have ag:¬ ((l.length:Nat):Int)≤16:=by omega
   go_enter Tryz.func94,Tryz.ntmps94
   go_wp2
   go_ret
   exact⟨by rw[HR.out];simp[h16],rfl⟩
theorem C9f (w:World):RdL 1 SAt (w.alloc (.cells A2j 9)) (.slice (some ⟨w.heap.size,0,none⟩) 9 9) A3d:=by
 refine⟨_,9,9,rfl,rfl,Nat.le_refl _,by unfold maxLen;omega,fun h=>(by cases h),?_⟩
 intro x hx k a ha
 cases hx
 have hk:k < 9:=(List.getElem?_eq_some_iff.1 ha).1
 rw[A0d,Nat.zero_add,Nat.mul_one]
 have e:A3d.getD k []=a:=by rw[List.getD_eq_getElem?_getD,ha];rfl
 exact A0a (heap_alloc_new w _) k _ (by rw[A5n k hk,e])
def keptB (s:List UInt8):Bool:=decide (s=A2o)||(decide (s=A4l)||(decide (s=A6i)||decide (s∈A3d)))
theorem B8s (s:List UInt8) (w:World):Calls Tryz.prog 95 #[.string (S s)] w fun e w'=>e = .returned (.bool (keptB s))∧Below w.heap.size w w':=by
 obtain⟨q1,aj⟩:∃ q,((S s).toList == [114,101,112,101,97,116,101,100])=q:=⟨_,rfl⟩
 obtain⟨q2,ak⟩:∃ q,((S s).toList == [114,101,115,101,114,118,101,100])=q:=⟨_,rfl⟩
 obtain⟨q3,au⟩:∃ q,((S s).toList == [111,110,101,111,102])=q:=⟨_,rfl⟩
 have HC:Hid (keptB s=(q1||(q2||(q3||decide (s∈A3d))))):=by
  show _=_
  rw[←aj,←ak,←au,A1x,Bool.eq_iff_iff]
  simp[keptB,A2o,A4l,A6i]
  exact or_congr decide_eq_true_iff (or_congr decide_eq_true_iff (or_congr decide_eq_true_iff Iff.rfl))
 have ac:=A6w (C9f w) s
 have ah:Below w.heap.size w (w.alloc (.cells A2j 9)):=(Below.refl _ _).alloc (Nat.le_refl _) _
 have ag:=B0e w
 by_cases h:(q1||(q2||q3))=true
 ·have HR:Hid (keptB s=true):=by show _=_;rw[HC.out];revert h;cases q1 <;> cases q2 <;> cases q3 <;> simp
  cases q1 <;> cases q2 <;> cases q3 <;> first|(exfalso;revert h;decide)|skip
  all_goals clear h HC ac ag
  all_goals go_enter Tryz.func95,Tryz.ntmps95
  all_goals go_wp2
  all_goals go_ret
  all_goals exact⟨by rw[HR.out];rfl,Below.refl _ _⟩
 ·have HR:Hid (keptB s=decide (s∈A3d)):=by show _=_;rw[HC.out];revert h;cases q1 <;> cases q2 <;> cases q3 <;> simp
  cases q1 <;> cases q2 <;> cases q3 <;> first|(exfalso;revert h;decide)|skip
  clear h HC
  go_enter Tryz.func95,Tryz.ntmps95
  go_wp2_with fail
  refine ag.mono ?_
  rintro e w1 ⟨rfl,rfl⟩
  go_wp2_with fail
  refine ac.mono ?_
  rintro e w2 ⟨rfl,rfl⟩
  go_wp2
  go_ret
  exact⟨by rw[HR.out];rfl,ah⟩
open Go.RowKit
structure Upd (c:Nat) (row:Option Nat) (w w':World):Prop where
 os:w'.os=w.os
 tape:w'.tape=w.tape
 output:w'.output=w.output
 size:w.heap.size≤w'.heap.size
 block:∀ k,k < w.heap.size→k≠c→row≠some k→w'.heap[k]?=w.heap[k]?
theorem Upd.refl (c:Nat) (row:Option Nat) (w:World):Upd c row w w:=⟨rfl,rfl,rfl,Nat.le_refl _,fun _ _ _ _=>rfl⟩
theorem Upd.below {c B:Nat}{row:Option Nat}{w w':World}(h:Upd c row w w') (hc:B≤c) (hr:∀ k,row=some k→B≤k) (hB:B≤w.heap.size):Below B w w':=
 ⟨h.os,h.tape,h.output,h.size,fun k hk=>h.block k (by omega) (by omega) (fun e=>by have:=hr k e;omega)⟩
theorem Upd.of_below {c:Nat}{row:Option Nat}{w w':World}(h:Below w.heap.size w w'):Upd c row w w':=⟨h.os,h.tape,h.output,h.size,fun k hk _ _=>h.block k hk⟩
theorem Row.shape' {α:Type}{E:EK α}{w:World}{B:Nat}{v:Value}{l:List α}(h:Row E w B v l):∃ ao n cap,v = .slice ao n cap∧Hid (n=l.length):=by
 obtain⟨ao,cap,e⟩:=h.shape
 exact⟨ao,l.length,cap,e,rfl⟩
theorem A3i (fn:Fn) (first cap:Array Value) (w:World):(Instr.makeFunc fn first cap).run Tryz.prog w = .ok (.func fn first cap) w:=rfl
theorem A7t (w:World):Calls Tryz.prog 92 #[] w fun e w'=>e = .returned (.func (.func 154) #[] #[.pointer (some ⟨w.heap.size,0,none⟩)])∧w.alloc (.cells #[.slice none 0 0] 93)=w':=by
 have ac:=A3i
 go_enter Tryz.func92,Tryz.ntmps92
 go_wp2
 go_ret
 exact⟨rfl,rfl⟩
theorem B0z (w:World):Calls Tryz.prog 159 #[] w fun e w'=>e = .returned (.func (.func 214) #[] #[.pointer (some ⟨w.heap.size,0,none⟩)])∧w.alloc (.cells #[.slice none 0 0] 30)=w':=by
 have ac:=A3i
 go_enter Tryz.func159,Tryz.ntmps159
 go_wp2
 go_ret
 exact⟨rfl,rfl⟩
def A6q {α:Type} [DecidableEq α] (x : α) (l:List α):List α:=if x∈l then l else l++[x]
theorem A8x {w:World}{c B:Nat}{v:Value}{l:List (List UInt8)}(hc:w.heap[c]?=some (.cells #[v] 93 (0,0))) (hr:Row ekS w B v l) (hcB:c < B) (hB:B≤w.heap.size) (hl:l.length≤1000) (x:List UInt8) :
  Calls Tryz.prog 154 #[.string (S x),.pointer (some ⟨c,0,none⟩)] w fun e w'=>e = .returned (.bool (decide (x∈l)))∧∃ v',w'.heap[c]?=some (.cells #[v'] 93 (0,0))∧Row ekS w' B v' (A6q x l)∧Upd c v.ownBlock w w':=by
 obtain⟨ao,n,cap,rfl,Hn⟩:=hr.shape'
 have c0:=A0a hc 0 _ rfl
 have f0:=A0b hc 0
 have aj:=A6w hr.rdS x
 obtain⟨q,Hq⟩:∃ q,Hid (q=decide (x∈l)):=⟨_,rfl⟩
 rw[←Hq.out] at aj ⊢
 cases q with
 | true=>
  have HA:Hid (A6q x l=l):=by show _=_;have:=Hq.out;simp at this;simp[A6q,this]
  go_enter Tryz.func154,Tryz.ntmps154
  go_wp2_with fail
  refine aj.mono ?_
  rintro e w1 ⟨rfl,rfl⟩
  go_wp2
  go_ret
  exact⟨rfl,_,hc,by rw[HA.out];exact hr,Upd.refl _ _ _⟩
 | false=>
  have HA:Hid (A6q x l=l++[x]):=by show _=_;have:=Hq.out;simp at this;simp[A6q,this]
  have ak:Row ekS (w.alloc (.cells #[.string (S x)] 9)) B (.slice (some ⟨w.heap.size,0,none⟩) 1 1) [x]:=Row.one ekS w x hB
  have ac:=(Below.refl w.heap.size w).alloc (Nat.le_refl _) (.cells #[.string (S x)] 9)
  have hr4:=hr.below ac
  have aw:=(ac.block c (by omega)).trans hc
  go_enter Tryz.func154,Tryz.ntmps154
  go_wp2_with fail
  refine aj.mono ?_
  rintro e w1 ⟨rfl,rfl⟩
  go_wp2_with (at_builtin;refine A2q rfl ekS _ _ rfl B _ l [x] rfl hr4 B _ rfl ak ?e1 ?e2 ?_)
  case e1=>simp;omega
  case e2=>simp;omega
  intro v5 w5 au ag
  have hown:=hr4.own
  have ah:=(ag.block c (Array.getElem?_eq_some_iff.1 aw).1 (fun hh=>by have:=(hown c hh.symm).1;omega)).trans aw
  have k0:=A0a ah 0 _ rfl
  have k1:=A0b ah 0
  obtain⟨a5,n5,ba,rfl,bh⟩:=au.shape'
  go_wp2
  go_ret
  refine⟨rfl,_,heap_setCell_same _ _ 0 _ _ _ ah,?_,?_⟩
  ·rw[HA.out]
   exact au.other (fun hh=>by have:=(au.own c hh).1;omega) 0 _
  ·refine⟨ag.os.trans ac.os,ag.tape.trans ac.tape,ag.output.trans ac.output,Nat.le_trans ac.size (Nat.le_trans ag.size (by simp[World.setCell])),fun k hk bc bg=>?_⟩
   rw[Below.heap_setCell _ _ _ _ (show k≠c from bc),ag.block k (by simp;omega) (fun e=>bg e.symm),ac.block k hk]
theorem B4r {w:World}{c B:Nat}{v:Value}{l:List Int}(hc:w.heap[c]?=some (.cells #[v] 30 (0,0))) (hr:Row ekN w B v l) (hcB:c < B) (hB:B≤w.heap.size) (hl:l.length≤1000) (x:Int) :
  Calls Tryz.prog 214 #[.int .i64 x,.pointer (some ⟨c,0,none⟩)] w fun e w'=>e = .returned (.bool (decide (x∈l)))∧∃ v',w'.heap[c]?=some (.cells #[v'] 30 (0,0))∧Row ekN w' B v' (A6q x l)∧Upd c v.ownBlock w w':=by
 obtain⟨ao,n,cap,rfl,Hn⟩:=hr.shape'
 have c0:=A0a hc 0 _ rfl
 have f0:=A0b hc 0
 have aj:=A4r hr.rdN x
 obtain⟨q,Hq⟩:∃ q,Hid (q=decide (x∈l)):=⟨_,rfl⟩
 rw[←Hq.out] at aj ⊢
 cases q with
 | true=>
  have HA:Hid (A6q x l=l):=by show _=_;have:=Hq.out;simp at this;simp[A6q,this]
  go_enter Tryz.func214,Tryz.ntmps214
  go_wp2_with fail
  refine aj.mono ?_
  rintro e w1 ⟨rfl,rfl⟩
  go_wp2
  go_ret
  exact⟨rfl,_,hc,by rw[HA.out];exact hr,Upd.refl _ _ _⟩
 | false=>
  have HA:Hid (A6q x l=l++[x]):=by show _=_;have:=Hq.out;simp at this;simp[A6q,this]
  have ak:Row ekN (w.alloc (.cells #[.int .i64 x] 3)) B (.slice (some ⟨w.heap.size,0,none⟩) 1 1) [x]:=Row.one ekN w x hB
  have ac:=(Below.refl w.heap.size w).alloc (Nat.le_refl _) (.cells #[.int .i64 x] 3)
  have hr4:=hr.below ac
  have aw:=(ac.block c (by omega)).trans hc
  go_enter Tryz.func214,Tryz.ntmps214
  go_wp2_with fail
  refine aj.mono ?_
  rintro e w1 ⟨rfl,rfl⟩
  go_wp2_with (at_builtin;refine A2q rfl ekN _ _ rfl B _ l [x] rfl hr4 B _ rfl ak ?e1 ?e2 ?_)
  case e1=>simp;omega
  case e2=>simp;omega
  intro v5 w5 au ag
  have hown:=hr4.own
  have ah:=(ag.block c (Array.getElem?_eq_some_iff.1 aw).1 (fun hh=>by have:=(hown c hh.symm).1;omega)).trans aw
  have k0:=A0a ah 0 _ rfl
  have k1:=A0b ah 0
  obtain⟨a5,n5,ba,rfl,bh⟩:=au.shape'
  go_wp2
  go_ret
  refine⟨rfl,_,heap_setCell_same _ _ 0 _ _ _ ah,?_,?_⟩
  ·rw[HA.out]
   exact au.other (fun hh=>by have:=(au.own c hh).1;omega) 0 _
  ·refine⟨ag.os.trans ac.os,ag.tape.trans ac.tape,ag.output.trans ac.output,Nat.le_trans ac.size (Nat.le_trans ag.size (by simp[World.setCell])),fun k hk bc bg=>?_⟩
   rw[Below.heap_setCell _ _ _ _ (show k≠c from bc),ag.block k (by simp;omega) (fun e=>bg e.symm),ac.block k hk]
def B6o (last begun ch:Int):Bool:=decide (ch≠0)&&(decide (ch≠last)&&decide (ch≠begun+1))
theorem C8k (w:World):Calls Tryz.prog 160 #[] w fun e w'=>e = .returned (.func (.func 215) #[] #[.pointer (some ⟨w.heap.size,0,none⟩),.pointer (some ⟨w.heap.size+1,0,none⟩)])∧(w.alloc (.cells #[.int .i64 0] 3)).alloc (.cells #[.int .i64 0] 3)=w':=by
 have ac:=A3i
 go_enter Tryz.func160,Tryz.ntmps160
 go_wp2
 go_ret
 exact⟨rfl,rfl⟩
theorem C1w {w:World}{c d:Nat}{a b:Value}{t:TypeId}(hc:w.heap[c]?=some (.cells #[a] t (0,0))) (hd:w.heap[d]?=some (.cells #[b] t (0,0))) (ac:c≠d) (x y:Value) :
  ((w.setCell ⟨c,0,none⟩ x).setCell ⟨d,0,none⟩ y).drew.heap[c]?=some (.cells #[x] t (0,0))∧((w.setCell ⟨c,0,none⟩ x).setCell ⟨d,0,none⟩ y).drew.heap[d]?=some (.cells #[y] t (0,0))∧(∀ k,¬ k=c→¬ k=d→((w.setCell ⟨c,0,none⟩ x).setCell ⟨d,0,none⟩ y).drew.heap[k]?=w.heap[k]?)∧((w.setCell ⟨c,0,none⟩ x).setCell ⟨d,0,none⟩ y).drew.heap.size=w.heap.size∧((w.setCell ⟨c,0,none⟩ x).setCell ⟨d,0,none⟩ y).drew.os=w.os∧((w.setCell ⟨c,0,none⟩ x).setCell ⟨d,0,none⟩ y).drew.tape=w.tape∧((w.setCell ⟨c,0,none⟩ x).setCell ⟨d,0,none⟩ y).drew.output=w.output:=by
 refine⟨?_,?_,?_,?_,rfl,rfl,rfl⟩
 ·show((w.setCell ⟨c,0,none⟩ x).setCell ⟨d,0,none⟩ y).heap[c]?=_
  rw[Below.heap_setCell _ _ _ _ (show c≠d from ac)]
  exact heap_setCell_same _ _ 0 _ _ _ hc
 ·show((w.setCell ⟨c,0,none⟩ x).setCell ⟨d,0,none⟩ y).heap[d]?=_
  exact heap_setCell_same _ _ 0 _ _ _ ((Below.heap_setCell w ⟨c,0,none⟩ x d (show d≠c from fun h=>ac h.symm)).trans hd)
 ·intro k k1 k2
  show((w.setCell ⟨c,0,none⟩ x).setCell ⟨d,0,none⟩ y).heap[k]?=_
  rw[Below.heap_setCell _ _ _ _ (show k≠d from k2),Below.heap_setCell _ _ _ _ (show k≠c from k1)]
 ·show((w.setCell ⟨c,0,none⟩ x).setCell ⟨d,0,none⟩ y).heap.size=_
  simp
theorem C5r {w:World}{c d:Nat}{last begun:Int}(hc:w.heap[c]?=some (.cells #[.int .i64 last] 3 (0,0))) (hd:w.heap[d]?=some (.cells #[.int .i64 begun] 3 (0,0))) (ac:c≠d) (hb0:0≤begun) (hb1:begun≤1000000) (ch:Int) :
  Calls Tryz.prog 215 #[.int .i64 ch,.pointer (some ⟨c,0,none⟩),.pointer (some ⟨d,0,none⟩)] w fun e w'=>e = .returned (.bool (B6o last begun ch))∧w'.heap[c]?=some (.cells #[.int .i64 (if B6o last begun ch then last else ch)] 3 (0,0))∧w'.heap[d]?=some (.cells #[.int .i64 (if B6o last begun ch then begun else max begun ch)] 3 (0,0))∧(∀ k,k≠c→k≠d→w'.heap[k]?=w.heap[k]?)∧w'.heap.size=w.heap.size∧w'.os=w.os∧w'.tape=w.tape∧w'.output=w.output:=by
 have c0:=A0a hc 0 _ rfl
 have f0:=A0b hc 0
 have d0:=A0a hd 0 _ rfl
 have f1:=A0b hd 0
 obtain⟨q1,ag⟩:∃ q,(ch != 0)=q:=⟨_,rfl⟩
 obtain⟨q2,ah⟩:∃ q,(ch != last)=q:=⟨_,rfl⟩
 obtain⟨q3,aj⟩:∃ q,(ch != begun+1)=q:=⟨_,rfl⟩
 have HC:Hid (B6o last begun ch=(q1&&(q2&&q3))):=by
  show _=_
  rw[←ag,←ah,←aj,Bool.eq_iff_iff]
  simp[B6o]
 have c0:w.cell? ⟨c,0,none⟩=some (.int .i64 last):=c0
 have d0:w.cell? ⟨d,0,none⟩=some (.int .i64 begun):=d0
 by_cases hm:(q1&&(q2&&q3))=true
 ·have HM:Hid (B6o last begun ch=true):=by show _=_;rw[HC.out];exact hm
  cases q1 <;> cases q2 <;> cases q3 <;> first|(exfalso;revert hm;decide)|skip
  clear hm HC
  go_enter Tryz.func215,Tryz.ntmps215
  go_wp2
  go_ret
  exact⟨rfl,hc,hd,fun _ _ _=>rfl,rfl,rfl,rfl,rfl⟩
 ·have HM:Hid (B6o last begun ch=false):=by show _=_;rw[HC.out];simpa using hm
  have ak:c < w.heap.size:=(Array.getElem?_eq_some_iff.1 hc).1
  have au:d < w.heap.size:=(Array.getElem?_eq_some_iff.1 hd).1
  rw[HM.out]
  clear HC
  cases q1 <;> cases q2 <;> cases q3 <;> first|(exfalso;revert hm;decide)|skip
  all_goals clear hm
  all_goals go_enter Tryz.func215,Tryz.ntmps215
  all_goals go_wp2_with fail
  all_goals go_region
  all_goals go_wp2
  all_goals go_ret
  all_goals first
   | (rw[show max begun ch=ch by omega];exact⟨rfl,C1w hc hd ac _ _⟩)
   | (rw[show max begun ch=begun by omega];exact⟨rfl,C1w hc hd ac _ _⟩)
end L
end Go.Proofs.YtgaoojpakjjdnaaGreatDoor
