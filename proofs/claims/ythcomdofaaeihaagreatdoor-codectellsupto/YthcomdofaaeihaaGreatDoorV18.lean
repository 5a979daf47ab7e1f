import Derived.Test.YthcomdofaaeihaaGreatDoorRows
import Derived.Test.YthcomdofaaeihaaGreatDoorV06
import Derived.Test.YthcomdofaaeihaaGreatDoorV15
import Derived.Lib.LaidU8T
set_option maxHeartbeats 32000000
set_option maxRecDepth 100000
set_option linter.unusedVariables false
namespace Go.Proofs.YthcomdofaaeihaaGreatDoor
open Go.RowKit
def E1i:Shelf.Ren:=⟨fun x=>x,fun x=>if x=119 then 217 else if x=138 then 219 else if x=139 then 220 else if x=5 then 5 else x,fun x=>if x=3 then 0 else if x=4 then 1 else x⟩
theorem C5d:(Rows.laid_unicode_utf8_first:DataW Unit)=Lib.firstData:=by kernel_rfl
theorem C0m:(Rows.laid_unicode_utf8_acceptRanges:DataW Unit)=Lib.acceptData:=by kernel_rfl
theorem B9c {W : World} (h : laidMet Tryz.prog [("unicode/utf8.acceptRanges", Rows.laid_unicode_utf8_acceptRanges), ("unicode/utf8.first", Rows.laid_unicode_utf8_first)] W) : L.Tabs W := by
 have h3:=Lib.laidMet.reads h (.tail _ (.head _))
 have h4:=Lib.laidMet.reads h (.head _)
 rw[C5d] at h3
 rw[C0m] at h4
 exact utf8Tabs_of_readsT (ρ:=E1i) ⟨by kernel_rfl,by kernel_rfl,by kernel_rfl,by kernel_rfl⟩ ⟨by kernel_rfl,by kernel_rfl,by kernel_rfl,by kernel_rfl,by kernel_rfl,by kernel_rfl,by kernel_rfl⟩ h3 h4
end Go.Proofs.YthcomdofaaeihaaGreatDoor
namespace Go.Proofs.YthcomdofaaeihaaGreatDoor
namespace L
open Go.RowKit
structure KP {α α':Type}(E:EK α') (P:World→Addr→α→Prop) (er : α'→α) (T:World→α'→Prop):Prop where
 inn:∀ w b o a,P w ⟨b,o,none⟩ a→∃ a',er a'=a∧T w a'∧∀ j u,(E.enc a')[j]?=some u→w.cell? ⟨b,o+j,none⟩=some u
 out:∀ w w' g i a',T w a'→Sub w w'→(∀ j u,(E.enc a')[j]?=some u→w'.cell? ⟨g,i+j,none⟩=some u)→P w' ⟨g,i,none⟩ (er a')
 plain:qQ P
section
variable{w:World}
variable {α α':Type}{E:EK α'}{P:World→Addr→α→Prop}{er : α'→α}{T:World→α'→Prop}
theorem B2i {α α':Type}{er : α'→α}:∀ (l:List α) (Q:Nat→α'→Prop),(∀ k a,l[k]?=some a→∃ a',er a'=a∧Q k a')→∃ l':List α',l'.map er=l∧∀ k a',l'[k]?=some a'→Q k a'
 | [],_,_=>⟨[],rfl,fun k a' h=>by simp at h⟩
 | a::l,Q,h=>by
  obtain⟨b,hb,hq⟩:=h 0 a rfl
  obtain⟨l',hl,hq'⟩:=B2i l (fun k=>Q (k+1)) fun k c hc=>h (k+1) c (by simpa using hc)
  refine⟨b::l',by rw[wS,hb,hl],fun k a' ha=>?_⟩
  cases k with
  | zero=>simp at ha;subst ha;exact hq
  | succ k=>exact hq' k a' (by simpa using ha)
theorem KP.src (K:KP E P er T){ao:Option Addr}{n cap:Nat}{l:List α}(h:RdL E.size P w (.slice ao n cap) l):∃ l',l'.map er=l∧(∀ a'∈l',T w a')∧Src E w ao n cap l':=by
 have hlen:=h.len.1;cases l with
 | nil=>
  obtain⟨ac,n',cap',e,h1,_,_,h4,_⟩:=h;cases e
  exact⟨[],rfl,fun a' h=>by simp at h,h1,h4,fun ad _ k y hy=>by simp at hy⟩
 | cons a0 l0=>
 obtain⟨b,off,rfl,_⟩:=h.get K.plain (k:=0) (a:=a0) rfl;obtain⟨l',h1,h2⟩:=B2i (er:=er) (a0::l0) (fun k a'=>T w a'∧∀ j u,(E.enc a')[j]?=some u→w.cell? ⟨b,off+k*E.size+j,none⟩=some u) (fun k a ha=>by
  obtain⟨b',off',e,hp⟩:=h.get K.plain ha;cases e
  obtain⟨a',g1,g2,g3⟩:=K.inn w b (off+k*E.size) a hp;exact⟨a',g1,g2,g3⟩)
 refine⟨l',h1,fun a' ha=>?_,?_,(fun e=>by cases e),fun ad had k y hy j u hu=>?_⟩
 ·obtain⟨k,hk⟩:=bI ha;exact(h2 k a' hk).1
 ·rw[hlen,←h1,yX]
 cases had
 have:=(h2 k y hy).2 j u hu;rw[xS,←Nat.add_assoc];exact this
theorem KP.rd (K:KP E P er T){w':World}{base:Nat}{v:Value}{l:List α'}(h:Row E w' base v l)(hT:∀ a'∈l,T w a')(hb:Sub w w'):RdL E.size P w' v (l.map er):=
 RdL.mapB er (h.rd (fun w (x:Addr) (a' : α')=>∃ g i,x=⟨g,i,none⟩∧∀ j u,(E.enc a')[j]?=some u→w.cell? ⟨g,i+j,none⟩=some u) fun g i a hc=>⟨g,i,rfl,hc⟩) fun x a' ha ⟨g,i,e,hc⟩=>by
  rw[e];exact K.out w w' g i a' (hT a' ha) hb hc
end
variable{α:Type}{ao:Option Addr}{w' w:World}{cap n:Nat}{E:EK α}{l:List α}
theorem Src.sub (h:Src E w ao n cap l)(hb:Sub w w'):Src E w' ao n cap l:=⟨h.1,h.2.1,fun ad had k y hy j u hu=>hb _ _ (h.2.2 ad had k y hy j u hu)⟩
theorem Src.bL (h:Src E w ao n cap l)(hb:zB w w'):Src E w' ao n cap l:=⟨h.1,h.2.1,fun ad had k y hy j u hu=>zQ hb (h.2.2 ad had k y hy j u hu)⟩
theorem kpU:KP ekU UAt id fun _ _=>True where
 inn:=fun w b o a h=>⟨a,rfl,trivial,fun j u hu=>by
  cases j with
  | succ j=>simp[ekU,dE] at hu
  | zero=>simp[ekU,dE] at hu;subst hu;exact h⟩
 out:=fun w w' g i a' _ _ hc=>by have:=hc 0 _ rfl;simpa [UAt] using this
 plain:=UAt.plain
theorem kpZ:KP ekZ ZAt Prod.fst fun w (z:List UInt8×PV)=>RdL 1 YAt w z.2.v z.1 where
 inn:=fun w b o a ⟨v,h1,h2⟩=>by
  obtain⟨ao,n,cap,rfl,_,_⟩:=h2.sH
  refine⟨(a,(ao,n,cap)),rfl,h2,fun j u hu=>?_⟩
  cases j with
  | succ j=>simp[ekZ,aS] at hu
  | zero=>simp[ekZ,aS] at hu;subst hu;exact h1
 out:=fun w w' g i a' ht hb hc=>⟨a'.2.v,by simpa using hc 0 _ rfl,ht.sub YAt.gW hb⟩
 plain:=ZAt.plain
theorem kpR:KP ekR RAt Prod.fst fun w (r:RI×PV)=>RdL 1 YAt w r.2.v r.1.bytes where
 inn:=fun w b o a h=>by
  obtain⟨v,h0,h1,h2,h3,h4⟩:=h.at
  obtain⟨ao,n,cap,rfl,_,_⟩:=h4.sH
  refine⟨(a,(ao,n,cap)),rfl,h4,fun j u hu=>?_⟩
  match j,hu with
  | 0,hu=>simp[ekR,pI] at hu;subst hu;exact h0
  | 1,hu=>simp[ekR,pI] at hu;subst hu;exact h1
  | 2,hu=>simp[ekR,pI] at hu;subst hu;exact h2
  | 3,hu=>simp[ekR,pI] at hu;subst hu;exact h3
  | j+4,hu=>simp[ekR,pI] at hu
 out:=fun w w' g i a' ht hb hc=>by
  refine⟨a'.2.v,by simpa using hc 0 _ rfl,?_,?_,?_,ht.sub YAt.gW hb⟩ <;> rw[xS]
  ·exact hc 1 _ rfl
  ·exact hc 2 _ rfl
  ·exact hc 3 _ rfl
 plain:=RAt.plain
abbrev QB (d:Nat):=BI d×PV×PV
def dH {d:Nat}(q:QB d):List Value:=[q.2.1.v,q.2.2.v]
def mZ (d:Nat):EK (QB d) where
 elem:=29
 slice:=61
 size:=2
 bytes:=48
 zero:=.agg #[.slice none 0 0,.slice none 0 0]
 enc:=dH
 under:=Tryz.underlying61
 info:=by kernel_rfl
 zs:=rfl
 pos:=by decide
 small:=by decide
 len:=fun _=>rfl
 one:=by intro a u hu;simp only[dH,yY,rI,or_false] at hu;rcases hu with rfl|rfl <;> rfl
def E1t (d:Nat)(w:World)(q:QB d):Prop:=∀ w' g i,Sub w w'→w'.cell? ⟨g,i,none⟩=some q.2.1.v→w'.cell? ⟨g,i+1,none⟩=some q.2.2.v→BAt d w' ⟨g,i,none⟩ q.1
theorem kpB:∀ d:Nat,KP (mZ d) (BAt d) Prod.fst (E1t d)
 | 0=>⟨fun _ _ _ _ h=>h.elim,fun w w' g i a' ht hb hc=>ht w' g i hb (by simpa using hc 0 _ rfl) (hc 1 _ rfl),BAt.plain 0⟩
 | d+1=>⟨fun w b o a h=>by
   obtain⟨v0,v1,h0,h1,hr⟩:=h.at
   obtain⟨a0,n0,c0,rfl,_,_⟩:=hr.1.sH
   obtain⟨a1,n1,c1,rfl,_,_⟩:=hr.2.sH
   refine⟨(a,(a0,n0,c0),(a1,n1,c1)),rfl,fun w' g i hb g0 g1=>⟨_,_,g0,by rw[xS];exact g1,(hr.sub hb).1,(hr.sub hb).2⟩,fun j u hu=>?_⟩
   match j,hu with
   | 0,hu=>simp[mZ,dH] at hu;subst hu;exact h0
   | 1,hu=>simp[mZ,dH] at hu;subst hu;exact h1
   | j+2,hu=>simp[mZ,dH] at hu,
  fun w w' g i a' ht hb hc=>ht w' g i hb (by simpa using hc 0 _ rfl) (hc 1 _ rfl),BAt.plain _⟩
theorem Row.empT (E:EK α){base g:Nat}(hb:base≤g)(h:w.heap[g]?=some (.cells #[] E.elem (0,0))):Row E w base (.slice (some ⟨g,0,none⟩) 0 0) []:=
 ⟨by simp[EK.flat],.inr ⟨g,0,#[],rfl,hb,h,zG _,by unfold maxLen;omega,by simp,by simp[EK.flat]⟩⟩
def vQ (n b0 b1 b2 b3:Nat):Nat:=
 if b0<128 then 1
 else if 194≤b0∧b0<224 then(if 1<n∧b1 / 64=2 then 2 else 0)
 else if 224≤b0∧b0<240 then(if (1<n∧b1 / 64=2)∧(2<n∧b2 / 64=2)∧2048≤64*(64*(b0-224)+b1%64)+b2%64∧¬ (55296≤64*(64*(b0-224)+b1%64)+b2%64∧64*(64*(b0-224)+b1%64)+b2%64<57344) then 3 else 0)
 else if 240≤b0∧b0<245 then(if (1<n∧b1 / 64=2)∧(2<n∧b2 / 64=2)∧(3<n∧b3 / 64=2)∧65536≤64*(64*(64*(b0-240)+b1%64)+b2%64)+b3%64∧64*(64*(64*(b0-240)+b1%64)+b2%64)+b3%64≤1114111 then 4 else 0)
 else 0
theorem D5v (n b0 b1 b2 b3:Nat)(h0:b0<256)(h1:b1<256)(h2:b2<256)(h3:b3<256):(vQ n b0 b1 b2 b3=0∧Lib.decodeN n b0 b1 b2 b3=(65533,1))∨(vQ n b0 b1 b2 b3≠0∧∃ r,Lib.decodeN n b0 b1 b2 b3=(r,vQ n b0 b1 b2 b3)∧¬ (r=65533∧vQ n b0 b1 b2 b3=1)):=by
 by_cases c0:b0<128
 ·skip;have hs:vQ n b0 b1 b2 b3=1:=by unfold vQ;rw[zF c0]
  have hd:∃ r,Lib.decodeN n b0 b1 b2 b3=(r,1)∧¬ (r=65533∧1=1):=by
   unfold Lib.decodeN;rw[zF c0];exact⟨_,rfl,by omega⟩
  rw[hs];exact .inr ⟨by omega,hd⟩
 by_cases c1:194≤b0∧b0<224
 ·by_cases q:1<n∧b1 / 64=2
  ·skip;have hs:vQ n b0 b1 b2 b3=2:=by unfold vQ;rw[zC c0,zF c1,zF q]
   have hd:∃ r,Lib.decodeN n b0 b1 b2 b3=(r,2)∧¬ (r=65533∧2=1):=by
    unfold Lib.decodeN;rw[zC c0,zF ⟨by omega,q⟩,zF (by omega)];exact⟨_,rfl,by omega⟩
   rw[hs];exact .inr ⟨by omega,hd⟩
  skip;have hs:vQ n b0 b1 b2 b3=0:=by unfold vQ;rw[zC c0,zF c1,zC q]
  have hd:Lib.decodeN n b0 b1 b2 b3=(65533,1):=by unfold Lib.decodeN;rw[zC c0,zC (fun h=>q h.2),zC (by omega),zC (by omega)]
  exact .inl ⟨hs,hd⟩
 by_cases c2:224≤b0∧b0<240
 ·by_cases q:(1<n∧b1 / 64=2)∧(2<n∧b2 / 64=2)
  ·by_cases v:2048≤64*(64*(b0-224)+b1%64)+b2%64∧¬ (55296≤64*(64*(b0-224)+b1%64)+b2%64∧64*(64*(b0-224)+b1%64)+b2%64<57344)
   ·skip;have hs:vQ n b0 b1 b2 b3=3:=by unfold vQ;rw[zC c0,zC c1,zF c2,zF ⟨q.1,q.2,v⟩]
    have hd:∃ r,Lib.decodeN n b0 b1 b2 b3=(r,3)∧¬ (r=65533∧3=1):=by
     unfold Lib.decodeN;rw[zC c0,zC (by omega),zF ⟨by omega,q.1,q.2⟩,zF (by omega)];exact⟨_,rfl,by omega⟩
    rw[hs];exact .inr ⟨by omega,hd⟩
   skip;have hs:vQ n b0 b1 b2 b3=0:=by unfold vQ;rw[zC c0,zC c1,zF c2,zC (fun h=>v h.2.2)]
   have hd:Lib.decodeN n b0 b1 b2 b3=(65533,1):=by unfold Lib.decodeN;rw[zC c0,zC (by omega),zF ⟨by omega,q.1,q.2⟩,zC (by omega)]
   exact .inl ⟨hs,hd⟩
  skip;have hs:vQ n b0 b1 b2 b3=0:=by unfold vQ;rw[zC c0,zC c1,zF c2,zC (fun h=>q ⟨h.1,h.2.1⟩)]
  have hd:Lib.decodeN n b0 b1 b2 b3=(65533,1):=by unfold Lib.decodeN;rw[zC c0,zC (by omega),zC (fun h=>q h.2),zC (by omega)]
  exact .inl ⟨hs,hd⟩
 by_cases c3:240≤b0∧b0<245
 ·by_cases q:(1<n∧b1 / 64=2)∧(2<n∧b2 / 64=2)∧(3<n∧b3 / 64=2)
  ·by_cases v:65536≤64*(64*(64*(b0-240)+b1%64)+b2%64)+b3%64∧64*(64*(64*(b0-240)+b1%64)+b2%64)+b3%64≤1114111
   ·skip;have hs:vQ n b0 b1 b2 b3=4:=by unfold vQ;rw[zC c0,zC c1,zC c2,zF c3,zF ⟨q.1,q.2.1,q.2.2,v⟩]
    have hd:∃ r,Lib.decodeN n b0 b1 b2 b3=(r,4)∧¬ (r=65533∧4=1):=by
     unfold Lib.decodeN;rw[zC c0,zC (by omega),zC (by omega),zF ⟨by omega,q.1,q.2.1,q.2.2⟩,zF (by omega)];exact⟨_,rfl,by omega⟩
    rw[hs];exact .inr ⟨by omega,hd⟩
   skip;have hs:vQ n b0 b1 b2 b3=0:=by unfold vQ;rw[zC c0,zC c1,zC c2,zF c3,zC (fun h=>v h.2.2.2)]
   have hd:Lib.decodeN n b0 b1 b2 b3=(65533,1):=by unfold Lib.decodeN;rw[zC c0,zC (by omega),zC (by omega),zF ⟨by omega,q.1,q.2.1,q.2.2⟩,zC (by omega)]
   exact .inl ⟨hs,hd⟩
  skip;have hs:vQ n b0 b1 b2 b3=0:=by unfold vQ;rw[zC c0,zC c1,zC c2,zF c3,zC (fun h=>q ⟨h.1,h.2.1,h.2.2.1⟩)]
  have hd:Lib.decodeN n b0 b1 b2 b3=(65533,1):=by unfold Lib.decodeN;rw[zC c0,zC (by omega),zC (by omega),zC (fun h=>q h.2)]
  exact .inl ⟨hs,hd⟩
 left;refine⟨by unfold vQ;rw[zC c0,zC c1,zC c2,zC c3],?_⟩;unfold Lib.decodeN;rw[zC c0];by_cases d1:b0 / 32=6∧(1<n∧b1 / 64=2)
 ·rw[zF d1,zC (by omega)]
 rw[zC d1,zC (by omega)];by_cases d3:b0 / 8=30∧(1<n∧b1 / 64=2)∧(2<n∧b2 / 64=2)∧(3<n∧b3 / 64=2)
 ·rw[zF d3,zC (by omega)]
 rw[zC d3]
theorem C6u (l:List UInt8)(hne:l≠[]):Lib.validD l=if vQ l.length (l.getD 0 0).toNat (l.getD 1 0).toNat (l.getD 2 0).toNat (l.getD 3 0).toNat=0 then false else Lib.validD (l.drop (vQ l.length (l.getD 0 0).toNat (l.getD 1 0).toNat (l.getD 2 0).toNat (l.getD 3 0).toNat)):=by
 rw[Lib.validD_step l hne,Lib.decodeL_N];rcases D5v l.length (l.getD 0 0).toNat (l.getD 1 0).toNat (l.getD 2 0).toNat (l.getD 3 0).toNat (l.getD 0 0).toNat_lt (l.getD 1 0).toNat_lt (l.getD 2 0).toNat_lt (l.getD 3 0).toNat_lt with⟨h1,h2⟩|⟨h1,r,h2,h3⟩
 ·rw[h1,h2];simp
 rw[zC h1,h2,zC h3]
end L
end Go.Proofs.YthcomdofaaeihaaGreatDoor
