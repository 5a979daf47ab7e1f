import Derived.Test.YtelmjekjohbmjaaGreatDoorY29
namespace Go.Proofs.YtelmjekjohbmjaaGreatDoor
namespace L
open Go.RowKit
set_option linter.unusedVariables false
structure KP {α α':Type}(E:EK α') (P:World→Addr→α→Prop) (er : α'→α) (T:World→α'→Prop):Prop where
 inn:∀ w b o a,P w ⟨b,o,none⟩ a→∃ a',er a'=a∧T w a'∧∀ j u,(E.enc a')[j]?=some u→w.cell? ⟨b,o+j,none⟩=some u
 out:∀ w w' g i a',T w a'→Sub w w'→(∀ j u,(E.enc a')[j]?=some u→w'.cell? ⟨g,i+j,none⟩=some u)→P w' ⟨g,i,none⟩ (er a')
 plain:A5f P
section
variable {α α':Type}{E:EK α'}{P:World→Addr→α→Prop}{er : α'→α}{T:World→α'→Prop}
theorem A7f {α α':Type}{er : α'→α}:∀ (l:List α) (Q:Nat→α'→Prop),(∀ k a,l[k]?=some a→∃ a',er a'=a∧Q k a')→∃ l':List α',l'.map er=l∧∀ k a',l'[k]?=some a'→Q k a'
 | [],_,_=>⟨[],rfl,fun k a' h=>by simp at h⟩
 | a::l,Q,h=>by
  obtain⟨b,hb,hq⟩:=h 0 a rfl
  obtain⟨l',hl,hq'⟩:=A7f l (fun k=>Q (k+1)) fun k c hc=>h (k+1) c (by simpa using hc)
  refine⟨b::l',by rw[List.map_cons,hb,hl],fun k a' ha=>?_⟩
  cases k with
  | zero=>simp at ha;subst ha;exact hq
  | succ k=>exact hq' k a' (by simpa using ha)
theorem KP.src (K:KP E P er T){w:World}{ao:Option Addr}{n cap:Nat}{l:List α}(h:RdL E.size P w (.slice ao n cap) l):∃ l',l'.map er=l∧(∀ a'∈l',T w a')∧Src E w ao n cap l':=by
 have hlen:n=l.length:=h.len.1
 cases l with
 | nil=>
  obtain⟨ao',n',cap',e,h1,_,_,h4,_⟩:=h
  cases e
  exact⟨[],rfl,fun a' h=>by simp at h,h1,h4,fun ad _ k y hy=>by simp at hy⟩
 | cons a0 l0=>
  obtain⟨b,off,rfl,_⟩:=h.get K.plain (k:=0) (a:=a0) rfl
  obtain⟨l',h1,h2⟩:=A7f (er:=er) (a0::l0) (fun k a'=>T w a'∧∀ j u,(E.enc a')[j]?=some u→w.cell? ⟨b,off+k*E.size+j,none⟩=some u) (fun k a ha=>by
   obtain⟨b',off',e,hp⟩:=h.get K.plain ha
   cases e
   obtain⟨a',g1,g2,g3⟩:=K.inn w b (off+k*E.size) a hp
   exact⟨a',g1,g2,g3⟩)
  refine⟨l',h1,fun a' ha=>?_,?_,(fun e=>by cases e),fun ad had k y hy j u hu=>?_⟩
  ·obtain⟨k,hk⟩:=List.getElem?_of_mem ha
   exact(h2 k a' hk).1
  ·rw[hlen,←h1,List.length_map]
  ·cases had
   have:=(h2 k y hy).2 j u hu
   rw[A0j,←Nat.add_assoc]
   exact this
theorem KP.rd (K:KP E P er T){w w':World}{base:Nat}{v:Value}{l:List α'}(h:Row E w' base v l) (hT:∀ a'∈l,T w a') (hb:Sub w w'):RdL E.size P w' v (l.map er):=
 RdL.mapB er (h.rd (fun w (x:Addr) (a' : α')=>∃ g i,x=⟨g,i,none⟩∧∀ j u,(E.enc a')[j]?=some u→w.cell? ⟨g,i+j,none⟩=some u) fun g i a hc=>⟨g,i,rfl,hc⟩) fun x a' ha ⟨g,i,e,hc⟩=>by
  rw[e];exact K.out w w' g i a' (hT a' ha) hb hc
end
theorem Src.sub {α:Type}{E:EK α}{w w':World}{ao:Option Addr}{n cap:Nat}{l:List α}(h:Src E w ao n cap l) (hb:Sub w w'):Src E w' ao n cap l:=⟨h.1,h.2.1,fun ad had k y hy j u hu=>hb _ _ (h.2.2 ad had k y hy j u hu)⟩
theorem Src.below {α:Type}{E:EK α}{w w':World}{ao:Option Addr}{n cap:Nat}{l:List α}(h:Src E w ao n cap l) (hb:Below w.heap.size w w'):Src E w' ao n cap l:=⟨h.1,h.2.1,fun ad had k y hy j u hu=>A0c hb (h.2.2 ad had k y hy j u hu)⟩
theorem kpU:KP ekU UAt id fun _ _=>True where
 inn:=fun w b o a h=>⟨a,rfl,trivial,fun j u hu=>by
  cases j with
  | succ j=>simp[ekU,C1w] at hu
  | zero=>simp[ekU,C1w] at hu;subst hu;exact h⟩
 out:=fun w w' g i a' _ _ hc=>by have:=hc 0 _ rfl;simpa [UAt] using this
 plain:=UAt.plain
theorem kpZ:KP ekZ ZAt Prod.fst fun w (z:List UInt8×PV)=>RdL 1 YAt w z.2.v z.1 where
 inn:=fun w b o a ⟨v,h1,h2⟩=>by
  obtain⟨ao,n,cap,rfl,_,_⟩:=h2.shape
  refine⟨(a,(ao,n,cap)),rfl,h2,fun j u hu=>?_⟩
  cases j with
  | succ j=>simp[ekZ,C1x] at hu
  | zero=>simp[ekZ,C1x] at hu;subst hu;exact h1
 out:=fun w w' g i a' ht hb hc=>⟨a'.2.v,by simpa using hc 0 _ rfl,ht.sub YAt.grows hb⟩
 plain:=ZAt.plain
theorem kpR:KP ekR RAt Prod.fst fun w (r:RI×PV)=>RdL 1 YAt w r.2.v r.1.bytes where
 inn:=fun w b o a h=>by
  obtain⟨v,h0,h1,h2,h3,h4⟩:=h.at
  obtain⟨ao,n,cap,rfl,_,_⟩:=h4.shape
  refine⟨(a,(ao,n,cap)),rfl,h4,fun j u hu=>?_⟩
  match j,hu with
  | 0,hu=>simp[ekR,C0i] at hu;subst hu;exact h0
  | 1,hu=>simp[ekR,C0i] at hu;subst hu;exact h1
  | 2,hu=>simp[ekR,C0i] at hu;subst hu;exact h2
  | 3,hu=>simp[ekR,C0i] at hu;subst hu;exact h3
  | j+4,hu=>simp[ekR,C0i] at hu
 out:=fun w w' g i a' ht hb hc=>by
  refine⟨a'.2.v,by simpa using hc 0 _ rfl,?_,?_,?_,ht.sub YAt.grows hb⟩ <;> rw[A0j]
  ·exact hc 1 _ rfl
  ·exact hc 2 _ rfl
  ·exact hc 3 _ rfl
 plain:=RAt.plain
abbrev QB (d:Nat):=BI d×PV×PV
def B5n {d:Nat}(q:QB d):List Value:=[q.2.1.v,q.2.2.v]
def A6y (d:Nat):EK (QB d) where
 elem:=29
 slice:=32
 size:=2
 bytes:=48
 zero:=.agg #[.slice none 0 0,.slice none 0 0]
 enc:=B5n
 under:=Tryz.underlying32
 info:=by kernel_rfl
 zs:=rfl
 pos:=by decide
 small:=by decide
 len:=fun _=>rfl
 one:=by intro a u hu;simp only[B5n,List.mem_cons,List.mem_nil_iff,or_false] at hu;rcases hu with rfl|rfl <;> rfl
def C2l (d:Nat) (w:World) (q:QB d):Prop:=∀ w' g i,Sub w w'→w'.cell? ⟨g,i,none⟩=some q.2.1.v→w'.cell? ⟨g,i+1,none⟩=some q.2.2.v→BAt d w' ⟨g,i,none⟩ q.1
theorem kpB:∀ d:Nat,KP (A6y d) (BAt d) Prod.fst (C2l d)
 | 0=>⟨fun _ _ _ _ h=>h.elim,fun w w' g i a' ht hb hc=>ht w' g i hb (by simpa using hc 0 _ rfl) (hc 1 _ rfl),BAt.plain 0⟩
 | d+1=>⟨fun w b o a h=>by
   obtain⟨v0,v1,h0,h1,hr⟩:=h.at
   obtain⟨a0,n0,c0,rfl,_,_⟩:=hr.1.shape
   obtain⟨a1,n1,c1,rfl,_,_⟩:=hr.2.shape
   refine⟨(a,(a0,n0,c0),(a1,n1,c1)),rfl,fun w' g i hb g0 g1=>⟨_,_,g0,by rw[A0j];exact g1,(hr.sub hb).1,(hr.sub hb).2⟩,fun j u hu=>?_⟩
   match j,hu with
   | 0,hu=>simp[A6y,B5n] at hu;subst hu;exact h0
   | 1,hu=>simp[A6y,B5n] at hu;subst hu;exact h1
   | j+2,hu=>simp[A6y,B5n] at hu,
  fun w w' g i a' ht hb hc=>ht w' g i hb (by simpa using hc 0 _ rfl) (hc 1 _ rfl),BAt.plain _⟩
theorem Row.empT {α:Type}(E:EK α){w:World}{base g:Nat}(hb:base≤g) (h:w.heap[g]?=some (.cells #[] E.elem (0,0))):Row E w base (.slice (some ⟨g,0,none⟩) 0 0) []:=
 ⟨by simp[EK.flat],.inr ⟨g,0,#[],rfl,hb,h,Nat.le_refl _,by unfold maxLen;omega,by simp,by simp[EK.flat]⟩⟩
end L
end Go.Proofs.YtelmjekjohbmjaaGreatDoor
