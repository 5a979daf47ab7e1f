import Derived.Test.YtgaoojpakjjdnaaGreatDoorV45
import Derived.Test.YtgaoojpakjjdnaaGreatDoorV35
import Derived.Test.YtgaoojpakjjdnaaGreatDoorV19
import Derived.Lib.ConvBytes
set_option maxHeartbeats 32000000
set_option maxRecDepth 100000
namespace Go.Proofs.YtgaoojpakjjdnaaGreatDoor
namespace L
open Go.RowKit
set_option linter.unusedVariables false
def A9j:MI:=A2b.msgs.headD ⟨[],[],[]⟩
def A2f:List FI:=A9j.fields
def uF (n:Int):FI:=(A2f.find? (isF n)).getD ⟨[],0,0,[],false,0⟩
def C3u:BI 11:=(⟨[],[]⟩:BO (BI 10))
def uv1 (nm:List UInt8):List (VI (BI 11)):=if nm = [] then [] else [⟨1,[],[nm],[]⟩]
def uv2 (s:Nat):List (VI (BI 11)):=if s=0 then [] else [⟨2,[s],[],[]⟩]
def uv3 (r:Nat):List (VI (BI 11)):=if r=0 then [] else [⟨3,[r],[],[]⟩]
def uv4 (k:Nat):List (VI (BI 11)):=if k=0 then [] else [⟨4,[],[],List.replicate k C3u⟩]
def uv5 (ky:List UInt8):VI (BI 11):=⟨5,[],[ky],[]⟩
def uv6:VI (BI 11):=⟨6,[1],[],[]⟩
def B3b (nm:List UInt8) (s r k:Nat):List (VI (BI 11)):=uv1 nm++uv2 s++uv3 r++uv4 k
def A4x (nm:List UInt8) (s r k:Nat) (ky:List UInt8) (op:Bool):BO (BI 11):=⟨B3b nm s r k++[if op then uv6 else uv5 ky],[]⟩
theorem C6k {β:Type}{fs:List FI}{x:FI}{l p:List (VI β)}{y:VI β}(hp:l.filter (fun a=>!A0n fs x a.number)=p) (hn:∀ a∈p,¬ y.number < a.number):A3h fs x l y=if A0p x y then p else p++[y]:=by
 have hpl:A0y y.number p=p.length:=by
  unfold A0y
  rw[List.findIdx?_eq_none_iff.2 (fun a ha=>by simpa using hn a ha)]
  rfl
 unfold A3h
 rw[hp,hpl,List.take_length,List.drop_length,List.append_nil]
theorem B1m {β:Type}{fs:List FI}{x:FI}{l:List (VI β)}{y:VI β}(ho:∀ a∈l,A0n fs x a.number=false) (hn:∀ a∈l,¬ y.number < a.number):A3h fs x l y=if A0p x y then l else l++[y]:=
 C6k (List.filter_eq_self.2 fun a ha=>by rw[ho a ha];rfl) hn
theorem B9b {nm:List UInt8}{a:VI (BI 11)}(h:a∈uv1 nm):a.number=1:=by
 unfold uv1 at h
 split at h
 ·cases h
 ·rw[List.mem_singleton.1 h]
theorem C8b {s:Nat}{a:VI (BI 11)}(h:a∈uv2 s):a.number=2:=by
 unfold uv2 at h
 split at h
 ·cases h
 ·rw[List.mem_singleton.1 h]
theorem D5r {s:Nat}{a:VI (BI 11)}(h:a∈uv3 s):a.number=3:=by
 unfold uv3 at h
 split at h
 ·cases h
 ·rw[List.mem_singleton.1 h]
theorem D5s {s:Nat}{a:VI (BI 11)}(h:a∈uv4 s):a.number=4:=by
 unfold uv4 at h
 split at h
 ·cases h
 ·rw[List.mem_singleton.1 h]
theorem D3s (nm:List UInt8):A3h A2f (uF 1) [] (⟨1,[],[nm],[]⟩:VI (BI 11))=uv1 nm:=by
 rw[B1m (fun a h=>by cases h) (fun a h=>by cases h)]
 unfold uv1
 by_cases h:nm = []
 ·subst h
  rfl
 ·rw[if_neg h,if_neg]
  ·rfl
  ·show ¬ (decide (([]:List Nat) = [0])||decide ([nm] = [[]]))=true
   simp[h]
theorem D3v (nm:List UInt8) (s:Nat):A3h A2f (uF 2) (uv1 nm) (⟨2,[s],[],[]⟩:VI (BI 11))=uv1 nm++uv2 s:=by
 rw[B1m (fun a h=>by rw[B9b h];rfl) (fun a h=>by have:=B9b h;show ¬ (2:Int) < a.number;omega)]
 unfold uv2
 by_cases h:s=0
 ·subst h
  rw[if_pos (by rfl),if_pos rfl,List.append_nil]
 ·rw[if_neg h,if_neg]
  show ¬ (decide ([s] = [0])||decide (([]:List (List UInt8)) = [[]]))=true
  simp[h]
theorem C6l (nm:List UInt8) (s r:Nat):A3h A2f (uF 3) (uv1 nm++uv2 s) (⟨3,[r],[],[]⟩:VI (BI 11))=uv1 nm++uv2 s++uv3 r:=by
 rw[B1m (fun a h=>by rcases List.mem_append.1 h with h|h <;> first|(rw[B9b h];rfl)|(rw[C8b h];rfl)) (fun a h=>by rcases List.mem_append.1 h with h|h <;> first|(have:=B9b h;show ¬ (3:Int) < a.number;omega)|(have:=C8b h;show ¬ (3:Int) < a.number;omega))]
 unfold uv3
 by_cases h:r=0
 ·subst h
  rw[if_pos (by rfl),if_pos rfl,List.append_nil]
 ·rw[if_neg h,if_neg]
  show ¬ (decide ([r] = [0])||decide (([]:List (List UInt8)) = [[]]))=true
  simp[h]
theorem D6c {nm:List UInt8}{s r:Nat}{a:VI (BI 11)}(h:a∈uv1 nm++uv2 s++uv3 r):a.number=1∨a.number=2∨a.number=3:=by
 rcases List.mem_append.1 h with h|h
 ·rcases List.mem_append.1 h with h|h
  ·exact .inl (B9b h)
  ·exact .inr (.inl (C8b h))
 ·exact .inr (.inr (D5r h))
theorem D0u (nm:List UInt8) (s r k:Nat) (hk:k≠0):A3h A2f (uF 4) (uv1 nm++uv2 s++uv3 r) (⟨4,[],[],List.replicate k C3u⟩:VI (BI 11))=B3b nm s r k:=by
 rw[B1m (fun a h=>by rcases D6c h with h|h|h <;> rw[h] <;> rfl) (fun a h=>by have:=D6c h;show ¬ (4:Int) < a.number;omega)]
 unfold B3b uv4
 rw[if_neg hk,if_neg (by show ¬ false=true;decide)]
theorem D5o (nm:List UInt8) (s r:Nat):uv1 nm++uv2 s++uv3 r=B3b nm s r 0:=by unfold B3b uv4;rw[if_pos rfl,List.append_nil]
theorem D0s {nm:List UInt8}{s r k:Nat}{a:VI (BI 11)}(h:a∈B3b nm s r k):a.number=1∨a.number=2∨a.number=3∨a.number=4:=by
 rcases List.mem_append.1 h with h|h
 ·rcases D6c h with h|h|h
  ·exact .inl h
  ·exact .inr (.inl h)
  ·exact .inr (.inr (.inl h))
 ·exact .inr (.inr (.inr (D5s h)))
theorem D0t (nm:List UInt8) (s r k:Nat) (ky:List UInt8):A3h A2f (uF 5) (B3b nm s r k) (uv5 ky)=(A4x nm s r k ky false).vals:=by
 rw[B1m (fun a h=>by rcases D0s h with h|h|h|h <;> rw[h] <;> rfl) (fun a h=>by have:=D0s h;show ¬ (5:Int) < a.number;omega)]
 rw[if_neg (by show ¬ false=true;decide)]
 rfl
theorem D3u (nm:List UInt8) (s r k:Nat) (ky:List UInt8):A3h A2f (uF 6) (A4x nm s r k ky false).vals uv6=(A4x nm s r k ky true).vals:=by
 have hf:((A4x nm s r k ky false).vals).filter (fun a=>!A0n A2f (uF 6) a.number)=B3b nm s r k:=by
  show(B3b nm s r k++[uv5 ky]).filter _=_
  rw[List.filter_append,List.filter_eq_self.2 (fun a h=>by rcases D0s h with h|h|h|h <;> rw[h] <;> rfl)]
  rw[show [uv5 ky].filter (fun a=>!A0n A2f (uF 6) a.number) = [] from rfl,List.append_nil]
 rw[C6k hf (fun a h=>by have:=D0s h;show ¬ (6:Int) < a.number;omega),if_neg (by show ¬ false=true;decide)]
 rfl
theorem D6s (n:Int) (h1:1≤n) (h6:n≤6):A2f.find? (isF n)=some (uF n):=by
 rcases (by omega:n=1∨n=2∨n=3∨n=4∨n=5∨n=6) with rfl|rfl|rfl|rfl|rfl|rfl <;> rfl
structure UsrOk (nm:List UInt8) (s r k:Nat) (ky:List UInt8):Prop where
 nm1:nm.length≤100
 nm2:Lib.validD nm=true
 s1:s < 18446744073709551616
 r1:r < 18446744073709551616
 r2:A5z r=true
 k1:k≤20
 ky1:ky.length≤100
theorem B5e {nm:List UInt8}{s r k:Nat}{ky:List UInt8}{op:Bool}{v:VI (BI 11)}(h:v∈(A4x nm s r k ky op).vals):(v=⟨1,[],[nm],[]⟩∧nm≠[])∨(v=⟨2,[s],[],[]⟩∧s≠0)∨(v=⟨3,[r],[],[]⟩∧r≠0)∨(v=⟨4,[],[],List.replicate k C3u⟩∧k≠0)∨(v=uv5 ky∧op=false)∨(v=uv6∧op=true):=by
 rcases List.mem_append.1 h with h|h
 ·rcases List.mem_append.1 h with h|h
  ·rcases List.mem_append.1 h with h|h
   ·rcases List.mem_append.1 h with h|h
    ·unfold uv1 at h
     split at h
     ·cases h
     ·exact .inl ⟨List.mem_singleton.1 h,by assumption⟩
    ·unfold uv2 at h
     split at h
     ·cases h
     ·exact .inr (.inl ⟨List.mem_singleton.1 h,by assumption⟩)
   ·unfold uv3 at h
    split at h
    ·cases h
    ·exact .inr (.inr (.inl ⟨List.mem_singleton.1 h,by assumption⟩))
  ·unfold uv4 at h
   split at h
   ·cases h
   ·exact .inr (.inr (.inr (.inl ⟨List.mem_singleton.1 h,by assumption⟩)))
 ·have h:=List.mem_singleton.1 h
  cases op with
  | true=>exact .inr (.inr (.inr (.inr (.inr ⟨h,rfl⟩))))
  | false=>exact .inr (.inr (.inr (.inr (.inl ⟨h,rfl⟩))))
theorem D5q {nm:List UInt8}{s r k:Nat}{ky:List UInt8}(hu:UsrOk nm s r k ky){op:Bool}{f:List UInt8→BI 11→Int}(hf:f [85,115,101,114] C3u=0){v:VI (BI 11)}(h:v∈(A4x nm s r k ky op).vals):∃ x,RtV A2f f x v:=by
 rcases B5e h with⟨rfl,h0⟩|⟨rfl,h0⟩|⟨rfl,h0⟩|⟨rfl,h0⟩|⟨rfl,_⟩|⟨rfl,_⟩
 ·refine⟨uF 1,rfl,rfl,rfl,?_,fun n hn=>(List.not_mem_nil hn).elim,fun l hl=>?_,fun s hs=>(List.not_mem_nil hs).elim⟩
  ·show(decide (([]:List Nat) = [0])||decide ([nm] = [[]]))=false
   simp[h0]
  ·rw[List.mem_singleton.1 hl]
   have:=hu.nm1
   show(if 4000 < nm.length then(4:Int) else if (8:Int)=8∧Lib.validD nm=false then 9 else 0)=0
   rw[if_neg (by omega),if_neg (by rw[hu.nm2];simp)]
 ·refine⟨uF 2,rfl,rfl,rfl,?_,fun n hn=>rfl,fun l hl=>(List.not_mem_nil hl).elim,fun s hs=>(List.not_mem_nil hs).elim⟩
  show(decide ([s] = [0])||decide (([]:List (List UInt8)) = [[]]))=false
  simp[h0]
 ·refine⟨uF 3,rfl,rfl,rfl,?_,fun n hn=>?_,fun l hl=>(List.not_mem_nil hl).elim,fun s hs=>(List.not_mem_nil hs).elim⟩
  ·show(decide ([r] = [0])||decide (([]:List (List UInt8)) = [[]]))=false
   simp[h0]
  ·rw[List.mem_singleton.1 hn]
   show(if A5z r then(0:Int) else 3)=0
   rw[hu.r2]
   rfl
 ·have hk:=hu.k1
  have hm:A1h (⟨4,[],[],List.replicate k C3u⟩:VI (BI 11))=k:=by
   show 0+0+(List.replicate k _).length=k
   rw[List.length_replicate]
   omega
  refine⟨uF 4,rfl,rfl,?_,rfl,fun n hn=>(List.not_mem_nil hn).elim,fun l hl=>(List.not_mem_nil hl).elim,fun s hs=>?_⟩
  ·unfold A5f
   rw[hm]
   have h1:¬ k < 1:=by omega
   have h2:¬ 60 < k:=by omega
   rw[decide_eq_false h1,decide_eq_false h2]
   show(false||(false||(decide (1 < k)&&!true)))=false
   rw[Bool.not_true,Bool.and_false]
   rfl
  ·rw[List.eq_of_mem_replicate hs]
   exact hf
 ·refine⟨uF 5,rfl,rfl,rfl,rfl,fun n hn=>(List.not_mem_nil hn).elim,fun l hl=>?_,fun s hs=>(List.not_mem_nil hs).elim⟩
  rw[List.mem_singleton.1 hl]
  have:=hu.ky1
  show(if 4000 < ky.length then(4:Int) else if (9:Int)=8∧Lib.validD ky=false then 9 else 0)=0
  rw[if_neg (by omega),if_neg (by simp)]
 ·exact⟨uF 6,rfl,rfl,rfl,rfl,fun n hn=>by rw[List.mem_singleton.1 hn];rfl,fun l hl=>(List.not_mem_nil hl).elim,fun s hs=>(List.not_mem_nil hs).elim⟩
theorem C7z {nm:List UInt8}{s r k:Nat}{ky:List UInt8}{op:Bool}{v:VI (BI 11)}(h:v∈(A4x nm s r k ky op).vals):1≤v.number∧v.number≤6:=by
 rcases List.mem_append.1 h with h|h
 ·have h4:v.number=1∨v.number=2∨v.number=3∨v.number=4:=D0s (nm:=nm) (s:=s) (r:=r) (k:=k) h
  omega
 ·rw[List.mem_singleton.1 h]
  cases op with
  | true=>exact⟨show(1:Int)≤6 by decide,show(6:Int)≤6 by decide⟩
  | false=>exact⟨show(1:Int)≤5 by decide,show(5:Int)≤6 by decide⟩
theorem D1p (nm:List UInt8) (s r k:Nat) (ky:List UInt8) (op:Bool):(A4x nm s r k ky op).vals.Pairwise fun a b=>a.number < b.number:=by
 have one:∀ {p:Prop} [Decidable p] {a:VI (BI 11)},(if p then [] else [a]).Pairwise fun a b:VI (BI 11)=>a.number < b.number:=fun {p _ a}=>by split <;> simp
 show(B3b nm s r k++[if op then uv6 else uv5 ky]).Pairwise _
 unfold B3b
 refine List.pairwise_append.2 ⟨List.pairwise_append.2 ⟨List.pairwise_append.2 ⟨List.pairwise_append.2 ⟨one,one,fun a ha b hb=>?_⟩,one,fun a ha b hb=>?_⟩,one,fun a ha b hb=>?_⟩,by simp,fun a ha b hb=>?_⟩
 ·rw[B9b ha,C8b hb];decide
 ·rw[D5r hb]
  rcases List.mem_append.1 ha with h|h
  ·rw[B9b h];decide
  ·rw[C8b h];decide
 ·rw[D5s hb]
  have:=D6c ha
  omega
 ·have h4:a.number=1∨a.number=2∨a.number=3∨a.number=4:=D0s (nm:=nm) (s:=s) (r:=r) (k:=k) ha
  rw[List.mem_singleton.1 hb]
  cases op with
  | true=>show a.number < 6;omega
  | false=>show a.number < 5;omega
theorem C7y (nm:List UInt8) (s r k:Nat) (ky:List UInt8) (op:Bool):D2u A2f (A4x nm s r k ky op).vals:=by
 intro a ha b hb hne hc
 have key:∀ v∈(A4x nm s r k ky op).vals,A1b A2f v.number=0∨v.number=if op then 6 else 5:=fun v hv=>by
  rcases B5e hv with⟨rfl,_⟩|⟨rfl,_⟩|⟨rfl,_⟩|⟨rfl,_⟩|⟨rfl,h⟩|⟨rfl,h⟩
  ·exact .inl rfl
  ·exact .inl rfl
  ·exact .inl rfl
  ·exact .inl rfl
  ·rw[h];exact .inr rfl
  ·rw[h];exact .inr rfl
 rcases key a ha with h1|h1
 ·rw[h1] at hc
  exact absurd hc (by decide)
 ·rcases key b hb with h2|h2
  ·rw[h2]
   omega
  ·exact absurd (h1.trans h2.symm) hne
theorem B5c:(wrongL A2b).1=0:=by decide +kernel
theorem B1v:A2b.msgs[0]?=some A9j:=rfl
theorem C8a {nm:List UInt8}{s r k:Nat}{ky:List UInt8}(hu:UsrOk nm s r k ky) (op:Bool):A3n A2b 12 1 A9j.fields (A4x nm s r k ky op)=0:=by
 refine C8z (d:=11) (b:=A4x nm s r k ky op) (by decide) (fun v hv=>D5q hu (by decide +kernel) hv) (D1p nm s r k ky op) (fun v hv=>?_) (C7y nm s r k ky op) (fun r hr=>(List.not_mem_nil hr).elim)
 have:=C7z hv
 omega
theorem A9k {nm:List UInt8}{s r k:Nat}{ky:List UInt8}(hu:UsrOk nm s r k ky) (op:Bool):BOk 12 (A4x nm s r k ky op):=by
 have hR:reachBytes=140737488351232:=rfl
 have hl:(A4x nm s r k ky op).vals.length≤5:=by
  have one:∀ {p:Prop} [Decidable p] {a:VI (BI 11)},(if p then [] else [a]).length≤1:=fun {p _ a}=>by split <;> simp
  have h1:(uv1 nm).length≤1:=one
  have h2:(uv2 s).length≤1:=one
  have h3:(uv3 r).length≤1:=one
  have h4:(uv4 k).length≤1:=one
  show(B3b nm s r k++[if op then uv6 else uv5 ky]).length≤5
  unfold B3b
  simp only[List.length_append,List.length_singleton]
  omega
 refine⟨fun v hv=>?_,by rw[hR];omega,fun r hr=>(List.not_mem_nil hr).elim,by show 0*48≤_;omega⟩
 obtain⟨n1,n2⟩:=C7z hv
 refine⟨⟨by omega,by omega⟩,?_⟩
 rcases B5e hv with⟨rfl,_⟩|⟨rfl,_⟩|⟨rfl,_⟩|⟨rfl,_⟩|⟨rfl,_⟩|⟨rfl,_⟩
 ·refine⟨fun n hn=>(List.not_mem_nil hn).elim,by show 0*_≤_;omega,fun l hl=>?_,by show 1*24≤_;omega,fun s hs=>(List.not_mem_nil hs).elim,by show 0*_≤_;omega⟩
  rw[List.mem_singleton.1 hl]
  have:=hu.nm1
  omega
 ·refine⟨fun n hn=>?_,by show 1*8≤_;omega,fun l hl=>(List.not_mem_nil hl).elim,by show 0*_≤_;omega,fun s hs=>(List.not_mem_nil hs).elim,by show 0*_≤_;omega⟩
  rw[List.mem_singleton.1 hn]
  exact hu.s1
 ·refine⟨fun n hn=>?_,by show 1*8≤_;omega,fun l hl=>(List.not_mem_nil hl).elim,by show 0*_≤_;omega,fun s hs=>(List.not_mem_nil hs).elim,by show 0*_≤_;omega⟩
  rw[List.mem_singleton.1 hn]
  exact hu.r1
 ·have:=hu.k1
  refine⟨fun n hn=>(List.not_mem_nil hn).elim,by show 0*_≤_;omega,fun l hl=>(List.not_mem_nil hl).elim,by show 0*_≤_;omega,fun s hs=>?_,by show(List.replicate k _).length*48≤_;rw[List.length_replicate];omega⟩
  rw[List.eq_of_mem_replicate hs]
  exact⟨fun v hv=>(List.not_mem_nil hv).elim,by show 0*_≤_;omega,fun r hr=>(List.not_mem_nil hr).elim,by show 0*_≤_;omega⟩
 ·refine⟨fun n hn=>(List.not_mem_nil hn).elim,by show 0*_≤_;omega,fun l hl=>?_,by show 1*24≤_;omega,fun s hs=>(List.not_mem_nil hs).elim,by show 0*_≤_;omega⟩
  rw[List.mem_singleton.1 hl]
  have:=hu.ky1
  omega
 ·refine⟨fun n hn=>?_,by show 1*8≤_;omega,fun l hl=>(List.not_mem_nil hl).elim,by show 0*_≤_;omega,fun s hs=>(List.not_mem_nil hs).elim,by show 0*_≤_;omega⟩
  rw[List.mem_singleton.1 hn]
  decide
theorem C6m:∀ l:List RI,(C0f l).length≤(l.map fun r=>20+r.bytes.length).sum
 | []=>Nat.le_refl _
 | r::l=>by
  have e:C0f (r::l)=recN r.number r.how r.bits r.bytes++C0f l:=rfl
  rw[e,List.length_append,List.map_cons,List.sum_cons]
  exact Nat.add_le_add (B4u _ _ _ _) (C6m l)
theorem A9i {α:Type}(f : α→Nat) (c:Nat):∀ l:List α,(∀ a∈l,f a≤c)→(l.map f).sum≤l.length*c
 | [],_=>by simp
 | a::l,h=>by
  rw[List.map_cons,List.sum_cons,List.length_cons,Nat.succ_mul]
  have h1:=h a (List.mem_cons_self ..)
  have h2:=A9i f c l fun b hb=>h b (List.mem_cons_of_mem _ hb)
  omega
theorem D1o {nm:List UInt8}{s r k:Nat}{ky:List UInt8}(hu:UsrOk nm s r k ky){op:Bool}{deep:List UInt8→BI 11→List UInt8}(hd:deep [85,115,101,114] C3u = []){v:VI (BI 11)}(h:v∈(A4x nm s r k ky op).vals):((A9x deep (A0q A2f v.number) v).map fun r=>20+r.bytes.length).sum≤400:=by
 rcases B5e h with⟨rfl,_⟩|⟨rfl,_⟩|⟨rfl,_⟩|⟨rfl,_⟩|⟨rfl,_⟩|⟨rfl,_⟩
 ·have:=hu.nm1
  show(20+nm.length)+0≤400
  omega
 ·show(20+0)+0≤400
  omega
 ·show(20+0)+0≤400
  omega
 ·have:=hu.k1
  show(((List.replicate k C3u).map fun s=>B0h 4 (deep [85,115,101,114] s)).map fun r=>20+r.bytes.length).sum≤400
  refine Nat.le_trans (A9i _ 20 _ fun r hr=>?_) (by rw[List.length_map,List.length_replicate];omega)
  obtain⟨b,hb,rfl⟩:=List.mem_map.1 hr
  rw[List.eq_of_mem_replicate hb,hd]
  exact Nat.le_refl _
 ·have:=hu.ky1
  show(20+ky.length)+0≤400
  omega
 ·show(20+0)+0≤400
  omega
theorem C0r {α:Type}(f:RI→Nat) (g : α→List RI):∀ l:List α,((l.flatMap g).map f).sum=(l.map fun a=>((g a).map f).sum).sum
 | []=>rfl
 | a::l=>by
  rw[List.flatMap_cons,List.map_append,List.sum_append,C0r f g l,List.map_cons,List.sum_cons]
theorem B9a (nm:List UInt8) (s r k:Nat) (ky:List UInt8) (op:Bool):(A4x nm s r k ky op).vals.length≤5:=by
 have one:∀ {p:Prop} [Decidable p] {a:VI (BI 11)},(if p then [] else [a]).length≤1:=fun {p _ a}=>by split <;> simp
 have h1:(uv1 nm).length≤1:=one
 have h2:(uv2 s).length≤1:=one
 have h3:(uv3 r).length≤1:=one
 have h4:(uv4 k).length≤1:=one
 show(B3b nm s r k++[if op then uv6 else uv5 ky]).length≤5
 unfold B3b
 simp only[List.length_append,List.length_singleton]
 omega
theorem D4l {nm:List UInt8}{s r k:Nat}{ky:List UInt8}(hu:UsrOk nm s r k ky) (op:Bool):(C1i A2b 11 0 (A4x nm s r k ky op)).2=0∧A6f A2b 0 (C1i A2b 11 0 (A4x nm s r k ky op)).1 = .ok (A4x nm s r k ky op):=by
 have hr:=C8a hu op
 have hw:A2u A2b 11 ((0:Nat):Int) (A4x nm s r k ky op)=0:=(C8m (d:=11) B5c B1v (A4x nm s r k ky op)).trans hr
 have hb:=D3a hw B1v
 have hm:A9j∈A2b.msgs:=List.mem_of_getElem? B1v
 have hl:(A7q A2b 12 A9j (A4x nm s r k ky op)).length≤4000:=by
  have e:A7q A2b 12 A9j (A4x nm s r k ky op)=C0f ((A4x nm s r k ky op).vals.flatMap (fun v=>A9x (fun t x=>A7q A2b 11 (A4i A2b t) x) (A0q A2f v.number) v)++[]):=rfl
  rw[e,List.append_nil]
  refine Nat.le_trans (C6m _) ?_
  rw[C0r]
  refine Nat.le_trans (A9i _ 400 _ fun v hv=>D1o hu (by decide +kernel) hv) ?_
  have:=B9a nm s r k ky op
  omega
 have hwr:=D2t B5c 12 1 A9j (A4x nm s r k ky op) hm hr
 rw[if_pos hl] at hwr
 have h2:(A1q A2b 12 A9j (A4x nm s r k ky op)).2=0:=by rw[hwr]
 have hb':C1i A2b 11 0 (A4x nm s r k ky op)=A1q A2b 12 A9j (A4x nm s r k ky op):=hb
 rw[hb']
 refine⟨h2,?_⟩
 have:=C6g B5c B1v (A1q A2b 12 A9j (A4x nm s r k ky op)).1
 refine this.trans ?_
 exact B7c B5c 12 1 A9j (A4x nm s r k ky op) hm hr (D3w _ _ (A9k hu op)) h2
theorem D4m (ky:List UInt8):(C1i A2b 11 0 (A4x [] 0 0 0 ky true)).1.length=2:=by
 show(C1i A2b 11 0 (⟨[uv6],[]⟩:BO (BI 11))).1.length=2
 decide +kernel
open Go.RowKit
set_option linter.unusedVariables false
structure US (W3:World) (X:Nat) (b:BO (BI 11)) (i0:Option Addr) (j0 l0:Nat) (i1:Option Addr) (j1 l1:Nat) (W:World):Prop where
 cell:W.heap[X]?=some (.cells #[.slice i0 j0 l0,.slice i1 j1 l1] 29 (0,0))
 rd:BRd 11 W (.slice i0 j0 l0) (.slice i1 j1 l1) b
 bel:Below X W3 W
 lt:X < W.heap.size
theorem frX {w:World}{X:Nat}{cs:Array Value}(h:w.heap[X]?=some (.cells cs 29 (0,0))) (v0 v1:Value):FrB [X] w ((w.setCell ⟨X,0,none⟩ v0).setCell ⟨X,1,none⟩ v1):=
 (frD h (by decide)).trans (frD (heap_setCell_same _ _ 0 _ _ v0 h) (by decide)) (fun _ hi=>hi) (fun i hi=>.inl hi)
theorem A6v {w2 W3 W W1:World}{X:Nat}{b:BO (BI 11)}{i0:Option Addr}{j0 l0:Nat}{i1:Option Addr}{j1 l1:Nat}(hU:US W3 X b i0 j0 l0 i1 j1 l1 W) (h1:Below W.heap.size W W1) (hb2:Below w2.heap.size w2 W3) (hX:w2.heap.size≤X){af ab:Option Addr}{nf cf nb cb:Nat}(hf:RdL 6 FAt w2 (.slice af nf cf) A2f) (au:BOk 12 b){y:VI (BI 11)}(aj:1≤y.number) (ak:y.number≤6){b1 b2 b3:Option Addr}{m1 d1 m2 d2 m3 d3:Nat}(r1:RdL 1 UAt W1 (.slice b1 m1 d1) y.bits) (r2:RdL 1 ZAt W1 (.slice b2 m2 d2) y.bytes) (r3:RdL 2 (BAt 11) W1 (.slice b3 m3 d3) y.subs) (hy:VOk (BOk 11) y) (h5:b.vals.length≤5) :
  Calls Tryz.prog 17 #[.agg #[.string (S [85,115,101,114]),.slice af nf cf,.slice ab nb cb],.agg #[.slice i0 j0 l0,.slice i1 j1 l1],.agg #[.int .i64 y.number,.slice b1 m1 d1,.slice b2 m2 d2,.slice b3 m3 d3]] W1 fun e w'=>∃ (p0:Option Addr) (q0 r0:Nat) (p1:Option Addr) (q1 r1:Nat),e = .returned (.agg #[.slice p0 q0 r0,.slice p1 q1 r1])∧w'.heap[X]?=some (.cells #[.slice i0 j0 l0,.slice i1 j1 l1] 29 (0,0))∧US W3 X ⟨A3h A2f (uF y.number) b.vals y,b.unk⟩ p0 q0 r0 p1 q1 r1 ((w'.setCell ⟨X,0,none⟩ (.slice p0 q0 r0)).setCell ⟨X,1,none⟩ (.slice p1 q1 r1)):=by
 have ag:Below w2.heap.size w2 W:=hb2.trans (hU.bel.mono hX)
 have hlt:=hU.lt
 refine(B9k (d:=11) (s:=[85,115,101,114]) (hf.below FAt.stays (ag.trans (h1.mono ag.size))) (fun f hf=>(C0s A9j (List.mem_of_getElem? B1v)).1 f hf) (by decide) (hU.rd.below h1) au (D6s y.number aj ak) r1 r2 r3 hy (by show(b.vals.length+1)*80≤_;omega)).mono ?_
 rintro e w' ⟨c,p0,q0,r0,p1,q1,r1,ac,rfl,hpl,hown,_,hb⟩
 have hx:w'.heap[X]?=some (.cells #[.slice i0 j0 l0,.slice i1 j1 l1] 29 (0,0)):=(hb.block X (by have:=h1.size;omega)).trans ((h1.block X hlt).trans hU.cell)
 refine⟨p0,q0,r0,p1,q1,r1,rfl,hx,?_⟩
 have ah:=frX hx (.slice p0 q0 r0) (.slice p1 q1 r1)
 have ho:=OwnB.fr 12 _ _ _ c hown ah (fun k hk hm=>by
  have h2:=(OwnB.inB 12 hown k hk).1
  rw[List.mem_singleton.1 hm] at h2
  have:=h1.size
  omega)
 have h6:=OwnB.rd (show OwnB W1.heap.size (11+1) _ c from ho)
 have h7 : [PV.v (BL.q0 c),PV.v (BL.q1 c)] = [.slice p0 q0 r0,.slice p1 q1 r1]:=ac
 simp only[List.cons.injEq,and_true] at h7
 rw[h7.1,h7.2,show LB.pl (11+1) c=(⟨A3h A2f (uF y.number) b.vals y,b.unk⟩:BO (BI 11)) from hpl] at h6
 refine⟨heap_setCell_same _ _ 1 _ _ _ (heap_setCell_same _ _ 0 _ _ _ hx),h6,?_,?_⟩
 ·exact KB_set (KB_set (hU.bel.trans ((h1.trans (hb.mono h1.size)).mono (by omega))) (Nat.le_refl _)) (Nat.le_refl _)
 ·have:=h1.size
  have:=hb.size
  simp only[World.size_setCell]
  omega
theorem B3p (l:List UInt8) (W:World):(convert 9 32 (.string (S l))).run Tryz.prog W = .ok (.slice (some ⟨W.heap.size,0,none⟩) (S l).size (grownCap W (S l).size 0 5)) (Lib.bytesWorld W 5 (S l)):=Lib.run_convert_string_bytes W _ _ _ _ Tryz.underlying9 Tryz.underlying32 Tryz.underlying5
theorem B2s (W:World) (l:List UInt8):Below W.heap.size W (Lib.bytesWorld W 5 (S l)):=⟨rfl,rfl,rfl,by rw[Lib.bytesWorld_size];omega,fun k hk=>Lib.bytesWorld_at_old _ _ _ k hk⟩
end L
end Go.Proofs.YtgaoojpakjjdnaaGreatDoor
