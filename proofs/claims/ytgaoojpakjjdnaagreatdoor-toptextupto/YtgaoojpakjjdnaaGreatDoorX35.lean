import Derived.Test.YtgaoojpakjjdnaaGreatDoorX34
set_option maxHeartbeats 32000000
set_option maxRecDepth 100000
set_option linter.unusedVariables false
namespace Go.Proofs.YtgaoojpakjjdnaaGreatDoor
namespace L
theorem B0l {g:GI}{ac:List Int}:∀ (l:List FI) (i:Nat) (s:Mem),(A0j (A1g g ac) A5p i l s).1=0→(l.map FI.number).Pairwise fun a b=>a≠b
 | [],_,_,_=>List.Pairwise.nil
 | x::l,i,s,h=>by
  obtain⟨h1,h2⟩:=A8c h
  rw[List.map_cons,List.pairwise_cons]
  refine⟨fun b hb=>?_,B0l l _ _ h2⟩
  obtain⟨y,hy,rfl⟩:=List.mem_map.1 hb
  intro e
  exact(B2o l _ _ h2 y hy).2.2 (by rw[←e];exact(C2i x.number s.nums).1)
theorem B3g {g:GI}{ac:List Int}:∀ (l:List FI) (i:Nat) (s:Mem),(A0j (A1g g ac) A5p i l s).1=0→∀ y∈l,∃ s,A7m g ac y s=true
 | [],_,_,_,_,hy=>by cases hy
 | x::l,i,s,h,y,hy=>by
  obtain⟨h1,h2⟩:=A8c h
  rcases List.mem_cons.1 hy with rfl|hy
  ·exact⟨s,h1⟩
  ·exact B3g l _ _ h2 y hy
theorem B2z {g:GI}{m:MI}(h:A3j g m=0):m.fields.length≤16∧(A0j (A1g g m.barred) A5p 0 m.fields C7l).1=0:=by
 unfold A3j at h
 split at h
 ·cases h
 ·rename_i h1
  split at h
  ·cases h
  ·exact⟨by omega,h⟩
theorem C8s {α:Type}(p : α→Bool)(l:List α)(h:0≤A0g p l):A0g p l<(l.length:Int):=by
 unfold A0g at h ⊢
 cases hx:l.findIdx? p with
 | none=>rw[hx] at h;simp at h
 | some k=>
  have:=List.findIdx?_eq_some_iff_getElem.1 hx
  obtain⟨h1,_⟩:=this
  simp
  exact h1
theorem C9g (k:Int):A2e k=0∨A2e k=1∨A2e k=2∨A2e k=5:=by
 unfold A2e;split
 ·exact .inr (.inl rfl)
 ·split
  ·exact .inr (.inr (.inr rfl))
  ·split
   ·exact .inr (.inr (.inl rfl))
   ·exact .inl rfl
theorem C7d {g:GI}{ac:List Int}{x:FI}{s:Mem}(h:A7m g ac x s=true)(a:Int)(ha:a<x.number):A3c (A2w g x) a g.msgs.length=0:=by
 simp only[A7m,Bool.and_eq_true,Bool.not_eq_true',Bool.or_eq_false_iff,decide_eq_false_iff_not] at h
 obtain⟨_,h1,_,⟨h3,h4⟩,h5,_⟩:=h
 simp only[C2p,Bool.and_eq_true,decide_eq_true_eq] at h1
 obtain⟨c1,c2,_⟩:=h1
 have hk:A3d x=1∨A3d x=2∨A3d x=3∨A3d x=4:=by
  unfold A3d;split
  ·exact .inr (.inr (.inr rfl))
  ·split
   ·exact .inr (.inr (.inl rfl))
   ·split
    ·exact .inr (.inl rfl)
    ·exact .inl rfl
 have hm:D7e (A2w g x)=false:=by
  unfold D7e A2w A3d
  by_cases k10:x.kind=10
  ·simp[k10,A2e]
  ·by_cases k2:A2e x.kind=2
   ·simp[k10,k2]
   ·by_cases hmy:x.many=true <;> simp[k10,k2,hmy]
 have hn:C1m (A2w g x) g.msgs.length=false:=by
  unfold C1m A2w
  by_cases k10:x.kind=10
  ·have hk4:A3d x=4:=by unfold A3d;rw[if_pos k10]
   simp only[C0g,k10,if_true] at h5
   have h6:0≤D9v g x.type:=by simpa [D9v] using h5
   have h7:D9v g x.type<(g.msgs.length:Int):=C8s _ _ h6
   simp only[hk4,k10,if_true]
   rw[Bool.or_eq_false_iff]
   exact⟨decide_eq_false (by omega),decide_eq_false (by omega)⟩
  ·have hk4:A3d x≠4:=by
    unfold A3d;rw[if_neg k10];split
    ·decide
    ·split <;> decide
   simp only[hk4,k10,if_false]
   simp
 unfold A3c
 rw[hm,hn]
 have e1:(A2w g x).kind=A3d x:=rfl
 have e2:(A2w g x).field=x.kind:=rfl
 have e3:(A2w g x).number=x.number:=rfl
 rw[e1,e2,e3,if_neg (by omega),if_neg (by omega),if_neg (by omega)]
 rfl
theorem B3n {g:GI}{l:List FI}{ac:List Int}(hl:∀ y∈l,∃ s,A7m g ac y s=true):∀ (ns:List Int) (a:Int),(∀ n∈ns,∃ f∈l,f.number=n)→(a::ns).Pairwise (fun x y=>x<y)→A5n g.msgs.length (ns.map fun n=>A2w g (A0h l n)) a=0
 | [],_,_,_=>rfl
 | n::ns,a,hm,hp=>by
  obtain⟨k,_,_,h3,h4⟩:=B1r (hm n (by simp))
  obtain⟨s,hs⟩:=hl _ h4
  rw[List.pairwise_cons] at hp
  have hw:A3c (A2w g (A0h l n)) a g.msgs.length=0:=C7d hs a (by rw[h3];exact hp.1 n (by simp))
  rw[List.map_cons,A5n,hw]
  have e:(A2w g (A0h l n)).number=n:=h3
  rw[e]
  simp only[ne_eq,not_true_eq_false,if_false]
  exact B3n hl ns n (fun y hy=>hm y (List.mem_cons_of_mem _ hy)) hp.2
theorem B9c {m:MI}(h:(m.fields.map FI.number).Pairwise fun a b=>a≠b):(A8l m).Pairwise fun a b=>a<b:=by
 have h1:(A8l m).Pairwise fun a b=>decide (a≤b)=true:=List.pairwise_mergeSort (fun a b c h1 h2=>by simp at *;omega) (fun a b=>by simp;omega) _
 have h2:(A8l m).Pairwise fun a b=>a≠b:=(List.mergeSort_perm (m.fields.map FI.number) _).symm.pairwise h (fun h=>h.symm)
 refine(h1.and h2).imp ?_
 rintro a b ⟨h3,h4⟩
 have h3:=of_decide_eq_true h3
 omega
theorem C6q {g:GI}{m:MI}(h:A3j g m=0):A3y (A4d g m) g.msgs.length=0:=by
 obtain⟨h1,h2⟩:=B2z h
 unfold A3y
 rw[D5i,if_neg (by omega)]
 refine B3n (B3g _ _ _ h2) (A8l m) 0 (fun n hn=>B1w hn) ?_
 rw[List.pairwise_cons]
 refine⟨fun n hn=>?_,B9c (B0l _ _ _ h2)⟩
 obtain⟨f,hf,rfl⟩:=B1w hn
 have:=(B2o _ _ _ h2 f hf).1
 simp only[C2p,Bool.and_eq_true,decide_eq_true_eq] at this
 omega
theorem B3h {n:Nat}:∀ (l:List (List TI)) (i:Nat),(∀ p∈l,A3y p n=0)→A5m n i l=(0,0)
 | [],_,_=>rfl
 | p::l,i,h=>by
  rw[A5m,h p (by simp)]
  simp only[ne_eq,not_true_eq_false,if_false]
  exact B3h l _ fun q hq=>h q (List.mem_cons_of_mem _ hq)
theorem C6c {g:GI}(h:(wrongL g).1=0):A3x (A3s g)=(0,0):=by
 obtain⟨h1,_,h3⟩:=A7s h
 unfold A3x
 rw[C3b,if_neg (by omega)]
 refine B3h _ _ fun p hp=>?_
 unfold A3s at hp
 obtain⟨m,hm,rfl⟩:=List.mem_map.1 hp
 exact C6q (h3 m hm)
def rb (r:RI):List UInt8:=recN r.number r.how r.bits r.bytes
def RRt (r:RI):Prop:=A1c r.number r.how r.bits r.bytes.length=0
theorem D2c:∀ (l:List RI) (acc:List UInt8),(∀ r∈l,RRt r)→A4n acc l=(acc++l.flatMap rb,0)
 | [],acc,_=>by rw[A4n,List.flatMap_nil,List.append_nil]
 | r::l,acc,h=>by
  have h0:A1c r.number r.how r.bits r.bytes.length=0:=h r (by simp)
  rw[A4n,h0,if_neg (by simp),List.flatMap_cons]
  show A4n (acc++rb r) l=_
  rw[D2c l (acc++rb r) (fun x hx=>h x (List.mem_cons_of_mem _ hx)),List.append_assoc]
def B6c {α γ:Type}(h : α→List γ×Int):List γ→List α→List γ×Int
 | acc,[]=>(acc,0)
 | acc,v::r=>if (h v).2≠0 then([],(h v).2) else B6c h (acc++(h v).1) r
theorem C0w {α γ:Type}{h : α→List γ×Int}:∀ (l:List α) (acc:List γ),(∀ v∈l,(h v).2=0)→B6c h acc l=(acc++l.flatMap (fun v=>(h v).1),0)
 | [],acc,_=>by rw[B6c,List.flatMap_nil,List.append_nil]
 | v::l,acc,hl=>by
  rw[B6c,hl v (by simp),if_neg (by simp),List.flatMap_cons,C0w l _ (fun x hx=>hl x (List.mem_cons_of_mem _ hx)),List.append_assoc]
theorem B3b {β:Type}(num:Int)(f : β→List UInt8×Int):∀ (l:List β) (acc:List UInt8),A3t num f acc l=B6c (fun b=>(A2a num [(f b).1],(f b).2)) acc l
 | [],_=>rfl
 | v::l,acc=>by rw[A3t,B6c];split <;> first|rfl|exact B3b num f l _
theorem B9y {β:Type}(g:GI)(fs:List FI)(deep:TI→β→List UInt8×Int):∀ (ns:List Int) (pre rest:List (VI β)) (acc:List UInt8),(∀ n∈ns,(A0h fs n).number=n)→ns.Pairwise (fun a b=>a<b)→(∀ p∈pre,∀ n∈ns,p.number<n)→(∀ v∈rest,v.number∈ns)→rest.Pairwise (fun a b=>a.number<b.number)→
  A3f deep (pre++rest) acc (ns.map fun n=>A2w g (A0h fs n))=B6c (fun v=>A3p deep (A2w g (A0h fs v.number)) v) acc rest
 | [],pre,rest,acc,_,_,_,hr,_=>by
  have:rest = []:=by
   cases rest with
   | nil=>rfl
   | cons v r=>have:=hr v (by simp);cases this
  subst this
  rfl
 | n::ns,pre,rest,acc,hn,hp,hpre,hr,hrp=>by
  rw[List.pairwise_cons] at hp
  have ak:(A2w g (A0h fs n)).number=n:=hn n (by simp)
  have ah:pre.find? (fun v=>decide (v.number=n))=none:=by
   rw[List.find?_eq_none]
   intro p ac
   have:=hpre p ac n (by simp)
   simp;omega
  have ih:=fun pre' rest' ag h3 h4 h5=>B9y g fs deep ns pre' rest' ag (fun x hx=>hn x (List.mem_cons_of_mem _ hx)) hp.2 h3 h4 h5
  rw[List.map_cons,A3f,ak]
  by_cases hc:∃ v r,rest=v::r∧v.number=n
  ·obtain⟨v,r,rfl,hv⟩:=hc
   have hf:(pre++v::r).find? (fun v=>decide (v.number=n))=some v:=by
    rw[List.find?_append,ah];simp[hv]
   rw[hf]
   simp only
   rw[B6c,hv]
   split
   ·rfl
   ·rw[List.pairwise_cons] at hrp
    have:=ih (pre++[v]) r (acc++(A3p deep (A2w g (A0h fs n)) v).1) (fun p ac x hx=>by
     rcases List.mem_append.1 ac with h|h
     ·exact hpre p h x (List.mem_cons_of_mem _ hx)
     ·rw[List.mem_singleton] at h;subst h;rw[hv];exact hp.1 x hx) (fun x hx=>by
     rcases List.mem_cons.1 (hr x (List.mem_cons_of_mem _ hx)) with h|h
     ·have:=hrp.1 x hx;omega
     ·exact h) hrp.2
    rw[List.append_assoc] at this
    exact this
  ·have hall:∀ v∈rest,v.number∈ns:=by
    cases rest with
    | nil=>intro v hv;cases hv
    | cons v r=>
     rw[List.pairwise_cons] at hrp
     have hv:v.number≠n:=fun e=>hc ⟨v,r,rfl,e⟩
     have aj:v.number∈ns:=(List.mem_cons.1 (hr v (by simp))).resolve_left hv
     have hlt:=hp.1 _ aj
     intro x hx
     rcases List.mem_cons.1 hx with rfl|hx
     ·exact aj
     ·rcases List.mem_cons.1 (hr x (List.mem_cons_of_mem _ hx)) with h|h
      ·have:=hrp.1 x hx;omega
      ·exact h
   have hf:(pre++rest).find? (fun v=>decide (v.number=n))=none:=by
    rw[List.find?_append,ah]
    simp only[Option.none_or]
    rw[List.find?_eq_none]
    intro p ac
    have:=hp.1 _ (hall p ac)
    simp;omega
   rw[hf]
   exact ih pre rest acc (fun p ac x hx=>hpre p ac x (List.mem_cons_of_mem _ hx)) hall hrp
structure VRt {β:Type}(x:FI) (f:List UInt8→β→Int) (v:VI β):Prop where
 oth:A1b x v=false
 mis:A5h x v=false
 fit:∀ n∈v.bits,A2r x.kind n=0
 byt:∀ z∈v.bytes,z.length≤4000
 sub:∀ s∈v.subs,f x.type s=0
theorem A6c {α:Type}{f : α→Int}:∀ {l:List α},A0x f l=0→∀ a∈l,f a=0
 | [],_,_,h=>by cases h
 | b::l,h,a,ha=>by
  rw[A0x] at h
  split at h
  ·rename_i h0
   rcases List.mem_cons.1 ha with rfl|ha
   ·exact h0
   ·exact A6c h a ha
  ·rename_i h0;exact absurd h h0
theorem D9r {β:Type}{fs:List FI}{f:List UInt8→β→Int}{v:VI β}{s:Int×List Int}(h:B7p fs f v s=0):(∃ x∈fs,x.number=v.number)∧s.1<v.number∧VRt (A0h fs v.number) f v∧(B1j fs v s).1=v.number:=by
 unfold B7p at h
 cases hx:fs.find? (fun y=>decide (y.number=v.number)) with
 | none=>rw[hx] at h;cases h
 | some x=>
  rw[hx] at h
  have ah:A0h fs v.number=x:=by unfold A0h;rw[hx];rfl
  have ac:=List.mem_of_find?_eq_some hx
  have ag:x.number=v.number:=by have:=List.find?_some hx;simpa using this
  simp only[A6d] at h
  have g0:eAt x v f s 0=0:=by
   by_cases c:eAt x v f s 0=0
   ·exact c
   ·rw[if_neg c] at h;exact absurd h c
  rw[if_pos g0] at h
  have g1:eAt x v f s (0+1)=0:=by
   by_cases c:eAt x v f s (0+1)=0
   ·exact c
   ·rw[if_neg c] at h;exact absurd h c
  rw[if_pos g1] at h
  have g2:eAt x v f s (0+1+1)=0:=by
   by_cases c:eAt x v f s (0+1+1)=0
   ·exact c
   ·rw[if_neg c] at h;exact absurd h c
  rw[if_pos g2] at h
  have g3:eAt x v f s (0+1+1+1)=0:=by
   by_cases c:eAt x v f s (0+1+1+1)=0
   ·exact c
   ·rw[if_neg c] at h;exact absurd h c
  rw[if_pos g3] at h
  have g4:eAt x v f s (0+1+1+1+1)=0:=by
   by_cases c:eAt x v f s (0+1+1+1+1)=0
   ·exact c
   ·rw[if_neg c] at h;exact absurd h c
  rw[if_pos g4] at h
  have g5:eAt x v f s (0+1+1+1+1+1)=0:=by
   by_cases c:eAt x v f s (0+1+1+1+1+1)=0
   ·exact c
   ·rw[if_neg c] at h;exact absurd h c
  rw[if_pos g5] at h
  have g6:eAt x v f s (0+1+1+1+1+1+1)=0:=by
   by_cases c:eAt x v f s (0+1+1+1+1+1+1)=0
   ·exact c
   ·rw[if_neg c] at h;exact absurd h c
  have k0:(if decide (v.number≤s.1)=true then(2:Int) else 0)=0:=g0
  have k1:(if A1b x v=true then(8:Int) else 0)=0:=g1
  have k2:(if A5h x v=true then(5:Int) else 0)=0:=g2
  have k4:A0x (A2r x.kind) v.bits=0:=g4
  have k5:A0x (A2h x.kind) v.bytes=0:=g5
  have k6:A0x (f x.type) v.subs=0:=g6
  refine⟨⟨x,ac,ag⟩,?_,?_,?_⟩
  ·by_cases c:v.number≤s.1
   ·rw[if_pos (by simpa using c)] at k0;cases k0
   ·omega
  ·rw[ah]
   refine⟨?_,?_,A6c k4,fun z hz=>?_,A6c k6⟩
   ·cases c:A1b x v with
    | true=>rw[c] at k1;cases k1
    | false=>rfl
   ·cases c:A5h x v with
    | true=>rw[c] at k2;cases k2
    | false=>rfl
   ·have:=A6c k5 z hz
    unfold A2h at this
    split at this
    ·cases this
    ·omega
  ·unfold B1j;rw[hx]
theorem C4b {β:Type}{fs:List FI}{f:List UInt8→β→Int}:∀ {l:List (VI β)}{s:Int×List Int},A4e fs f l s=0→(∀ v∈l,s.1<v.number∧(∃ x∈fs,x.number=v.number)∧VRt (A0h fs v.number) f v)∧l.Pairwise (fun a b=>a.number<b.number)
 | [],_,_=>⟨(fun v hv=>by cases hv),List.Pairwise.nil⟩
 | v::l,s,h=>by
  rw[A4e] at h
  split at h
  ·rename_i h0
   obtain⟨a1,a2,a3,a4⟩:=D9r h0
   obtain⟨b1,b2⟩:=C4b h
   rw[a4] at b1
   refine⟨fun x hx=>?_,?_⟩
   ·rcases List.mem_cons.1 hx with rfl|hx
    ·exact⟨a2,a1,a3⟩
    ·have:=b1 x hx
     exact⟨by omega,this.2⟩
   ·rw[List.pairwise_cons]
    exact⟨fun x hx=>(b1 x hx).1,b2⟩
  ·rename_i h0;exact absurd h h0
theorem C1w (num:Int)(b:List UInt8):rb (B7b num b)=A2a num [b]:=by
 show recN num 2 0 b=_
 unfold recN A2a
 rw[if_pos rfl]
 simp
theorem C8u (num:Int)(l:List (List UInt8)):(l.map (B7b num)).flatMap rb=A2a num l:=by
 rw[List.flatMap_map]
 unfold A2a
 congr 1
 funext b
 rw[C1w]
 unfold A2a
 simp
def E0q {β:Type}(deep:TI→β→List UInt8×Int)(p:List TI)(k:Int)(b:BO β):List UInt8×Int:=
 if 12<k then([],10) else if (A3f deep b.vals [] p).2≠0 then([],(A3f deep b.vals [] p).2) else if (A4n [] b.unk).2≠0 then([],(A4n [] b.unk).2)
 else((A3f deep b.vals [] p).1++(A4n [] b.unk).1,0)
def C7m (ps:List (List TI)):(d:Nat)→Int→Int→BI d→List UInt8×Int
 | 0,_,_,_=>([],0)
 | d+1,p,k,b=>E0q (fun s x=>C7m ps d s.next (k+1) x) (ps.getD p.toNat []) k b
def vW {β:Type}(f : β→Nat)(v:VI β):Nat:=30+30*v.bits.length+(v.bytes.map fun z=>20+z.length).sum+(v.subs.map fun s=>20+f s).sum
def oW {β:Type}(f : β→Nat)(b:BO β):Nat:=(b.vals.map (vW f)).sum+(b.unk.map fun r=>20+r.bytes.length).sum
def bW:(d:Nat)→BI d→Nat
 | 0=>fun _=>0
 | d+1=>fun b=>oW (bW d) b
def Tc (a b:List UInt8×Int):Prop:=a.2=b.2∧(a.2=0→a.1=b.1∨(4000<a.1.length∧4000<b.1.length))
def Tl (a b:List UInt8):Prop:=a=b∨(4000<a.length∧4000<b.length)
theorem Tl.app {a b a' b':List UInt8}(h:Tl a b)(h':Tl a' b'):Tl (a++a') (b++b'):=by
 rcases h with rfl|⟨h1,h2⟩
 ·rcases h' with rfl|⟨h1,h2⟩
  ·exact .inl rfl
  ·right;simp only[List.length_append];omega
 ·right;simp only[List.length_append];omega
theorem Tl.sized {a b:List UInt8}(num:Int)(h:Tl a b):Tl (A2a num [a]) (A2a num [b]):=by
 rcases h with rfl|⟨h1,h2⟩
 ·exact .inl rfl
 ·right
  simp only[A2a,List.flatMap_cons,List.flatMap_nil,List.append_nil,List.length_append]
  omega
theorem C9y {β:Type}(num:Int)(f g : β→List UInt8×Int):∀ (l:List β) (a b:List UInt8),(∀ x∈l,Tc (f x) (g x))→Tl a b→Tc (A3t num f a l) (A3t num g b l)
 | [],a,b,_,h=>⟨rfl,fun _=>h⟩
 | x::r,a,b,hx,h=>by
  obtain⟨h1,h2⟩:=hx x (by simp)
  rw[A3t,A3t,←h1]
  split
  ·exact⟨rfl,fun _=>.inl rfl⟩
  ·rename_i h0
   exact C9y num f g r _ _ (fun y hy=>hx y (List.mem_cons_of_mem _ hy)) (h.app (Tl.sized num (h2 (by simpa using h0))))
theorem D9l {β:Type}(f g:TI→β→List UInt8×Int)(s:TI)(v:VI β)(h:∀ x∈v.subs,Tc (f s x) (g s x)):Tc (A3p f s v) (A3p g s v):=by
 unfold A3p
 split
 ·exact⟨rfl,fun _=>.inl rfl⟩
 ·split
  ·exact⟨rfl,fun _=>.inl rfl⟩
  ·split
   ·exact⟨rfl,fun _=>.inl rfl⟩
   ·exact C9y _ _ _ _ _ _ h (.inl rfl)
theorem C2f {β:Type}(f g:TI→β→List UInt8×Int)(x:List (VI β)):∀ (p:List TI) (a b:List UInt8),(∀ s∈p,∀ v∈x,∀ y∈v.subs,Tc (f s y) (g s y))→Tl a b→Tc (A3f f x a p) (A3f g x b p)
 | [],a,b,_,h=>⟨rfl,fun _=>h⟩
 | s::r,a,b,hx,h=>by
  rw[A3f,A3f]
  cases hfd:x.find? (fun v=>decide (v.number=s.number)) with
  | none=>exact C2f f g x r a b (fun s hs=>hx s (List.mem_cons_of_mem _ hs)) h
  | some v=>
   obtain⟨h1,h2⟩:=D9l f g s v (hx s (by simp) v (List.mem_of_find?_eq_some hfd))
   simp only
   rw[←h1]
   split
   ·exact⟨rfl,fun _=>.inl rfl⟩
   ·rename_i h0
    exact C2f f g x r _ _ (fun s hs=>hx s (List.mem_cons_of_mem _ hs)) (h.app (h2 (by simpa using h0)))
theorem Tl.cut {a b:List UInt8}(h:Tl a b):Tl (a.take 4001) b:=by
 rcases h with rfl|⟨h1,h2⟩
 ·by_cases hl:a.length≤4001
  ·left;exact List.take_of_length_le hl
  ·right;rw[List.length_take];omega
 ·right;rw[List.length_take];omega
theorem D9j {β:Type}(f g:TI→β→List UInt8×Int)(p:List TI)(k:Int)(b:BO β)(h:∀ s∈p,∀ v∈b.vals,∀ y∈v.subs,Tc (f s y) (g s y)):Tc (D5t f p k b) (E0q g p k b):=by
 unfold D5t E0q
 split
 ·exact⟨rfl,fun _=>.inl rfl⟩
 ·obtain⟨h1,h2⟩:=C2f f g b.vals p [] [] h (.inl rfl)
  rw[←h1]
  split
  ·exact⟨rfl,fun _=>.inl rfl⟩
  ·rename_i h0
   split
   ·exact⟨rfl,fun _=>.inl rfl⟩
   ·exact⟨rfl,fun _=>Tl.cut (Tl.app (h2 (by simpa using h0)) (.inl rfl))⟩
theorem D7q (ps:List (List TI)):∀ (d:Nat) (p k:Int) (b:BI d),Tc (C1z ps d p k b) (C7m ps d p k b)
 | 0,_,_,_=>⟨rfl,fun _=>.inl rfl⟩
 | d+1,p,k,b=>D9j (β:=BI d) _ _ _ _ _ fun s _ _ _ y _=>D7q ps d s.next (k+1) y
theorem D8w {a b:List UInt8×Int}(h:Tc a b):C1l a=C1l b:=by
 obtain⟨h1,h2⟩:=h
 unfold C1l
 rw[←h1]
 split
 ·rfl
 ·rename_i h0
  rcases h2 (by simpa using h0) with h|⟨h3,h4⟩
  ·rw[h]
  ·rw[if_pos h3,if_pos h4]
def E1m (ps:List (List TI))(p:Int)(d:Nat)(b:BO (BI d)):List UInt8×Int:=
 if (A3x ps).1≠0 then([],(A3x ps).1) else if p<0∨(ps.length:Int)≤p then([],6) else C1l (C7m ps (d+1) p 1 b)
theorem D9d (ps:List (List TI))(p:Int)(d:Nat)(b:BO (BI d)):D2u ps p d b=E1m ps p d b:=by
 unfold D2u E1m
 rw[D8w (D7q ps (d+1) p 1 b)]
open Go.RowKit
section
variable {α:Type}{w:World}
end
theorem A4k {fs:List FI}{n:Int}{x:FI}(h:fs.find? (isF n)=some x):A0h fs n=x:=by
 unfold A0h
 rw[show fs.find? (fun f=>decide (f.number=n))=some x from h]
 rfl
theorem B6p {g:GI}{t:List UInt8}{m:MI}(h:g.msgs.find? (isN t)=some m):A4f g t=m:=by
 unfold A4f
 rw[show g.msgs.find? (fun m=>decide (m.name=t))=some m from h]
 rfl
theorem D2q {g:GI}{d:Nat}{msg:Int}{x:BI (d+1)}(h:A5r g d msg x=0):(wrongL g).1=0∧∃ (j:Nat) (m:MI),msg=(j:Int)∧g.msgs[j]?=some m∧A2g g (d+1) 1 m.fields x=0:=by
 unfold A5r at h
 split at h
 ·rename_i h1
  exact absurd h h1
 ·rename_i h1
  split at h
  ·cases h
  ·rename_i h2
   split at h
   ·rename_i m hm
    exact⟨by omega,msg.toNat,m,by omega,hm,h⟩
   ·cases h
theorem B5u (acc:List UInt8)(r:RI)(l:List RI):A9f acc (r::l)=if A1c r.number r.how r.bits r.bytes.length≠0 then([],A1c r.number r.how r.bits r.bytes.length) else if 4000<(acc++recN r.number r.how r.bits r.bytes).length then([],4) else A9f (acc++recN r.number r.how r.bits r.bytes) l:=rfl
end L
end Go.Proofs.YtgaoojpakjjdnaaGreatDoor
namespace Go.Proofs.YtgaoojpakjjdnaaGreatDoor
open Go.RowKit
theorem D4a:∀ (f i acc m:Nat) (more:List UInt8),f+i=10→1≤f→m<2 ^ (7*f)→m*2 ^ (7*i)≤18446744073709551615→
  A5o i acc (B6w f m++more)=(acc+m*2 ^ (7*i),i+(B6w f m).length,0):=by
 intro f
 induction f with
 | zero=>intro i acc m more _ h;omega
 | succ f ih=>
  intro i acc m more ag _ hm hb
  have h9:i=9→m≤1:=by
   intro e
   subst e
   rw[show 2 ^ (7*9)=9223372036854775808 from rfl] at hb
   omega
  by_cases hs:m<128
  ·rw[B6x hs]
   have e:(UInt8.ofNat m).toNat=m:=by rw[UInt8.toNat_ofNat'];omega
   rw[List.cons_append,A5o,e,if_neg (by rintro⟨a,b⟩;have:=h9 a;omega),if_pos hs,Nat.mod_eq_of_lt hs]
   rfl
  ·rw[C1u hs]
   have e:(UInt8.ofNat (m%128+128)).toNat=m%128+128:=by rw[UInt8.toNat_ofNat'];omega
   have hi:i≠9:=fun a=>by have:=h9 a;omega
   have hp:2 ^ (7*(i+1))=128*2 ^ (7*i):=by rw[show 7*(i+1)=7+7*i by omega,Nat.pow_add]
   have hf2:=D7h hm hs
   have ac:m%128*2 ^ (7*i)+m / 128*2 ^ (7*(i+1))=m*2 ^ (7*i):=by
    rw[hp,←Nat.mul_assoc,←Nat.add_mul]
    congr 1
    omega
   rw[List.cons_append,A5o,e,if_neg (by rintro⟨a,_⟩;exact hi a),if_neg (by omega),
    ih (i+1) _ (m / 128) more (by omega) (by omega) (C3n hm) (by omega)]
   rw[show(m%128+128)%128=m%128 by omega,List.length_cons]
   refine Prod.ext ?_ (Prod.ext ?_ rfl)
   ·show acc+m%128*2 ^ (7*i)+m / 128*2 ^ (7*(i+1))=_
    omega
   ·show i+1+(B6w f (m / 128)).length=i+((B6w f (m / 128)).length+1)
    omega
theorem A9o (n:Nat)(more:List UInt8)(hn:n≤18446744073709551615):A5o 0 0 (A6l n++more)=(n,(A6l n).length,0):=by
 have:=D4a 10 0 0 n more rfl (by omega) (by omega) (by simpa using hn)
 rw[A6l,this]
 simp
theorem B6y (n:Nat):1≤(A6l n).length:=by
 rw[A6l,B6w];split <;> simp
end Go.Proofs.YtgaoojpakjjdnaaGreatDoor
namespace Go.Proofs.YtgaoojpakjjdnaaGreatDoor
theorem B6g (k n:Nat):A7g (B2w k n)=n%2 ^ (8*k):=by
 induction k generalizing n with
 | zero=>simp[B2w,A7g,Nat.mod_one]
 | succ k ih=>
  rw[B2w,A7g,ih,UInt8.toNat_ofNat',show 8*(k+1)=8+8*k by omega,Nat.pow_add,Nat.mod_mul]
theorem D6c {num how:Nat}{rest:List UInt8}(h1:1≤num)(h2:num<536870912)(h3:how=0∨how=1∨how=2∨how=5):C2b (A6l (num*8+how)++rest)=(num,how,(A6l (num*8+how)).length,0):=by
 rw[C2b,A9o _ _ (by omega)]
 dsimp only
 unfold B9s
 rw[if_neg (by simp),if_neg (by omega),if_neg (by rw[show(num*8+how)%8=how by omega];exact B2s (by omega))]
 rw[show(num*8+how) / 8=num by omega,show(num*8+how)%8=how by omega]
theorem C6s {r:Rcd}(hw:0=A1c r.num r.how r.bits r.bytes.length)(hb:r.bits≤18446744073709551615)(m:List UInt8) :
  A7n (B7o r.num r.how r.bits r.bytes++m)=(r,(B7o r.num r.how r.bits r.bytes).length,0):=by
 obtain⟨num,how,bits,bytes⟩:=r
 dsimp only at hw hb ⊢
 obtain⟨q1,q2,q3,q4,q5,q6,q7⟩:=D6r hw
 obtain⟨N,rfl⟩:=Int.eq_ofNat_of_zero_le (show 0≤num by omega)
 obtain⟨H,rfl⟩:=Int.eq_ofNat_of_zero_le (show 0≤how by omega)
 unfold B7o
 rw[Int.toNat_natCast,Int.toNat_natCast,List.append_assoc,A7n,D6c (by omega) (by omega) (by omega)]
 dsimp only
 rw[if_neg (by simp),List.drop_left]
 by_cases h2:H=2
 ·have ht:B4e (H:Int) bits bytes=A6l bytes.length++bytes:=by unfold B4e;rw[if_pos (by omega)]
  rw[ht,A7o,if_pos h2]
  have hs:A6j ((A6l bytes.length++bytes)++m)=(bytes,(A6l bytes.length).length+bytes.length,0):=by
   rw[A6j,List.append_assoc,A9o _ _ (by omega)]
   dsimp only
   unfold A8y
   rw[if_neg (by simp),if_neg (by simp),List.drop_left,List.take_left]
  rw[hs]
  dsimp only
  rw[if_neg (by simp),q6 (by omega)]
  simp
 ·have ht:B4e (H:Int) bits bytes=if (H:Int)=0 then A6l bits else B2w (A2d (H:Int)) bits:=by unfold B4e;rw[if_neg (by omega)]
  rw[ht,A7o,if_neg h2]
  have hby:bytes = []:=List.eq_nil_of_length_eq_zero (q7 (by omega))
  subst hby
  have hs:A3q ((if (H:Int)=0 then A6l bits else B2w (A2d (H:Int)) bits)++m) (H:Int)=(bits,(if (H:Int)=0 then A6l bits else B2w (A2d (H:Int)) bits).length,0):=by
   unfold A3q
   by_cases h0:(H:Int)=0
   ·rw[if_pos h0,if_pos h0,A9o _ _ hb]
   ·rw[if_neg h0,if_neg h0,List.length_append,B1t,if_neg (by omega)]
    have e:(B2w (A2d (H:Int)) bits++m).take (A2d (H:Int))=B2w (A2d (H:Int)) bits:=List.take_left' (B1t _ _)
    rw[e,B6g]
    have hm:bits%2 ^ (8*A2d (H:Int))=bits:=by
     apply Nat.mod_eq_of_lt
     have hH:(H:Int)=1∨(H:Int)=5:=by omega
     rcases hH with e|e
     ·rw[e];show bits<2 ^ 64;omega
     ·have:=q5 e;rw[e];show bits<2 ^ 32;omega
    rw[hm]
  rw[hs]
  dsimp only
  rw[if_neg (by simp),List.length_append]
theorem D5m (num how:Int)(bits:Nat)(l:List UInt8):1≤(B7o num how bits l).length:=by
 have:=B6y (num.toNat*8+how.toNat)
 unfold B7o
 rw[List.length_append]
 omega
theorem C1r:∀ (rs:List Rcd) (i:Nat) (acc B:List UInt8) (a:Nat),(∀ r∈rs,r.bits≤18446744073709551615)→acc.length≤4000→A7c i acc rs=(B,0,a)→
  ∃ ag,B=acc++ag∧B.length≤4000∧∀ f k ac,ag.length≤f→A3u f k ac ag=(ac++rs,0,0):=by
 intro rs
 induction rs with
 | nil=>
  intro i acc B a _ ah h
  rw[A7c] at h
  obtain⟨rfl,_,_⟩:acc=B∧(0:Int)=0∧0=a:=by simpa using h
  refine⟨[],by simp,ah,?_⟩
  intro f k ac _
  rw[A8u rfl,List.append_nil]
 | cons r rest ih=>
  intro i acc B a hb ah h
  rw[A7c] at h
  split at h
  ·rename_i h0
   have:A1c r.num r.how r.bits r.bytes.length=0:=by simpa using congrArg (fun p=>p.2.1) h
   exact absurd this h0
  ·rename_i h0
   have hw:0=A1c r.num r.how r.bits r.bytes.length:=by
    rcases Decidable.em (A1c r.num r.how r.bits r.bytes.length=0) with e|e
    ·exact e.symm
    ·exact absurd e h0
   split at h
   ·have:(4:Int)=0:=by simpa using congrArg (fun p=>p.2.1) h
    omega
   ·rename_i h1
    obtain⟨ag,hB,hl,hp⟩:=ih (i+1) _ B a (fun q hq=>hb q (List.mem_cons_of_mem _ hq)) (by omega) h
    refine⟨B7o r.num r.how r.bits r.bytes++ag,by rw[hB,List.append_assoc],hl,?_⟩
    intro f k ac hf
    have aj:=D5m r.num r.how r.bits r.bytes
    rw[List.length_append] at hf
    obtain⟨g,rfl⟩:∃ g,f=g+1:=⟨f-1,by omega⟩
    rw[B0r (by rw[List.length_append];omega) (C6s hw (hb r List.mem_cons_self) ag),List.drop_left,hp g _ _ (by omega),List.append_assoc]
    rfl
theorem B4c {rs:List Rcd}{B:List UInt8}{a:Nat}(hb:∀ r∈rs,r.bits≤18446744073709551615)(h:A7c 0 [] rs=(B,0,a)):B.length≤4000∧A2n B=(rs,0,0):=by
 obtain⟨ac,hB,hl,hp⟩:=C1r rs 0 [] B a hb (by simp) h
 rw[List.nil_append] at hB
 subst hB
 refine⟨hl,?_⟩
 rw[A2n,if_neg (by omega),hp _ _ _ (Nat.le_refl _)]
 rfl
end Go.Proofs.YtgaoojpakjjdnaaGreatDoor
namespace Go.Proofs.YtgaoojpakjjdnaaGreatDoor
theorem B6m:∀ (k n:Nat),L.klow k n=B2w k n
 | 0,_=>rfl
 | k+1,n=>by rw[L.klow,B2w,B6m k]
theorem D9g (num how:Int)(bits:Nat)(l:List UInt8):L.recN num how bits l=B7o num how bits l:=by
 unfold L.recN B7o L.ktagN B4e L.kputB
 by_cases h2:how=2
 ·rw[if_pos h2,if_pos h2]
 ·rw[if_neg h2,if_neg h2,B6m]
  rfl
theorem C7y {how:Int}(hh:how=0∨how=1∨how=5){n:Nat}(hn:n≤18446744073709551615)(h5:how=5→n<4294967296)(rest:List UInt8):A3q (L.kputB how n++rest) how=(n,(L.kputB how n).length,0):=by
 rcases hh with rfl|rfl|rfl
 ·exact A9o n rest hn
 ·have e:L.kputB 1 n=B2w 8 n:=by unfold L.kputB;rw[if_neg (by decide)];exact B6m 8 n
  have hl:=B1t 8 n
  rw[e]
  unfold A3q
  rw[if_neg (by decide),show A2d 1=8 from rfl,if_neg (by rw[List.length_append,hl];omega),List.take_append_of_le_length (by omega),List.take_of_length_le (by omega),B6g,hl]
  rw[Nat.mod_eq_of_lt (by omega)]
 ·have e:L.kputB 5 n=B2w 4 n:=by unfold L.kputB;rw[if_neg (by decide)];exact B6m 4 n
  have hl:=B1t 4 n
  have:=h5 rfl
  rw[e]
  unfold A3q
  rw[if_neg (by decide),show A2d 5=4 from rfl,if_neg (by rw[List.length_append,hl];omega),List.take_append_of_le_length (by omega),List.take_of_length_le (by omega),B6g,hl]
  rw[Nat.mod_eq_of_lt (by omega)]
theorem C9o {how:Int}(hh:how=0∨how=1∨how=5)(n:Nat):1≤(L.kputB how n).length:=by
 unfold L.kputB
 rcases hh with rfl|rfl|rfl
 ·rw[if_pos rfl];exact B6y n
 ·rw[if_neg (by decide),L.klow_len];decide
 ·rw[if_neg (by decide),L.klow_len];decide
theorem B5b {how:Int}(hh:how=0∨how=1∨how=5):∀ (l:List Nat) (f:Nat) (acc:List Nat),(∀ n∈l,n≤18446744073709551615∧(how=5→n<4294967296))→(l.flatMap (L.kputB how)).length≤f→L.unpGo how f (l.flatMap (L.kputB how)) acc=(acc++l,0)
 | [],f,acc,_,_=>by
  rw[List.flatMap_nil,L.unp_end rfl,List.append_nil]
 | n::l,f,acc,h,hf=>by
  have hp:=C9o hh n
  rw[List.flatMap_cons] at hf ⊢
  rw[List.length_append] at hf
  obtain⟨f',rfl⟩:∃ f',f=f'+1:=⟨f-1,by omega⟩
  obtain⟨h1,h2⟩:=h n (List.mem_cons_self ..)
  rw[L.unp_go (by rw[List.length_append];omega) (C7y hh h1 h2 _),List.drop_left,B5b hh l f' _ (fun q hq=>h q (List.mem_cons_of_mem _ hq)) (by omega),List.append_assoc]
  rfl
theorem C1q {how:Int}(hh:how=0∨how=1∨how=5)(l:List Nat):L.packedN how l=l.flatMap (L.kputB how):=by
 unfold L.packedN
 rw[if_pos (by rcases hh with rfl|rfl|rfl <;> rfl)]
theorem B7i {how:Int}(hh:how=0∨how=1∨how=5){l:List Nat}(h:∀ n∈l,n≤18446744073709551615∧(how=5→n<4294967296)):L.unpR how (L.packedN how l)=(l,0):=by
 unfold L.unpR
 rw[C1q hh,B5b hh l _ [] h (Nat.le_refl _),List.nil_append]
namespace L
open Go.RowKit
def D7l (r:RI):Rcd:=⟨r.number,r.how,r.bits,r.bytes⟩
theorem E1z (l:List RI):(l.map D7l).map A9y=l:=by
 rw[List.map_map]
 exact(List.map_congr_left (fun _ _=>rfl)).trans (List.map_id _)
theorem B8b:∀ (l:List RI) (i:Nat) (acc:List UInt8),∃ a,A7c i acc (l.map D7l)=((A9f acc l).1,(A9f acc l).2,a)
 | [],i,acc=>⟨0,rfl⟩
 | r::l,i,acc=>by
  rw[List.map_cons,A7c,B5u]
  show ∃ a,(if A1c r.number r.how r.bits r.bytes.length≠0 then _ else if 4000<(acc++B7o r.number r.how r.bits r.bytes).length then _ else A7c (i+1) (acc++B7o r.number r.how r.bits r.bytes) (l.map D7l))=_
  rw[D9g]
  by_cases h1:A1c r.number r.how r.bits r.bytes.length≠0
  ·rw[if_pos h1,if_pos h1]
   exact⟨_,rfl⟩
  ·rw[if_neg h1,if_neg h1]
   by_cases h2:4000<(acc++B7o r.number r.how r.bits r.bytes).length
   ·rw[if_pos h2,if_pos h2]
    exact⟨_,rfl⟩
   ·rw[if_neg h2,if_neg h2]
    exact B8b l (i+1) _
theorem D0m {l:List RI}(hb:∀ r∈l,r.bits≤18446744073709551615)(h:(A9f [] l).2=0):A2n (A9f [] l).1=(l.map D7l,0,0):=by
 obtain⟨a,ha⟩:=B8b l 0 []
 rw[h] at ha
 exact(B4c (fun r hr=>by
  obtain⟨q,hq,rfl⟩:=List.mem_map.1 hr
  exact hb q hq) ha).2
theorem D6d {kind:Int}{n:Nat}(hn:n<18446744073709551616)(hf:A2r kind n=0):A4w kind (A4o kind n)=n:=by
 unfold A4w A4o
 by_cases h2:kind=2
 ·rw[if_pos h2,if_pos h2]
  have hb : -9223372036854775808≤IntKind.i64.wrap (n:Int)∧IntKind.i64.wrap (n:Int)≤9223372036854775807:=by rw[IntKind.wrap_i64];omega
  have h0:=(C0v _ hb.1 hb.2).1
  rw[Int.toNat_of_nonneg h0,D0f,IntKind.wrap_i64,IntKind.wrap_u64]
  omega
 ·rw[if_neg h2,if_neg h2]
  unfold A2r at hf
  by_cases h4:kind=4
  ·rw[if_pos h4]
   rw[if_neg (by omega),if_pos h4] at hf
   split at hf
   ·omega
   ·cases hf
  ·rw[if_neg h4]
   by_cases h5:kind=5
   ·rw[if_pos h5]
    rw[if_neg (by omega),if_neg h4,if_pos h5] at hf
    split at hf
    ·rename_i he
     unfold C8p at he
     simp only[Bool.or_eq_true,decide_eq_true_eq] at he
     split <;> omega
    ·cases hf
   ·rw[if_neg h5]
theorem B4k {kind:Int}{n:Nat}(hf:A2r kind n=0)(h5:A2e kind=5):A4o kind n<4294967296:=by
 have hk:kind=7:=by
  unfold A2e at h5
  split at h5
  ·omega
  ·split at h5
   ·assumption
   ·split at h5 <;> omega
 subst hk
 unfold A2r at hf
 rw[if_neg (by decide),if_neg (by decide),if_neg (by decide),if_pos rfl] at hf
 unfold A4o
 rw[if_neg (by decide)]
 split at hf
 ·omega
 ·cases hf
end L
end Go.Proofs.YtgaoojpakjjdnaaGreatDoor
