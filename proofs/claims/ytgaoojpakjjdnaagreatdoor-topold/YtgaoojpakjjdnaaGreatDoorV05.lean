import Derived.Test.YtgaoojpakjjdnaaGreatDoorV04
set_option maxHeartbeats 32000000
set_option maxRecDepth 100000
namespace Go.Proofs.YtgaoojpakjjdnaaGreatDoor
namespace L
open Go.RowKit
theorem B1o {α:Type}[DecidableEq α](x : α)(l:List α):(A6t x l).length≤l.length+1:=by unfold A6t;split <;> simp
theorem B8c {w:World}{vl:Value}{l:List II}{n:Int}(hl:RdL 2 TAt w vl l)(hn:l.length≤900)(hs:∀ s∈l,s.name.length≤9223372036854775807) :
  Calls Tryz.prog 100 #[vl,.slice (some ⟨w.heap.size+5,0,none⟩) 3 3] (A5s w (B8b w.heap.size n)) fun e w'=>e = .returned (.agg #[.int .i64 (A0i (A5o n) [7,3,8] 0 l ([],[])).1,.int .i64 (((A0i (A5o n) [7,3,8] 0 l ([],[])).2:Nat):Int)])∧Below w.heap.size w w':=by
 obtain⟨b,Hb⟩:∃ b,Hid (b=w.heap.size):=⟨_,rfl⟩
 obtain⟨W6,HW⟩:∃ W6,Hid (W6=A5s w (B8b w.heap.size n)):=⟨_,rfl⟩
 have hz:W6.heap.size=w.heap.size+6:=by rw[HW.out,A8f];rfl
 have hb:Below w.heap.size w W6:=by rw[HW.out];exact A3k _ _
 have ha:∀ i o,(B8b w.heap.size n)[i]?=some o→W6.heap[w.heap.size+i]?=some o:=fun i o h=>by rw[HW.out];exact B2b _ _ i o h
 rw[←HW.out]
 have hB:=B9w (B:=W6.heap.size) (B0:=w.heap.size) (cs:=[w.heap.size+1,w.heap.size+2]) (w:=W6) (l:=l) (rs:=D7j w.heap.size) (g:=w.heap.size+5) (A5o n) (fun k j s W=>ISt W W6.heap.size w.heap.size n s∧s.1.length≤(if j=0 then k else k+1)∧s.2.length≤(if j≤2 then k else k+1)) ([],[])
  (fun W hW=>hl.below TAt.stays (hb.trans hW)) (ha 5 _ rfl) (by simp) (by omega) (Nat.le_refl _) (by simp) (by simp;omega) (by simp[D7j]) ?_ ?_ (fun k j s W W' _ hI hb'=>⟨hI.1.below hb',hI.2⟩) (fun k s W _ hI=>⟨hI.1,by simpa [D7j] using hI.2⟩) ?_
 ·refine hB.mono ?_
  rintro e w' ⟨rfl,hF⟩
  exact⟨rfl,hb.trans (hF.below (by omega) (by omega) (by simp))⟩
 ·intro r hr args w'
  simp only[D7j,List.mem_cons,List.mem_nil_iff,or_false] at hr
  rcases hr with rfl|rfl|rfl
  ·exact enters_of Tryz.func172 (by kernel_rfl) rfl args w'
  ·exact enters_of Tryz.func173 (by kernel_rfl) rfl args w'
  ·exact enters_of Tryz.func174 (by kernel_rfl) rfl args w'
 ·exact⟨⟨⟨⟨_,ha 1 _ rfl,Row.nil _ _ _⟩,ha 3 _ rfl,by omega⟩,⟨⟨_,ha 2 _ rfl,Row.nil _ _ _⟩,ha 4 _ rfl,by omega⟩,ha 0 _ rfl,by omega⟩,by simp,by simp⟩
 ·intro k j r f s W hf hr ac _ hI
  obtain⟨h1,h2,h3⟩:=hI
  have hk:=(List.getElem?_eq_some_iff.1 hf).1
  have ag:j<3:=(List.getElem?_eq_some_iff.1 hr).1
  match j,ag,hr with
  | 0,_,hr=>
   cases hr
   refine(C7v h1 ac (by simp at h2;omega) f (hs f (A3u hf))).mono ?_
   rintro e W' ⟨rfl,k1,k2⟩
   refine⟨rfl,fun e=>⟨k1 e,?_,?_⟩,k2⟩
   ·have:=B1o f.name s.1;simp at h2;show(A6t f.name s.1).length≤k+1;omega
   ·show s.2.length≤k;simpa using h3
  | 1,_,hr=>
   cases hr
   refine(C7w h1 f).mono ?_
   rintro e W' ⟨rfl,k1,k2⟩
   exact⟨rfl,fun e=>⟨k1 e,by show s.1.length≤k+1;simpa using h2,by show s.2.length≤k;simpa using h3⟩,k2⟩
  | 2,_,hr=>
   cases hr
   refine(C7x h1 ac (by simp at h3;omega) f).mono ?_
   rintro e W' ⟨rfl,k1,k2⟩
   refine⟨rfl,fun e=>⟨k1 e,by show s.1.length≤k+1;simpa using h2,?_⟩,k2⟩
   have:=B1o f.value s.2;simp at h3;show(A6t f.value s.2).length≤k+1;omega
theorem D4p (a b:Int)(w:World):(Instr.field 50 (.agg #[.int .i64 a,.int .i64 b]) 0).run Tryz.prog w = .ok (.int .i64 a) w:=by rfl
def A6r (e:EI):Int:=if e.items.length<1∨16<e.items.length then 5 else(A0i (A5o ((e.items.getD 0 ⟨[],0⟩).value)) [7,3,8] 0 e.items ([],[])).1
theorem B7g {w:World}{vi:Value}(e:EI)(hl:RdL 2 TAt w vi e.items)(hs:∀ s∈e.items,s.name.length≤9223372036854775807) :
  Calls Tryz.prog 44 #[.agg #[.string (S e.name),vi]] w fun en w'=>en = .returned (.int .i64 (A6r e))∧Below w.heap.size w w':=by
 obtain⟨ao,n,cap,rfl,Hn,aw⟩:=hl.shape
 have ac:=(Below.refl w.heap.size w).alloc (Nat.le_refl _) (.cells #[.string (S e.name),.slice ao n cap] 100)
 by_cases h1:n<1
 ·have HE:Hid (A6r e=5):=by show _=_;rw[A6r,if_pos (.inl (by rw[←Hn.out];exact h1))]
  have hi:(n:Int)<1:=by omega
  go_enter Tryz.func44,Tryz.ntmps44
  go_wp2
  go_ret
  exact⟨by rw[HE.out];rfl,ac⟩
 ·by_cases h2:16<n
  ·have HE:Hid (A6r e=5):=by show _=_;rw[A6r,if_pos (.inr (by rw[←Hn.out];exact h2))]
   have hi:¬ (n:Int)<1:=by omega
   have hj:(16:Int)<(n:Int):=by omega
   go_enter Tryz.func44,Tryz.ntmps44
   go_wp2
   go_ret
   exact⟨by rw[HE.out];rfl,ac⟩
  ·obtain⟨i0,Hi⟩:∃ i0,Hid (e.items[0]?=some i0):=⟨e.items[0]'(by rw[←Hn.out];omega),List.getElem?_eq_getElem (by rw[←Hn.out];omega)⟩
   have HE:Hid (A6r e=(A0i (A5o i0.value) [7,3,8] 0 e.items ([],[])).1):=by
    show _=_
    rw[A6r,if_neg (by rw[←Hn.out];omega),List.getD_eq_getElem?_getD,Hi.out]
    rfl
   have hi:¬ (n:Int)<1:=by omega
   have hj:¬ (16:Int)<(n:Int):=by omega
   have bc:(0:Int)<(n:Int):=by omega
   have ag:=hl.below TAt.stays ac
   obtain⟨b,off,rfl,hat⟩:=ag.get TAt.plain Hi.out
   obtain⟨t0,t1⟩:=hat.at
   simp only[Nat.zero_mul,Nat.add_zero] at t0 t1
   obtain⟨W1,ah⟩:∃ W1,Hid (W1=w.alloc (.cells #[.string (S e.name),.slice (some ⟨b,off,none⟩) n cap] 100)):=⟨_,rfl⟩
   have hx1:W1.heap[w.heap.size]?=some (.cells #[.string (S e.name),.slice (some ⟨b,off,none⟩) n cap] 100 (0,0)):=by rw[ah.out];exact heap_alloc_new _ _
   rw[←ah.out] at ag ac t0 t1
   have hd:Below W1.heap.size W1 W1.drew:=(Below.refl _ _).drew
   have aj:=B6b i0.value W1.drew
   have hbr:=B8c (n:=i0.value) (ag.below TAt.stays hd) (by rw[←Hn.out];omega) hs
   have ak:∀ W,Below W1.heap.size W1 W→W.cell? ⟨w.heap.size,1,none⟩=some (.slice (some ⟨b,off,none⟩) n cap)∧W.cell? ⟨b,off+1,none⟩=some (.int .i64 i0.value):=fun W hW=>⟨A0c hW (A0a hx1 1 _ rfl),A0c hW t1⟩
   obtain⟨z0,z1⟩:=ak W1.drew hd
   have ba:=D4p
   clear hat t0 t1 ag
   go_enter Tryz.func44,Tryz.ntmps44
   go_wp2_with fail
   rw[←ah.out]
   go_region_with (first
    | (go_at_call 101;refine aj.mono ?_;rintro en w1 ⟨rfl,au⟩;obtain⟨z2,z3⟩:=ak w1 (by rw[←au];exact hd.trans (A3k (B8b W1.drew.heap.size i0.value) W1.drew)))
    | (go_at_call 100;rw[←au];refine hbr.mono ?_;rintro en w2 ⟨rfl,hb2⟩))
   all_goals
    go_wp2
    go_ret
    exact⟨by rw[HE.out];rfl,ac.trans ((hd.trans hb2).mono ac.size)⟩
def B4i (n:Int):Bool:=decide (n<0)||decide (536870912≤n)
theorem C6s (n:Int)(w:World):Calls Tryz.prog 97 #[.int .i64 n] w fun e w'=>e = .returned (.bool (B4i n))∧w=w':=by
 obtain⟨q1,ac⟩:∃ q,decide (n<0)=q:=⟨_,rfl⟩
 obtain⟨q2,ag⟩:∃ q,decide (536870912≤n)=q:=⟨_,rfl⟩
 have HN:Hid (B4i n=(q1||q2)):=by show _=_;rw[B4i,ac,ag]
 cases q1 <;> cases q2
 all_goals simp only[decide_eq_true_eq,decide_eq_false_iff_not] at ac ag
 all_goals first|(exfalso;omega)|skip
 all_goals go_enter Tryz.func97,Tryz.ntmps97
 all_goals go_wp2
 all_goals go_ret
 all_goals exact⟨by rw[HN.out];rfl,rfl⟩
theorem C3n {v:Value}{l:List Int}{w:World}(h:RdL 1 NAt w v l) :
  Calls Tryz.prog 158 #[v,.func (.func 97) #[] #[]] w fun e w'=>∃ r:Int,e = .returned (.int .i64 r)∧decide (0≤r)=l.any B4i∧w=w':=by
 obtain⟨ao,n,cap,rfl,Hn,ah⟩:=h.shape
 go_enter Tryz.func158,Tryz.ntmps158
 go_wp2_with fail
 go_loopg [8] n (fun m i wr=>∃ k:Nat,k+m=n∧i = .int .i64 k∧Hid (l.any B4i=(l.drop k).any B4i)∧w=wr)
 case atStart=>exact⟨0,by omega,rfl,rfl,rfl⟩
 case round=>
  obtain⟨k,hk,rfl,HK,rfl⟩:=hrel
  by_cases hlt:k<n
  ·obtain⟨a,Ha⟩:∃ a,Hid (l[k]?=some a):=⟨l[k]'(by rw[←Hn.out];exact hlt),List.getElem?_eq_getElem (by rw[←Hn.out];exact hlt)⟩
   have ag:Hid (l.any B4i=(B4i a||(l.drop (k+1)).any B4i)):=by
    obtain⟨hk,e⟩:=List.getElem?_eq_some_iff.1 Ha.out
    show _=_;rw[HK.out,List.drop_eq_getElem_cons hk,e];simp
   obtain⟨b,off,rfl,hc⟩:=h.get NAt.plain Ha.out
   have hc:w.cell? ⟨b,off+k*1,none⟩=some (.int .i64 a):=hc
   rw[Nat.mul_one] at hc
   have aj:(k:Int)<(n:Int):=by omega
   have ac:=C6s a w
   cases hq:B4i a with
   | true=>
    have HR:Hid (l.any B4i=true):=by show _=_;rw[ag.out,hq];rfl
    rw[hq] at ac
    clear hq
    go_wp2_with fail
    refine ac.mono ?_
    rintro e w1 ⟨rfl,rfl⟩
    go_wp2
    go_ret
    exact⟨_,rfl,by rw[HR.out];simp,rfl⟩
   | false=>
    have HR:Hid (l.any B4i=(l.drop (k+1)).any B4i):=by show _=_;rw[ag.out,hq];rfl
    rw[hq] at ac
    clear hq
    go_wp2_with fail
    refine ac.mono ?_
    rintro e w1 ⟨rfl,rfl⟩
    go_wp2_with fail
    go_roundg (n-(k+1))
    case measure=>omega
    case rel=>exact⟨k+1,by omega,by go_num,HR,rfl⟩
  ·have HX:Hid (l.any B4i=false):=by show _=_;rw[HK.out,List.drop_eq_nil_of_le (by rw[←Hn.out];omega)];rfl
   go_wp2
   go_ret
   exact⟨_,rfl,by rw[HX.out];simp,rfl⟩
theorem B9t {v:Value}{l:List Int}{w:World}(h:RdL 1 NAt w v l) :
  Calls Tryz.prog 96 #[v,.func (.func 97) #[] #[]] w fun e w'=>e = .returned (.bool (l.any B4i))∧w=w':=by
 have hi:=C3n h
 go_enter Tryz.func96,Tryz.ntmps96
 go_wp2_with fail
 refine hi.mono ?_
 rintro e w1 ⟨r,rfl,hr,rfl⟩
 have HR:Hid (decide (0≤r)=l.any B4i):=hr
 clear hr hi
 go_wp2
 go_ret
 exact⟨A2v HR.out,rfl⟩
def A4s:List Int:=[7,3,8,1,6,8,2]
def C6h:Mem:=⟨[],[],0,0⟩
theorem B5r {w:World}{a1 a2 a3 a4:Option Addr}{n1 n2 n3 n4 c1 c2 c3 c4:Nat}{nm:List UInt8}{g:GI}{l:List FI}{ac:List Int}(hg:GRd w (.slice a1 n1 c1) (.slice a2 n2 c2) g)(hl:RdL 6 FAt w (.slice a3 n3 c3) l)(ag:RdL 1 NAt w (.slice a4 n4 c4) ac)(hn:l.length≤900)(hs:∀ s∈l,s.name.length≤9223372036854775807) :
  Calls Tryz.prog 98 #[.slice a3 n3 c3,.slice (some ⟨w.heap.size+9,0,none⟩) 7 7] (A5s w (B7x w.heap.size (.slice a1 n1 c1) (.slice a2 n2 c2) (.string (S nm)) (.slice a3 n3 c3) (.slice a4 n4 c4))) fun e w'=>e = .returned (.agg #[.int .i64 (A0i (A1n g ac) A4s 0 l C6h).1,.int .i64 (((A0i (A1n g ac) A4s 0 l C6h).2:Nat):Int)])∧Below w.heap.size w w':=by
 obtain⟨W9,HW⟩:∃ W9,Hid (W9=A5s w (B7x w.heap.size (.slice a1 n1 c1) (.slice a2 n2 c2) (.string (S nm)) (.slice a3 n3 c3) (.slice a4 n4 c4))):=⟨_,rfl⟩
 have hz:W9.heap.size=w.heap.size+10:=by rw[HW.out,A8f];rfl
 have hb:Below w.heap.size w W9:=by rw[HW.out];exact A3k _ _
 have ha:∀ i o,(B7x w.heap.size (.slice a1 n1 c1) (.slice a2 n2 c2) (.string (S nm)) (.slice a3 n3 c3) (.slice a4 n4 c4))[i]?=some o→W9.heap[w.heap.size+i]?=some o:=fun i o h=>by rw[HW.out];exact B2b _ _ i o h
 rw[←HW.out]
 have hB:=B9v (B:=W9.heap.size) (B0:=w.heap.size) (cs:=[w.heap.size+2,w.heap.size+3,w.heap.size+4,w.heap.size+5]) (w:=W9) (l:=l) (rs:=D7h w.heap.size) (g:=w.heap.size+9) (A1n g ac) (fun k j s W=>KSt w W W9.heap.size w.heap.size a1 a2 a3 a4 n1 n2 n3 n4 c1 c2 c3 c4 nm s∧s.names.length≤(if j=0 then k else k+1)∧s.nums.length≤(if j≤2 then k else k+1)∧0≤s.begun∧s.begun≤(if j≤6 then(k:Int) else(k:Int)+1)∧s.last≤s.begun) C6h
  (fun W hW=>hl.below FAt.stays (hb.trans hW)) (ha 9 _ rfl) (by simp) (by omega) (Nat.le_refl _) (by simp) (by simp;omega) (by simp[D7h]) ?_ ?_ (fun k j s W W' _ hI hb'=>⟨hI.1.below hb',hI.2⟩) (fun k s W _ hI=>⟨hI.1,by simpa [D7h] using hI.2⟩) ?_
 ·refine hB.mono ?_
  rintro e w' ⟨rfl,hF⟩
  exact⟨rfl,hb.trans (hF.below (by omega) (by omega) (by simp))⟩
 ·intro r hr args w'
  simp only[D7h,List.mem_cons,List.mem_nil_iff,or_false] at hr
  rcases hr with rfl|rfl|rfl|rfl|rfl|rfl|rfl
  ·exact enters_of Tryz.func161 (by kernel_rfl) rfl args w'
  ·exact enters_of Tryz.func162 (by kernel_rfl) rfl args w'
  ·exact enters_of Tryz.func164 (by kernel_rfl) rfl args w'
  ·exact enters_of Tryz.func166 (by kernel_rfl) rfl args w'
  ·exact enters_of Tryz.func167 (by kernel_rfl) rfl args w'
  ·exact enters_of Tryz.func169 (by kernel_rfl) rfl args w'
  ·exact enters_of Tryz.func171 (by kernel_rfl) rfl args w'
 ·exact⟨⟨⟨⟨_,ha 2 _ rfl,Row.nil _ _ _⟩,ha 6 _ rfl,by omega⟩,⟨⟨_,ha 3 _ rfl,Row.nil _ _ _⟩,ha 7 _ rfl,by omega⟩,ha 4 _ rfl,ha 5 _ rfl,ha 8 _ rfl,ha 0 _ rfl,ha 1 _ rfl,by omega,Nat.le_refl _,rfl,hb⟩,by simp[C6h],by simp[C6h],by simp[C6h],by simp[C6h],by simp[C6h]⟩
 ·intro k j r f s W hf hr aj _ hI
  obtain⟨h1,h2,h3,h4,h5,h6⟩:=hI
  have hk:=(List.getElem?_eq_some_iff.1 hf).1
  have ah:j<7:=(List.getElem?_eq_some_iff.1 hr).1
  match j,ah,hr with
  | 0,_,hr=>
   cases hr
   refine(C4f g ac h1 (by simp at h2;omega) f (hs f (A3u hf))).mono ?_
   rintro e W' ⟨rfl,k1,k2⟩
   refine⟨rfl,fun e=>⟨k1 e,?_,?_,h4,?_,h6⟩,k2⟩
   ·have:=B1o f.name s.names;simp at h2;show(A6t f.name s.names).length≤k+1;omega
   ·show s.nums.length≤k;simpa using h3
   ·show s.begun≤(k:Int);simpa using h5
  | 1,_,hr=>
   cases hr
   refine(C4g g ac h1 f).mono ?_
   rintro e W' ⟨rfl,k1,k2⟩
   exact⟨rfl,fun e=>⟨k1 e,by show s.names.length≤k+1;simpa using h2,by show s.nums.length≤k;simpa using h3,h4,by show s.begun≤(k:Int);simpa using h5,h6⟩,k2⟩
  | 2,_,hr=>
   cases hr
   refine(C4h g ac h1 (by simp at h3;omega) ag f).mono ?_
   rintro e W' ⟨rfl,k1,k2⟩
   refine⟨rfl,fun e=>⟨k1 e,by show s.names.length≤k+1;simpa using h2,?_,h4,by show s.begun≤(k:Int);simpa using h5,h6⟩,k2⟩
   have:=B1o f.number s.nums;simp at h3;show(A6t f.number s.nums).length≤k+1;omega
  | 3,_,hr=>
   cases hr
   refine(C4i g ac h1 f).mono ?_
   rintro e W' ⟨rfl,k1,k2⟩
   exact⟨rfl,fun e=>⟨k1 e,by show s.names.length≤k+1;simpa using h2,by show s.nums.length≤k+1;simpa using h3,h4,by show s.begun≤(k:Int);simpa using h5,h6⟩,k2⟩
  | 4,_,hr=>
   cases hr
   refine(C4j g ac h1 hg f).mono ?_
   rintro e W' ⟨rfl,k1,k2⟩
   exact⟨rfl,fun e=>⟨k1 e,by show s.names.length≤k+1;simpa using h2,by show s.nums.length≤k+1;simpa using h3,h4,by show s.begun≤(k:Int);simpa using h5,h6⟩,k2⟩
  | 5,_,hr=>
   cases hr
   refine(C4k g ac h1 f).mono ?_
   rintro e W' ⟨rfl,k1,k2⟩
   exact⟨rfl,fun e=>⟨k1 e,by show s.names.length≤k+1;simpa using h2,by show s.nums.length≤k+1;simpa using h3,h4,by show s.begun≤(k:Int);simpa using h5,h6⟩,k2⟩
  | 6,_,hr=>
   cases hr
   simp at h5
   refine(C4l g ac h1 h4 (by omega) f).mono ?_
   rintro e W' ⟨rfl,k1,k2⟩
   refine⟨rfl,fun e=>?_,k2⟩
   have e':B9n s.last s.begun f.choice=false:=e
   have hm:f.choice=0∨f.choice=s.last∨f.choice=s.begun+1:=by
    simp[B9n] at e'
    by_cases q1:f.choice=0
    ·exact .inl q1
    ·by_cases q2:f.choice=s.last
     ·exact .inr (.inl q2)
     ·exact .inr (.inr (e' q1 q2))
   refine⟨k1 e,by show s.names.length≤k+1;simpa using h2,by show s.nums.length≤k+1;simpa using h3,?_,?_,?_⟩
   ·show 0≤max s.begun f.choice;omega
   ·show max s.begun f.choice≤(k:Int)+1;omega
   ·show f.choice≤max s.begun f.choice;omega
def A3s (g:GI)(m:MI):Int:=if 16<m.fields.length∨16<m.barred.length then 5 else if m.barred.any B4i then 3 else(A0i (A1n g m.barred) A4s 0 m.fields C6h).1
theorem B1l {w:World}{vm ve vf vb:Value}{g:GI}(m:MI)(hg:GRd w vm ve g)(hl:RdL 6 FAt w vf m.fields)(ag:RdL 1 NAt w vb m.barred)(hs:∀ s∈m.fields,s.name.length≤9223372036854775807) :
  Calls Tryz.prog 43 #[.agg #[vm,ve],.agg #[.string (S m.name),vf,vb]] w fun en w'=>en = .returned (.int .i64 (A3s g m))∧Below w.heap.size w w':=by
 obtain⟨a1,n1,c1,rfl,_,_⟩:=hg.1.shape
 obtain⟨a2,n2,c2,rfl,_,_⟩:=hg.2.shape
 obtain⟨a3,n3,c3,rfl,H3,hc3⟩:=hl.shape
 obtain⟨a4,n4,c4,rfl,H4,aw⟩:=ag.shape
 have bc:=A4j
 obtain⟨W2,ac⟩:∃ W2,Hid (W2=(w.alloc (.cells #[.slice a1 n1 c1,.slice a2 n2 c2] 25)).alloc (.cells #[.string (S m.name),.slice a3 n3 c3,.slice a4 n4 c4] 38)):=⟨_,rfl⟩
 have hb2:Below w.heap.size w W2:=by rw[ac.out];exact((Below.refl _ _).alloc (Nat.le_refl _) _).alloc (by simp) _
 have hx1:W2.heap[w.heap.size]?=some (.cells #[.slice a1 n1 c1,.slice a2 n2 c2] 25 (0,0)):=by rw[ac.out];exact A0o _ _ _
 have hx2:W2.heap[w.heap.size+1]?=some (.cells #[.string (S m.name),.slice a3 n3 c3,.slice a4 n4 c4] 38 (0,0)):=by rw[ac.out];exact A0j _ _ _
 by_cases h1:16<n3
 ·have HE:Hid (A3s g m=5):=by show _=_;rw[A3s,if_pos (.inl (by rw[←H3.out];exact h1))]
  have hi:(16:Int)<(n3:Int):=by omega
  go_enter Tryz.func43,Tryz.ntmps43
  go_wp2
  rw[←ac.out]
  go_ret
  exact⟨by rw[HE.out];rfl,hb2⟩
 ·have hi:¬ (16:Int)<(n3:Int):=by omega
  by_cases h2:16<n4
  ·have HE:Hid (A3s g m=5):=by show _=_;rw[A3s,if_pos (.inr (by rw[←H4.out];exact h2))]
   have hj:(16:Int)<(n4:Int):=by omega
   go_enter Tryz.func43,Tryz.ntmps43
   go_wp2
   rw[←ac.out]
   go_ret
   exact⟨by rw[HE.out];rfl,hb2⟩
  ·have hj:¬ (16:Int)<(n4:Int):=by omega
   have hno:¬ (16<m.fields.length∨16<m.barred.length):=by rw[←H3.out,←H4.out];omega
   have ah:=B9t (ag.below NAt.stays hb2)
   cases hq:m.barred.any B4i with
   | true=>
    have HE:Hid (A3s g m=3):=by show _=_;rw[A3s,if_neg hno,hq];rfl
    rw[hq] at ah
    clear hq hno
    go_enter Tryz.func43,Tryz.ntmps43
    go_wp2_with fail
    rw[←ac.out]
    refine ah.mono ?_
    rintro en w1 ⟨rfl,rfl⟩
    go_wp2
    go_ret
    exact⟨by rw[HE.out];rfl,hb2⟩
   | false=>
    have HE:Hid (A3s g m=(A0i (A1n g m.barred) A4s 0 m.fields C6h).1):=by show _=_;rw[A3s,if_neg hno,hq];rfl
    rw[hq] at ah
    have hd:Below W2.heap.size W2 W2.drew:=(Below.refl _ _).drew
    have hwd:Below w.heap.size w W2.drew:=hb2.drew
    have aj:=B3v a1 a2 a3 a4 n1 n2 n3 n4 c1 c2 c3 c4 m.name W2.drew
    have hbr:=B5r (nm:=m.name) (hg.below hwd) (hl.below FAt.stays hwd) (ag.below NAt.stays hwd) (by rw[←H3.out];omega) hs
    have ak:∀ W,Below W2.heap.size W2 W→W.heap[w.heap.size]?=some (.cells #[.slice a1 n1 c1,.slice a2 n2 c2] 25 (0,0))∧W.heap[w.heap.size+1]?=some (.cells #[.string (S m.name),.slice a3 n3 c3,.slice a4 n4 c4] 38 (0,0)):=fun W hW=>⟨(hW.block _ (Array.getElem?_eq_some_iff.1 hx1).1).trans hx1,(hW.block _ (Array.getElem?_eq_some_iff.1 hx2).1).trans hx2⟩
    obtain⟨y1,y2⟩:=ak W2.drew hd
    obtain⟨z0,z1⟩:=A0y y1
    obtain⟨z2,z3,z4⟩:=A4p y2
    have ba:=D4p
    clear hq hno
    go_enter Tryz.func43,Tryz.ntmps43
    go_wp2_with fail
    rw[←ac.out]
    refine ah.mono ?_
    rintro en w1 ⟨rfl,rfl⟩
    go_wp2_with fail
    go_region_with (first
     | (go_at_call 99;refine aj.mono ?_;rintro en w1 ⟨rfl,au⟩;obtain⟨y3,y4⟩:=ak w1 (by rw[←au];exact hd.trans (A3k (B7x W2.drew.heap.size (.slice a1 n1 c1) (.slice a2 n2 c2) (.string (S m.name)) (.slice a3 n3 c3) (.slice a4 n4 c4)) W2.drew));obtain⟨z5,z6,z7⟩:=A4p y4)
     | (go_at_call 98;rw[←au];refine hbr.mono ?_;rintro en w2 ⟨rfl,hb3⟩))
    all_goals
     go_wp2
     go_ret
     exact⟨by rw[HE.out];rfl,hb2.trans ((hd.trans hb3).mono hb2.size)⟩
theorem B2j {w:World}{a1 a2:Option Addr}{n1 c1 n2 c2:Nat}(h1:n1≤140737488355328)(h2:n2≤140737488355328):Calls Tryz.prog 39 #[.agg #[.slice a1 n1 c1,.slice a2 n2 c2]] w fun e w'=>e = .returned (.bool (decide (10<n1+n2)))∧Below w.heap.size w w':=by
 have ac:=(Below.refl w.heap.size w).alloc (Nat.le_refl _) (.cells #[.slice a1 n1 c1,.slice a2 n2 c2] 25)
 have HE:Hid (decide ((10:Int)<(n1:Int)+(n2:Int))=decide (10<n1+n2)):=by show _=_;rw[Bool.eq_iff_iff];simp;omega
 go_enter Tryz.func39,Tryz.ntmps39
 go_wp2
 go_ret
 exact⟨by rw[←HE.out];rfl,ac⟩
def A5y (g:GI):List (List UInt8):=g.msgs.map MI.name++g.enums.map EI.name
theorem C8j {w:World}{vm ve:Value}{g:GI}(hg:GRd w vm ve g)(bv:g.msgs.length≤1000)(bw:g.enums.length≤1000) :
  Calls Tryz.prog 41 #[.agg #[vm,ve]] w fun e w'=>∃ ao n cap,e = .returned (.slice ao n cap)∧RdL 1 SAt w' (.slice ao n cap) (A5y g)∧Below w.heap.size w w':=by
 obtain⟨a1,n1,c1,rfl,H1,_⟩:=hg.1.shape
 obtain⟨a2,n2,c2,rfl,H2,_⟩:=hg.2.shape
 have h1:n1≤1000:=by rw[H1.out];exact bv
 have h2:n2≤1000:=by rw[H2.out];exact bw
 obtain⟨W0,au⟩:∃ W0,Hid (W0=w.alloc (.cells #[.slice a1 n1 c1,.slice a2 n2 c2] 25)):=⟨_,rfl⟩
 have hb0:Below w.heap.size w W0:=by rw[au.out];exact(Below.refl _ _).alloc (Nat.le_refl _) _
 have hx0:W0.heap[w.heap.size]?=some (.cells #[.slice a1 n1 c1,.slice a2 n2 c2] 25 (0,0)):=by rw[au.out];exact heap_alloc_new _ _
 have hz0:W0.heap.size=w.heap.size+1:=by rw[au.out];simp
 go_enter Tryz.func41,Tryz.ntmps41
 go_wp2_with fail
 rw[←au.out]
 go_loopg [3,11] n1 (fun m lv i wr=>∃ (k:Nat) (l:List (List UInt8)),k+m=n1∧i = .int .i64 k∧Row ekS wr (w.heap.size+1) lv l∧Hid (l=(g.msgs.take k).map MI.name)∧Below (w.heap.size+1) W0 wr)
 case atStart=>exact⟨0,[],by omega,rfl,Row.nil _ _ _,by show _=_;simp,Below.refl _ _⟩
 case round=>
  obtain⟨k,l,hk,rfl,hrow,HL,hbr⟩:=hrel
  have ah:Below w.heap.size w wr:=hb0.trans (hbr.mono (by omega))
  have aw:w.heap.size+1≤wr.heap.size:=by have:=hbr.size;omega
  have bp:l.length≤k:=by rw[HL.out];simp;omega
  obtain⟨al,nl,cl,rfl,br⟩:=hrow.shape'
  by_cases hlt:k<n1
  ·obtain⟨a,Ha⟩:∃ a,Hid (g.msgs[k]?=some a):=⟨g.msgs[k]'(by rw[←H1.out];exact hlt),List.getElem?_eq_getElem (by rw[←H1.out];exact hlt)⟩
   obtain⟨b,off,rfl,hat⟩:=(hg.below ah).1.get MAt.plain Ha.out
   obtain⟨vf,vb,s0,s1,s2,cj,cg⟩:=hat.at
   obtain⟨af,nf,cf,rfl,_,_⟩:=cj.shape
   obtain⟨ab,nb,cb,rfl,_,_⟩:=cg.shape
   have bu:(k:Int)<(n1:Int):=by omega
   have ak:=(Below.refl wr.heap.size wr).alloc (Nat.le_refl _) (.cells #[.string (S a.name),.slice af nf cf,.slice ab nb cb] 38)
   have bk:(wr.alloc (.cells #[.string (S a.name),.slice af nf cf,.slice ab nb cb] 38)).heap.size=wr.heap.size+1:=by simp
   have ac:=Row.one (base:=w.heap.size+1) ekS (wr.alloc (.cells #[.string (S a.name),.slice af nf cf,.slice ab nb cb] 38)) a.name (by omega)
   rw[bk] at ac
   have aj:=(Below.refl _ _).alloc (Nat.le_refl _) (.cells #[.string (S a.name)] 9) (w:=wr.alloc (.cells #[.string (S a.name),.slice af nf cf,.slice ab nb cb] 38))
   have hrow4:=(hrow.below ak).below aj
   have ag:Below (w.heap.size+1) W0 _:=(hbr.trans (ak.mono aw)).trans (aj.mono (by omega))
   have ac:Row ekS ((wr.alloc (.cells #[.string (S a.name),.slice af nf cf,.slice ab nb cb] 38)).alloc (.cells #[.string (S a.name)] 9)) (w.heap.size+1) (.slice (some ⟨wr.heap.size+1,0,none⟩) 1 1) [a.name]:=ac
   clear hat
   go_wp2_with (at_builtin;refine A2r rfl ekS _ _ rfl (w.heap.size+1) _ l [a.name] rfl hrow4 (w.heap.size+1) _ rfl ac ?e1 ?e2 ?_)
   case e1=>(try simp);omega
   case e2=>(try simp);omega
   intro v5 w5 bh bg
   have hown:=hrow4.own
   have bc:Below (w.heap.size+1) W0 w5:=ag.grown bg (by(try simp);omega) (fun k hk=>(hown k hk).1)
   have ba:Hid (l++[a.name]=(g.msgs.take (k+1)).map MI.name):=by show _=_;rw[HL.out,A0z Ha.out];simp
   clear hown ac hrow4 ag
   go_wp2_with fail
   go_roundg (n1-(k+1))
   case measure=>omega
   case rel=>exact⟨k+1,l++[a.name],by omega,by go_num,bh,ba,bc⟩
  ·have y0:=(hbr.block w.heap.size (by omega)).trans hx0
   obtain⟨x0,x1⟩:=A0y y0
   have bn:Hid (l=g.msgs.map MI.name++(g.enums.take 0).map EI.name):=by show _=_;rw[HL.out,List.take_of_length_le (by rw[←H1.out];omega)];simp
   go_wp2_with fail
   go_loopg [3,24] n2 (fun m lv i wr=>∃ (k:Nat) (l:List (List UInt8)),k+m=n2∧i = .int .i64 k∧Row ekS wr (w.heap.size+1) lv l∧Hid (l=g.msgs.map MI.name++(g.enums.take k).map EI.name)∧Below (w.heap.size+1) W0 wr)
   case atStart=>exact⟨0,l,by omega,rfl,hrow,bn,hbr⟩
   case round=>
    clear ah aw bp x0 x1 y0 bn hbr hrow HL br
    obtain⟨k2,l2,hk2,rfl,hrow,HL,hbr⟩:=hrel
    have ah:Below w.heap.size w wr:=hb0.trans (hbr.mono (by omega))
    have aw:w.heap.size+1≤wr.heap.size:=by have:=hbr.size;omega
    have bp:l2.length≤n1+k2:=by rw[HL.out,H1.out];simp;omega
    obtain⟨cw,dg,df,rfl,bt⟩:=hrow.shape'
    by_cases hlt2:k2<n2
    ·obtain⟨a,Ha⟩:∃ a,Hid (g.enums[k2]?=some a):=⟨g.enums[k2]'(by rw[←H2.out];exact hlt2),List.getElem?_eq_getElem (by rw[←H2.out];exact hlt2)⟩
     obtain⟨b,off,rfl,hat⟩:=(hg.below ah).2.get EAt.plain Ha.out
     obtain⟨vi,s0,s1,cu⟩:=hat.at
     obtain⟨ai,ni,ci,rfl,_,_⟩:=cu.shape
     have bu:(k2:Int)<(n2:Int):=by omega
     have ak:=(Below.refl wr.heap.size wr).alloc (Nat.le_refl _) (.cells #[.string (S a.name),.slice ai ni ci] 100)
     have bk:(wr.alloc (.cells #[.string (S a.name),.slice ai ni ci] 100)).heap.size=wr.heap.size+1:=by simp
     have ac:=Row.one (base:=w.heap.size+1) ekS (wr.alloc (.cells #[.string (S a.name),.slice ai ni ci] 100)) a.name (by omega)
     rw[bk] at ac
     have aj:=(Below.refl _ _).alloc (Nat.le_refl _) (.cells #[.string (S a.name)] 9) (w:=wr.alloc (.cells #[.string (S a.name),.slice ai ni ci] 100))
     have hrow4:=(hrow.below ak).below aj
     have ag:Below (w.heap.size+1) W0 _:=(hbr.trans (ak.mono aw)).trans (aj.mono (by omega))
     have ac:Row ekS ((wr.alloc (.cells #[.string (S a.name),.slice ai ni ci] 100)).alloc (.cells #[.string (S a.name)] 9)) (w.heap.size+1) (.slice (some ⟨wr.heap.size+1,0,none⟩) 1 1) [a.name]:=ac
     clear hat
     go_wp2_with (at_builtin;refine A2r rfl ekS _ _ rfl (w.heap.size+1) _ l2 [a.name] rfl hrow4 (w.heap.size+1) _ rfl ac ?e1 ?e2 ?_)
     case e1=>(try simp);omega
     case e2=>(try simp);omega
     intro v5 w5 bh bg
     have hown:=hrow4.own
     have bc:Below (w.heap.size+1) W0 w5:=ag.grown bg (by(try simp);omega) (fun k hk=>(hown k hk).1)
     have ba:Hid (l2++[a.name]=g.msgs.map MI.name++(g.enums.take (k2+1)).map EI.name):=by show _=_;rw[HL.out,A0z Ha.out];simp
     clear hown ac hrow4 ag
     go_wp2_with fail
     go_roundg (n2-(k2+1))
     case measure=>omega
     case rel=>exact⟨k2+1,l2++[a.name],by omega,by go_num,bh,ba,bc⟩
    ·have bq:Hid (l2=A5y g):=by show _=_;rw[HL.out,List.take_of_length_le (by rw[←H2.out];omega)];rfl
     go_wp2
     go_ret
     exact⟨_,_,_,rfl,by rw[←bq.out];exact hrow.rdS,ah⟩
end L
end Go.Proofs.YtgaoojpakjjdnaaGreatDoor
