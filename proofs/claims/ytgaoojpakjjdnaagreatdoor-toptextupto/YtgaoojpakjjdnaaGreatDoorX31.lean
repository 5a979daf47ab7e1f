import Derived.Test.YtgaoojpakjjdnaaGreatDoorX30
set_option maxHeartbeats 32000000
set_option maxRecDepth 100000
set_option linter.unusedVariables false
namespace Go.Proofs.YtgaoojpakjjdnaaGreatDoor
namespace L
open Go.RowKit
def A7l (g:GI)(msg:Int)(l:List UInt8):Except Int (BI 12):=
 if (wrongL g).1≠0 then .error (wrongL g).1
 else if msg<0∨(g.msgs.length:Int)≤msg then .error 6
 else match g.msgs[msg.toNat]? with
  | some m=>A5u g 12 m l
  | none=>.error 6
theorem WIn.any {g:GI}{am:Option Addr}{nm cm:Nat}{ae:Option Addr}{ne ce:Nat}{msg:Int}{w:World}(h:WIn g am nm cm ae ne ce msg w)(j:Nat)(hj:j<g.msgs.length):WIn g am nm cm ae ne ce (j:Int) w:=⟨h.hg,h.n1,h.n2,h.fit,h.fok,h.tabs,by omega,by have:=h.n1;omega⟩
theorem WIn.gd {g:GI}{am:Option Addr}{nm cm:Nat}{ae:Option Addr}{ne ce:Nat}{msg:Int}{w:World}(h:WIn g am nm cm ae ne ce msg w)(hr:(wrongL g).1=0):FGd g:=⟨fun M hM x hx=>((h.fok M hM).1 x hx).1,fun M hM x hx hk=>B0w hr M hM x hx hk⟩
theorem B4w {g:GI}{N:Nat→MI→List UInt8→Prop}(bv:Hid (NjC g N)){am:Option Addr}{nm cm:Nat}{ae:Option Addr}{ne ce:Nat}{msg:Int}{w:World}(hI:WIn g am nm cm ae ne ce msg w){ao:Option Addr}{k c:Nat}{l:List UInt8}(hl:RdL 1 YAt w (.slice ao k c) l)(bw:Hid (∀ (j:Nat) (M:MI),msg=(j:Int)→g.msgs[j]?=some M→N 12 M l)) :
  Calls Tryz.prog 9 #[.agg #[.slice am nm cm,.slice ae ne ce],.int .i64 msg,.slice ao k c] w fun e w'=>DOut 12 w (A7l g msg l) e w':=by
 obtain⟨W2,aj⟩:∃ W2,Hid (W2=(w.alloc (.cells #[.slice am nm cm,.slice ae ne ce] 25)).alloc (.cells #[.slice none 0 0,.slice none 0 0] 29)):=⟨_,rfl⟩
 have hb2:Below w.heap.size w W2:=by rw[aj.out];exact((Below.refl _ _).alloc (Nat.le_refl _) _).alloc (by simp) _
 have z2:w.heap.size+2≤W2.heap.size:=by rw[aj.out];simp
 have x1:W2.heap[w.heap.size]?=some (.cells #[.slice am nm cm,.slice ae ne ce] 25 (0,0)):=by rw[aj.out];exact A0l _ _ _
 have x2:W2.heap[w.heap.size+1]?=some (.cells #[.slice none 0 0,.slice none 0 0] 29 (0,0)):=by rw[aj.out];exact A0i _ _ _
 have hwr:=A9d (hI.hg.below hb2) hI.n1 hI.n2 hI.fit
 obtain⟨Q,HQ⟩:∃ Q,Hid (Q=(wrongL g).1):=⟨_,rfl⟩
 obtain⟨QI,cg⟩:∃ QI,Hid (QI=(((wrongL g).2:Nat):Int)):=⟨_,rfl⟩
 rw[←HQ.out,←cg.out] at hwr
 have aw:Hid (nm=g.msgs.length):=hI.hg.1.len.1
 obtain⟨R,HR⟩:∃ R,Hid (A7l g msg l=R):=⟨_,rfl⟩
 rw[HR.out]
 have HI:Hid (WIn g am nm cm ae ne ce msg w):=hI
 have HL:Hid (RdL 1 YAt w (.slice ao k c) l):=hl
 clear hI hl
 obtain⟨y0,y1⟩:=A0r x1
 go_enter Tryz.func9,Tryz.ntmps9
 go_upto_region 1 with fail
 rw[←aj.out]
 go_wp2_with fail
 refine hwr.mono ?_
 rintro r w3 ⟨rfl,hb3⟩
 obtain⟨W4,ak⟩:∃ W4,Hid (W4=w3.alloc (.cells #[.int .i64 Q,.int .i64 QI] 50)):=⟨_,rfl⟩
 have a8:Below w3.heap.size w3 W4:=by rw[ak.out];exact(Below.refl _ _).alloc (Nat.le_refl _) _
 have x4:W4.heap[w3.heap.size]?=some (.cells #[.int .i64 Q,.int .i64 QI] 50 (0,0)):=by rw[ak.out];exact heap_alloc_new _ _
 have dn:w3.heap.size+1≤W4.heap.size:=by rw[ak.out];simp
 have ah:Below W2.heap.size W2 W4:=BTr hb3 a8
 have ac:Below w.heap.size w W4:=BTr hb2 ah
 have hz3:=hb3.size
 clear y0 y1 hwr
 go_upto_region 2 with fail
 rw[←ak.out]
 obtain⟨t0,t1⟩:=A0r x4
 obtain⟨y0,y1⟩:=A0r ((ah.block _ (by omega)).trans x1)
 have bq:=(ah.block _ (by omega)).trans x2
 obtain⟨p0,p1⟩:=A0r bq
 have pf:=A0b bq
 have n1:¬ w3.heap.size=w.heap.size+1:=by omega
 have n2:¬ w.heap.size+1=w3.heap.size:=by omega
 by_cases hQ0:Q=0
 ·have hr:(wrongL g).1=0:=by rw[←HQ.out];exact hQ0
  subst hQ0
  by_cases hlo:msg<0
  ·have HT:Hid (R = .error 6):=by show _=_;rw[←HR.out,A7l,if_neg (by rw[hr];simp),if_pos (.inl hlo)]
   go_wp2_with fail
   refine bodyPost_ret (v:=.tuple #[.agg #[.slice none 0 0,.slice none 0 0],.int .i64 6]) (by simp[results,Tryz.results9,go_sem, *]) rfl ?_
   rw[HT.out]
   exact⟨by decide,rfl,by first|exact ac|exact KB_set (KB_set ac (by omega)) (by omega)⟩
  ·by_cases hhi:(nm:Int)≤msg
   ·have HT:Hid (R = .error 6):=by show _=_;rw[←HR.out,A7l,if_neg (by rw[hr];simp),if_pos (.inr (by rw[←aw.out];exact hhi))]
    have bh:¬ msg<0:=hlo
    go_wp2_with fail
    refine bodyPost_ret (v:=.tuple #[.agg #[.slice none 0 0,.slice none 0 0],.int .i64 6]) (by simp[results,Tryz.results9,go_sem, *]) rfl ?_
    rw[HT.out]
    exact⟨by decide,rfl,by first|exact ac|exact KB_set (KB_set ac (by omega)) (by omega)⟩
   ·obtain⟨j,Hj⟩:∃ j:Nat,Hid (msg=(j:Int)):=⟨msg.toNat,by show _=_;omega⟩
    obtain⟨M,hM⟩:∃ M,g.msgs[j]?=some M:=⟨g.msgs[j]'(by have:=Hj.out;have:=aw.out;omega),List.getElem?_eq_getElem _⟩
    have HT:Hid (R=A5u g 12 M l):=by
     show _=_
     have e:msg.toNat=j:=by have:=Hj.out;omega
     rw[←HR.out,A7l,if_neg (by rw[hr];simp),if_neg (by rw[←aw.out];omega),e,hM]
    obtain⟨bm,om,rfl,hat⟩:=HI.out.hg.1.get MAt.plain hM
    obtain⟨vf,vb,s0,s1,s2,bk,bu⟩:=hat.at
    obtain⟨af,nf,kf,rfl,_,_⟩:=bk.shape
    obtain⟨ab,nb,kb,rfl,_,_⟩:=bu.shape
    have bh:¬ msg<0:=hlo
    have dg:msg<(nm:Int):=by omega
    have hd:Below w.heap.size w W4.drew:=ac.drew
    have df:Below W4.heap.size W4 W4.drew:=(Below.refl _ _).drew
    have ag:∀ V,Below (w.heap.size+1) W2 V→V.cell? ⟨w.heap.size,0,none⟩=some (.slice (some ⟨bm,om,none⟩) nm cm)∧V.cell? ⟨w.heap.size,1,none⟩=some (.slice ae ne ce)∧V.cell? ⟨bm,om+j*3,none⟩=some (.string (S M.name))∧V.cell? ⟨bm,om+j*3+1,none⟩=some (.slice af nf kf)∧V.cell? ⟨bm,om+j*3+2,none⟩=some (.slice ab nb kb):=fun V hV=>by
     have bp:Below w.heap.size w V:=hb2.trans (hV.mono (by omega))
     obtain⟨e1,e2⟩:=A0r ((hV.block _ (by omega)).trans x1)
     exact⟨e1,e2,A0c bp s0,A0c bp s1,A0c bp s2⟩
    have di:∀ U,Below w.heap.size w U→Calls Tryz.prog 21 #[.agg #[.slice (some ⟨bm,om,none⟩) nm cm,.slice ae ne ce],.agg #[.string (S M.name),.slice af nf kf,.slice ab nb kb],.slice ao k c,.int .i64 1] U fun e w'=>∃ (i0:Option Addr) (j0 l0:Nat) (i1:Option Addr) (j1 l1:Nat) (E:Int),e = .returned (.tuple #[.agg #[.slice i0 j0 l0,.slice i1 j1 l1],.int .i64 E])∧Hid (DRes 12 U.heap.size R i0 j0 l0 i1 j1 l1 E w')∧Below U.heap.size U w':=fun U hU=>by
     refine(C3r (HI.out.gd hr) bv 12 U _ _ _ _ _ _ _ _ _ ab nb kb M ao k c l 1 (by decide) (by decide) (fun i hi=>(HI.out.below hU).any i hi) (List.mem_of_getElem? hM) (bk.below FAt.stays hU) (HL.out.below YAt.stays hU) (bw.out j M Hj.out hM)).mono ?_
     intro e w' ho
     rw[←HT.out] at ho
     obtain⟨i0,j0,l0,i1,j1,l1,E,h1,h2,h3⟩:=ho.open
     exact⟨i0,j0,l0,i1,j1,l1,E,h1,h2,h3⟩
    have bt:Below (w.heap.size+1) W2 W4.drew:=(ah.drew).mono (by omega)
    clear hat s0 s1 s2 bk bu hM
    have dh:msg=(j:Int):=Hj.out
    subst dh
    go_upto_region 6 with fail
    refine wp_region_held_drew (S:=fun U=>Below (w.heap.size+1) W2 U) (by kernel_rfl) bt (fun hHeld=>?_)
    refine tK (i:=0) (v:=?vr1) rfl ⟨by rfl,?hyr1⟩ ?_
    case hyr1=>(intro W h;have:=ag W h;go_simp;first|done|with_reducible rfl)
    try simp only[pT,Act.put]
    refine tK (i:=1) (v:=?vr2) rfl ⟨by rfl,?hyr2⟩ ?_
    case hyr2=>(intro W h;have:=ag W h;go_simp;first|done|with_reducible rfl)
    try simp only[pT,Act.put]
    refine tK (i:=2) (v:=?vr3) rfl ⟨by rfl,?hyr3⟩ ?_
    case hyr3=>(intro W h;have:=ag W h;go_simp;first|done|with_reducible rfl)
    try simp only[pT,Act.put]
    refine tK (i:=3) (v:=?vr4) rfl ⟨by rfl,?hyr4⟩ ?_
    case hyr4=>(intro W h;have:=ag W h;go_simp;first|done|with_reducible rfl)
    try simp only[pT,Act.put]
    refine tK (i:=4) (v:=?vr5) rfl ⟨by rfl,?hyr5⟩ ?_
    case hyr5=>(intro W h;have:=ag W h;go_simp;first|done|with_reducible rfl)
    try simp only[pT,Act.put]
    refine tK (i:=5) (v:=?vr6) rfl ⟨by rfl,?hyr6⟩ ?_
    case hyr6=>(intro W h;have:=ag W h;go_simp;first|done|with_reducible rfl)
    try simp only[pT,Act.put]
    refine tK (i:=6) (v:=?vr7) rfl ⟨by rfl,?hyr7⟩ ?_
    case hyr7=>(intro W h;have:=ag W h;go_simp;first|done|with_reducible rfl)
    try simp only[pT,Act.put]
    refine rA (i:=7) rfl fun K hK=>?_
    go_simp
    refine(di _ hd).mono ?_
    rintro e w5 ⟨i0,j0,l0,i1,j1,l1,E,rfl,au,bg⟩
    have cj:=BTr hd bg
    have br:=((BTr df bg).block _ (by omega)).trans bq
    have cw:Below (w.heap.size+1) W2 w5:=bt.trans (bg.mono (by have:=ac.size;show _≤W4.heap.size;omega))
    obtain⟨dp,dr⟩:=A0r br
    have dt:=A0b br
    have cu:Below w.heap.size w ((w5.setCell ⟨w.heap.size+1,0,none⟩ (.slice i0 j0 l0)).setCell ⟨w.heap.size+1,1,none⟩ (.slice i1 j1 l1)):=KB_set (KB_set cj (by omega)) (by omega)
    have dm:Below (w.heap.size+1) W2 ((w5.setCell ⟨w.heap.size+1,0,none⟩ (.slice i0 j0 l0)).setCell ⟨w.heap.size+1,1,none⟩ (.slice i1 j1 l1)):=KB_set (KB_set cw (Nat.le_refl _)) (Nat.le_refl _)
    refine hK.out _ _ ?_ (fun hHeld=>?_)
    ·(try dsimp only);with_reducible assumption
    clear hK K
    try simp only[pT,Act.put]
    refine tK (i:=8) (v:=?vr8) rfl ⟨by rfl,?hyr8⟩ ?_
    case hyr8=>(intro W h;have:=ag W h;go_simp;first|done|with_reducible rfl)
    try simp only[pT,Act.put]
    refine tK (i:=9) (v:=?vr9) rfl ⟨by rfl,?hyr9⟩ ?_
    case hyr9=>(intro W h;have:=ag W h;go_simp;first|done|with_reducible rfl)
    try simp only[pT,Act.put]
    refine rA (i:=10) rfl fun K hK=>?_
    go_simp
    refine hK.out _ _ ?_ (fun hHeld=>?_)
    ·(try dsimp only);with_reducible assumption
    clear hK K
    try simp only[pT,Act.put]
    refine tK (i:=11) (v:=?vr10) rfl ⟨by rfl,?hyr10⟩ ?_
    case hyr10=>(intro W h;have:=ag W h;go_simp;first|done|with_reducible rfl)
    try simp only[pT,Act.put]
    refine wpAnyH_done (by kernel_rfl) ?_ _
    go_wp2_with fail
    refine bodyPost_ret (v:=.tuple #[.agg #[.slice i0 j0 l0,.slice i1 j1 l1],.int .i64 E]) (by simp[results,Tryz.results9,go_sem, *]) rfl ?_
    have dl:=ac.size
    exact(au.out.fr (fr2 br) (show w.heap.size+1<W4.heap.size by omega)).out dl cu
 ·have HT:Hid (R = .error Q):=by show _=_;rw[←HR.out,A7l,if_pos (by rw[←HQ.out];exact hQ0),HQ.out]
  have ez:(Q != 0)=true:=by simpa using hQ0
  go_upto_region 3 with fail
  go_region
  all_goals
   go_wp2_with fail
   refine bodyPost_ret (v:=.tuple #[.agg #[.slice none 0 0,.slice none 0 0],.int .i64 Q]) (by simp[results,Tryz.results9,go_sem, *]) rfl ?_
   rw[HT.out]
   exact⟨hQ0,rfl,(KB_set (KB_set ac (by omega)) (by omega)).drew⟩
theorem C6n {g:GI}(HS:Hid (∀ M∈g.msgs,∀ x∈M.fields,x.many=false→x.kind=10→A8p g x)){am:Option Addr}{nm cm:Nat}{ae:Option Addr}{ne ce:Nat}{msg:Int}{w:World}(hI:WIn g am nm cm ae ne ce msg w){ao:Option Addr}{k c:Nat}{l:List UInt8}(hl:RdL 1 YAt w (.slice ao k c) l) :
  Calls Tryz.prog 9 #[.agg #[.slice am nm cm,.slice ae ne ce],.int .i64 msg,.slice ao k c] w fun e w'=>DOut 12 w (A7l g msg l) e w':=
 B4w (N:=fun _ _ _=>True) ⟨fun {n M l rs A i r x} _ hM _ _ hx hk=>⟨trivial,fun hm=>.inl (HS.out M hM x (List.mem_of_find?_eq_some hx) hm hk)⟩⟩ hI hl (fun _ _ _ _=>trivial)
theorem D2z (n:Nat)(w:World):Calls Tryz.prog 205 #[.int .u64 (n:Int)] w fun e w'=>e = .returned (.int .u64 ((A4o 2 n:Nat):Int))∧w=w':=by
 have hw : -9223372036854775808≤IntKind.i64.wrap (n:Int)∧IntKind.i64.wrap (n:Int)≤9223372036854775807:=by rw[IntKind.wrap_i64];omega
 have hf:=C9n (IntKind.i64.wrap (n:Int)) w hw.1 hw.2
 have h0:=(C0v _ hw.1 hw.2).1
 have HN:Hid (((A4o 2 n:Nat):Int)=B0n (IntKind.i64.wrap (n:Int))):=by
  show _=_;unfold A4o;rw[if_pos rfl];omega
 clear h0
 have ac:wrap64 (n:Int)=IntKind.i64.wrap (n:Int):=by rw[IntKind.wrap_i64,wrap64]
 rw[←ac] at hf HN
 clear hw ac
 go_enter Tryz.func205,Tryz.ntmps205
 go_wp2_with fail
 refine hf.mono ?_
 rintro e w1 ⟨rfl,rfl⟩
 go_wp2
 go_ret
 exact⟨by rw[HN.out];rfl,rfl⟩
theorem D3a (n:Nat)(w:World):Calls Tryz.prog 207 #[.int .u64 (n:Int)] w fun e w'=>e = .returned (.int .u64 (n:Int))∧w=w':=by
 go_enter Tryz.func207,Tryz.ntmps207
 go_wp2
 go_ret
 exact⟨rfl,rfl⟩
theorem C2l {w:World}{v:Value}{l:List Nat}(h:RdL 1 UAt w v l)(hm:∀ n∈l,n≤18446744073709551615)(hl:l.length≤100000000000)(kind:Int) :
  Calls Tryz.prog 84 #[.int .i64 kind,v] w fun e w'=>∃ ao n cap,e = .returned (.slice ao n cap)∧Row ekU w' w.heap.size (.slice ao n cap) (l.map (A4o kind))∧Below w.heap.size w w':=by
 obtain⟨a1,n1,c1,rfl,H1,_⟩:=h.shape
 by_cases hk:kind=2
 rotate_right
 focus
  have hk2:(kind==2)=false:=by simp[hk]
  have he:=B5y h hm hl (enters_of Tryz.func207 (by kernel_rfl) rfl) (one:=A4o kind) (fun n W _=>by
   have e:A4o kind n=n:=by unfold A4o;rw[if_neg hk]
   rw[e];exact D3a n W)
  have hb:∀ W,Calls Tryz.prog 149 #[.int .i64 kind] W fun e w'=>e = .returned (.func (.func 207) #[] #[])∧W=w':=fun W=>by
   clear he
   go_enter Tryz.func149,Tryz.ntmps149
   go_wp2
   go_ret
   exact⟨rfl,rfl⟩
  have ac:=hb w
  clear hk2 hk
 rotate_right
 focus
  subst hk
  have he:=B5y h hm hl (enters_of Tryz.func205 (by kernel_rfl) rfl) (one:=A4o 2) (fun n W _=>D2z n W)
  have hb:∀ W,Calls Tryz.prog 149 #[.int .i64 2] W fun e w'=>e = .returned (.func (.func 205) #[] #[])∧W=w':=fun W=>by
   go_enter Tryz.func149,Tryz.ntmps149
   go_wp2
   go_ret
   exact⟨rfl,rfl⟩
  have ac:=hb w
 all_goals
  go_enter Tryz.func84,Tryz.ntmps84
  go_wp2_with fail
  refine ac.mono ?_
  rintro e w1 ⟨rfl,rfl⟩
  go_wp2_with fail
  refine he.mono ?_
  rintro e w2 ⟨ao,n,cap,rfl,hr,hb2⟩
  go_wp2
  go_ret
  exact⟨ao,n,cap,rfl,hr,hb2⟩
def A8x (s:TI)(l:List Nat):List UInt8:=l.flatMap fun n=>ktagN s.number s.how++packedN s.how [A4o s.field n]
theorem A5g (a b:Int):(ktagN a b).length≤10:=A6f _
theorem B2f (kind:Int)(n:Nat)(hn:n≤18446744073709551615):A4o kind n≤18446744073709551615:=by
 unfold A4o
 split
 ·have hw : -9223372036854775808≤IntKind.i64.wrap (n:Int)∧IntKind.i64.wrap (n:Int)≤9223372036854775807:=by rw[IntKind.wrap_i64];omega
  have:=C0v _ hw.1 hw.2
  omega
 ·exact hn
theorem A8t (how:Int)(n:Nat):(packedN how [n]).length≤10:=by
 unfold packedN
 split
 ·simp only[List.flatMap_cons,List.flatMap_nil,List.append_nil];exact A9q how n
 ·simp
theorem C6z (s:TI)(l:List Nat):(A8x s l).length≤l.length*20:=B2r fun n _=>by
 rw[List.length_append]
 have:=A5g s.number s.how
 have:=A8t s.how (A4o s.field n)
 omega
theorem E0j (w:World)(n:Nat):RdL 1 UAt (w.alloc (.cells #[.int .u64 (n:Int)] 63)) (.slice (some ⟨w.heap.size,0,none⟩) 1 1) [n]:=by
 refine⟨_,1,1,rfl,rfl,Nat.le_refl _,by unfold maxLen;omega,(fun e=>by cases e),fun x hx k a ha=>?_⟩
 cases hx
 cases k with
 | succ k=>simp at ha
 | zero=>
  have ha:n=a:=by simpa using ha
  subst ha
  rw[A0d]
  exact A0a (heap_alloc_new w _) 0 _ rfl
def recN (num how:Int)(bits:Nat)(l:List UInt8):List UInt8:=ktagN num how++(if how=2 then A6l l.length++l else kputB how bits)
theorem B7a (num how:Int)(bits:Nat)(l:List UInt8):(recN num how bits l).length≤20+l.length:=by
 unfold recN
 rw[List.length_append]
 have h1:=A5g num how
 split
 ·rw[List.length_append]
  have:=A6f l.length
  omega
 ·have:=A9q how bits
  omega
theorem D3c {w:World}{g:Nat}{a0 a1 a2 a3:Value}{t:TypeId}(h:w.heap[g]?=some (.cells #[a0,a1,a2,a3] t (0,0))) :
  w.cell? ⟨g,0,none⟩=some a0∧w.cell? ⟨g,1,none⟩=some a1∧w.cell? ⟨g,2,none⟩=some a2∧w.cell? ⟨g,3,none⟩=some a3:=
 ⟨A0a h 0 _ rfl,A0a h 1 _ rfl,A0a h 2 _ rfl,A0a h 3 _ rfl⟩
theorem A7p {w:World}{v:Value}{l:List UInt8}(h:RdL 1 YAt w v l)(num how:Int)(bits:Nat)(hb:bits≤18446744073709551615)(hl:l.length≤1000000000000)(h1:0≤num)(h2:num≤536870912)(h3:0≤how)(h4:how≤7) :
  Calls Tryz.prog 153 #[.agg #[.int .i64 num,.int .i64 how,.int .u64 (bits:Int),v]] w fun e w'=>∃ ao n cap,e = .returned (.slice ao n cap)∧Row ekY w' w.heap.size (.slice ao n cap) (recN num how bits l)∧Below w.heap.size w w':=by
 obtain⟨a1,n1,c1,rfl,H1,a8⟩:=h.shape
 obtain⟨W0,ah⟩:∃ W0,Hid (W0=w.alloc (.cells #[.int .i64 num,.int .i64 how,.int .u64 (bits:Int),.slice a1 n1 c1] 106)):=⟨_,rfl⟩
 have hb0:Below w.heap.size w W0:=by rw[ah.out];exact(Below.refl _ _).alloc (Nat.le_refl _) _
 have hz0:w.heap.size+1≤W0.heap.size:=by rw[ah.out];simp
 have x0:W0.heap[w.heap.size]?=some (.cells #[.int .i64 num,.int .i64 how,.int .u64 (bits:Int),.slice a1 n1 c1] 106 (0,0)):=by rw[ah.out];exact heap_alloc_new _ _
 have ak:=B6n W0.heap.size (.slice none 0 0) [] num how W0 (Row.nil _ _ _) (Nat.le_refl _) h1 h2 h3 h4 (by simp)
 have hT:=A5g num how
 go_enter Tryz.func153,Tryz.ntmps153
 go_wp2_with fail
 rw[←ah.out]
 refine ak.mono ?_
 rintro e w1 ⟨v1,rfl,hr1,hb1⟩
 rw[List.nil_append] at hr1
 obtain⟨a2,n2,c2,rfl,_⟩:=hr1.shape'
 obtain⟨t0,t1,t2,t3⟩:=D3c ((hb1.block _ (by omega)).trans x0)
 have aw:Below w.heap.size w w1:=KBT hb0 hb1
 clear ak
 by_cases hh:how=2
 ·have hq:(how==2)=true:=by simp[hh]
  have HN:Hid (recN num how bits l=ktagN num how++A6l l.length++l):=by show _=_;unfold recN;rw[if_pos hh,List.append_assoc]
  have hput:=B1s W0.heap.size _ _ l.length w1 hr1 hb1.size (by rw[←H1.out];omega) (by omega)
  rw[←H1.out] at hput
  have hP:=A6f n1
  clear hh
  go_wp2_with fail
  refine hput.mono ?_
  rintro e w2 ⟨v2,rfl,hr2,hb2⟩
  obtain⟨a3,n3,c3,rfl,_⟩:=hr2.shape'
  have ac:Below W0.heap.size W0 w2:=hb1.trans hb2
  obtain⟨p0,p1,p2,p3⟩:=D3c ((ac.block _ (by omega)).trans x0)
  have aj:Below w.heap.size w w2:=KBT hb0 ac
  obtain⟨q1,q2,q3⟩:=C1e (h.below YAt.stays aj)
  clear hput t0 t1 t2 t3 hr1
  go_wp2_with (at_builtin;refine A1o (by rfl) ekY _ _ (by rfl) W0.heap.size (.slice a3 n3 c3) _ l (by rfl) hr2 a1 n1 c1 (by rfl) q1 q2 q3 (by decide) ?d2 ac.size ?_)
  case d2=>
   rw[show ekY.bytes=1 from rfl,Nat.mul_one]
   simp only[List.length_append]
   omega
  intro v' w3 hr3 hg3
  obtain⟨a4,n4,c4,rfl,_⟩:=hr3.shape'
  have au:Below W0.heap.size W0 w3:=ac.grown hg3 ac.size (fun k hk=>(hr2.own k hk).1)
  have ag:Row ekY w3 w.heap.size (.slice a4 n4 c4) (recN num how bits l):=by
   rw[HN.out,←H1.out,List.append_assoc];exact hr3.mono (by omega)
  clear hr3
  go_wp2
  go_ret
  exact⟨a4,n4,c4,rfl,ag,KBT hb0 au⟩
 ·have hq:(how==2)=false:=by simp[hh]
  have HN:Hid (recN num how bits l=ktagN num how++kputB how bits):=by show _=_;unfold recN;rw[if_neg hh]
  have hput:=B1e W0.heap.size _ _ how bits w1 hr1 hb1.size hb (by omega)
  clear hh
  go_wp2_with fail
  refine hput.mono ?_
  rintro e w2 ⟨v2,rfl,hr2,hb2⟩
  obtain⟨a3,n3,c3,rfl,_⟩:=hr2.shape'
  have ac:Below W0.heap.size W0 w2:=hb1.trans hb2
  have ag:Row ekY w2 w.heap.size (.slice a3 n3 c3) (recN num how bits l):=by
   rw[HN.out];exact hr2.mono (by omega)
  clear hr2 hput
  go_wp2
  go_ret
  exact⟨a3,n3,c3,rfl,ag,KBT hb0 ac⟩
theorem D4h {w:World}{v:Value}{l:List UInt8}(h:RdL 1 YAt w v l)(num how:Int)(bits:Nat)(hb:bits≤18446744073709551615)(hl:l.length≤1000000000000)(h1:0≤num)(h2:num≤536870912)(h3:0≤how)(h4:how≤7)
  {base:Nat}{ao:Option Addr}{no co:Nat}{acc:List UInt8}(ah:Row ekY w base (.slice ao no co) acc) (aj:base≤w.heap.size) (aw:acc.length≤10000000000000) :
  Calls Tryz.prog 91 #[.slice ao no co,.agg #[.int .i64 num,.int .i64 how,.int .u64 (bits:Int),v]] w fun e w'=>∃ a n c,e = .returned (.slice a n c)∧Row ekY w' base (.slice a n c) (acc++recN num how bits l)∧Below base w w':=by
 obtain⟨a1,n1,c1,rfl,H1,a8⟩:=h.shape
 obtain⟨W0,ag⟩:∃ W0,Hid (W0=w.alloc (.cells #[.int .i64 num,.int .i64 how,.int .u64 (bits:Int),.slice a1 n1 c1] 106)):=⟨_,rfl⟩
 have hb0:Below w.heap.size w W0:=by rw[ag.out];exact(Below.refl _ _).alloc (Nat.le_refl _) _
 have hz0:w.heap.size+1≤W0.heap.size:=by rw[ag.out];simp
 have ak:=A7p (h.below YAt.stays hb0) num how bits hb hl h1 h2 h3 h4
 have hL:=B7a num how bits l
 go_enter Tryz.func91,Tryz.ntmps91
 go_wp2_with fail
 rw[←ag.out]
 refine ak.mono ?_
 rintro e w1 ⟨a2,n2,c2,rfl,hr1,hb1⟩
 have ac:Below w.heap.size w w1:=KBT hb0 hb1
 obtain⟨q1,q2,q3⟩:=C1e hr1.rdY
 have ha1:=ah.below ac
 clear ak
 go_wp2_with (at_builtin;refine A1o (by rfl) ekY _ _ (by rfl) base (.slice ao no co) _ (recN num how bits l) (by rfl) ha1 a2 n2 c2 (by rfl) q1 q2 q3 (by decide) ?d2 (Nat.le_trans aj ac.size) ?_)
 case d2=>
  rw[show ekY.bytes=1 from rfl,Nat.mul_one]
  omega
 intro v' w3 hr3 hg3
 obtain⟨a4,n4,c4,rfl,_⟩:=hr3.shape'
 have au:Below base w w3:=(ac.mono aj).grown hg3 (Nat.le_trans aj ac.size) (fun k hk=>(ha1.own k hk).1)
 go_wp2
 go_ret
 exact⟨a4,n4,c4,rfl,hr3,au⟩
def A4n:List UInt8→List RI→List UInt8×Int
 | acc,[]=>(acc,0)
 | acc,r::rs=>if A1c r.number r.how r.bits r.bytes.length≠0 then([],A1c r.number r.how r.bits r.bytes.length) else A4n (acc++recN r.number r.how r.bits r.bytes) rs
theorem D6g {l:List RI}{k:Nat}{r:RI}(h:l[k]?=some r)(acc:List UInt8):A4n acc (l.drop k)=if A1c r.number r.how r.bits r.bytes.length≠0 then([],A1c r.number r.how r.bits r.bytes.length) else A4n (acc++recN r.number r.how r.bits r.bytes) (l.drop (k+1)):=by
 obtain⟨hk,rfl⟩:=List.getElem?_eq_some_iff.1 h
 rw[List.drop_eq_getElem_cons hk]
 rfl
theorem D2s {num how:Int}{bits len:Nat}(h:A1c num how bits len=0):(how=0∨how=1∨how=2∨how=5)∧1≤num∧num<536870912:=by
 unfold A1c at h
 split at h
 ·cases h
 ·rename_i hh
  have ac:how=0∨how=1∨how=2∨how=5:=by
   unfold A1z at hh
   have:=of_decide_eq_true (Bool.of_not_eq_false hh)
   exact this
  split at h
  ·cases h
  ·split at h
   ·cases h
   ·exact⟨ac,by omega,by omega⟩
def RecL (W w:World)(base:Nat)(v:Value)(l:List RI):Prop:=∃ l':List (RI×PV),Row ekR w base v l'∧l'.map Prod.fst=l∧∀ r∈l',RdL 1 YAt W r.2.v r.1.bytes∨Row ekY w base r.2.v r.1.bytes
theorem RecL.nil (W w:World)(base:Nat):RecL W w base (.slice none 0 0) []:=⟨[],Row.nil _ _ _,rfl,fun _ h=>by cases h⟩
theorem RecL.below {W w w':World}{base:Nat}{v:Value}{l:List RI}(h:RecL W w base v l)(hb:Below w.heap.size w w'):RecL W w' base v l:=by
 obtain⟨l',h1,h2,h3⟩:=h
 exact⟨l',h1.below hb,h2,fun r hr=>(h3 r hr).imp id fun k=>k.below hb⟩
theorem RecL.mono {W w:World}{base base':Nat}{v:Value}{l:List RI}(h:RecL W w base v l)(hb:base'≤base):RecL W w base' v l:=by
 obtain⟨l',h1,h2,h3⟩:=h
 exact⟨l',h1.mono hb,h2,fun r hr=>(h3 r hr).imp id fun k=>k.mono hb⟩
theorem RecL.back {W W' w:World}{base:Nat}{v:Value}{l:List RI}(h:RecL W w base v l)(hb:Below W.heap.size W W'):RecL W' w base v l:=by
 obtain⟨l',h1,h2,h3⟩:=h
 exact⟨l',h1,h2,fun r hr=>(h3 r hr).imp (fun k=>k.below YAt.stays hb) id⟩
theorem RecL.rd {W w:World}{base:Nat}{v:Value}{l:List RI}(h:RecL W w base v l)(hW:Below W.heap.size W w):RdL 4 RAt w v l:=by
 obtain⟨l',h1,rfl,h3⟩:=h
 refine D0u (P:=fun w x (p:RI×PV)=>w.cell? x=some (.int .i64 p.1.number)∧w.cell? (x.add 1)=some (.int .i64 p.1.how)∧w.cell? (x.add 2)=some (.int .u64 (p.1.bits:Int))∧w.cell? (x.add 3)=some p.2.v) Prod.fst (h1.rd _ fun g i a hc=>?_) ?_
 ·refine⟨by simpa using hc 0 _ rfl,?_,?_,?_⟩ <;> rw[A0d]
  ·exact hc 1 _ rfl
  ·exact hc 2 _ rfl
  ·exact hc 3 _ rfl
 ·rintro x p hp ⟨e0,e1,e2,e3⟩
  exact⟨p.2.v,e0,e1,e2,e3,(h3 p hp).elim (fun k=>k.below YAt.stays hW) fun k=>k.rdY⟩
theorem RecL.shape {W w:World}{base:Nat}{v:Value}{l:List RI}(h:RecL W w base v l):∃ ao n cap,v = .slice ao n cap∧Hid (n=l.length):=by
 obtain⟨l',h1,rfl,_⟩:=h
 obtain⟨ao,n,cap,e,hn⟩:=h1.shape'
 exact⟨ao,n,cap,e,by show _=_;rw[hn.out];simp⟩
theorem RecL.own {W w:World}{base:Nat}{v:Value}{l:List RI}(h:RecL W w base v l):∀ k,v.ownBlock=some k→base≤k:=by
 obtain⟨l',h1,_,_⟩:=h
 exact fun k hk=>(h1.own k hk).1
theorem RecL.app {W w w':World}{base:Nat}{v v':Value}{l m:List RI}{l' m':List (RI×PV)}{o:Option Obj}(ac:Row ekR w base v l')(hl2:l'.map Prod.fst=l)(ag:∀ r∈l',RdL 1 YAt W r.2.v r.1.bytes∨Row ekY w base r.2.v r.1.bytes)(ah:m'.map Prod.fst=m)(aj:∀ r∈m',RdL 1 YAt W r.2.v r.1.bytes∨Row ekY w base r.2.v r.1.bytes)(hr:Row ekR w' base v' (l'++m'))(hg:w.grownBy w' v.ownBlock)(_:o=none):RecL W w' base v' (l++m):=by
 refine⟨l'++m',hr,by rw[List.map_append,hl2,ah],fun r ak=>?_⟩
 rcases List.mem_append.1 ak with h|h
 ·exact(ag r h).imp id fun k=>k.grown hg (k.ne ac (by decide))
 ·exact(aj r h).imp id fun k=>k.grown hg (k.ne ac (by decide))
def A9f:List UInt8→List RI→List UInt8×Int
 | acc,[]=>(acc,0)
 | acc,r::rs=>if A1c r.number r.how r.bits r.bytes.length≠0 then([],A1c r.number r.how r.bits r.bytes.length) else if 4000<(acc++recN r.number r.how r.bits r.bytes).length then([],4) else A9f (acc++recN r.number r.how r.bits r.bytes) rs
def ZcAt (w:World)(x:Addr)(z:List UInt8×PV):Prop:=w.cell? x=some z.2.v
theorem ZcAt.stays:A4p ZcAt:=fun _ _ _ _ hb h=>A0c hb h
theorem ZcAt.plain:A8j ZcAt:=fun _ _ _ _ _ h=>A1n h
def VSm {β:Type}(Q : β→Prop)(v:VI β):Prop:=v.bits.length≤1048576∧(∀ n∈v.bits,n≤18446744073709551615)∧v.bytes.length≤1048576∧(∀ z∈v.bytes,z.length≤1048576)∧v.subs.length≤1048576∧∀ s∈v.subs,Q s
def OSm {β:Type}(Q : β→Prop)(b:BO β):Prop:=(∀ v∈b.vals,VSm Q v)∧b.unk.length≤1048576∧∀ r∈b.unk,r.bits≤18446744073709551615∧r.bytes.length≤1048576
def BSm:(d:Nat)→BI d→Prop
 | 0=>fun _=>True
 | d+1=>fun b=>OSm (BSm d) b
def E1d (n:Nat)(s:TI):Prop:=1≤s.kind∧s.kind≤4∧1≤s.number∧s.number<536870912∧0≤s.how∧s.how≤7∧(s.kind=4→0≤s.next∧s.next<n)
def A3t {β:Type}(num:Int)(deep : β→List UInt8×Int):List UInt8→List β→List UInt8×Int
 | acc,[]=>(acc,0)
 | acc,b::r=>if (deep b).2≠0 then([],(deep b).2) else A3t num deep (acc++A2a num [(deep b).1]) r
theorem C9x {β:Type}{num:Int}{deep : β→List UInt8×Int}{l:List β}{k:Nat}{b : β}(h:l[k]?=some b)(acc:List UInt8):A3t num deep acc (l.drop k)=if (deep b).2≠0 then([],(deep b).2) else A3t num deep (acc++A2a num [(deep b).1]) (l.drop (k+1)):=by
 obtain⟨hk,rfl⟩:=List.getElem?_eq_some_iff.1 h
 rw[List.drop_eq_getElem_cons hk]
 rfl
def A3p {β:Type}(deep:TI→β→List UInt8×Int)(s:TI)(v:VI β):List UInt8×Int:=
 if s.kind=1 then(A8x s v.bits,0) else if s.kind=2 then(A2a s.number [packedN s.how (v.bits.map (A4o s.field))],0)
 else if s.kind=3 then(A2a s.number v.bytes,0) else A3t s.number (deep s) [] v.subs
def A3f {β:Type}(deep:TI→β→List UInt8×Int)(x:List (VI β)):List UInt8→List TI→List UInt8×Int
 | acc,[]=>(acc,0)
 | acc,s::r=>match x.find? fun v=>decide (v.number=s.number) with
  | none=>A3f deep x acc r
  | some v=>if (A3p deep s v).2≠0 then([],(A3p deep s v).2) else A3f deep x (acc++(A3p deep s v).1) r
theorem D2l {β:Type}{deep:TI→β→List UInt8×Int}{x:List (VI β)}{l:List TI}{k:Nat}{s:TI}(h:l[k]?=some s)(acc:List UInt8):A3f deep x acc (l.drop k)=match x.find? fun v=>decide (v.number=s.number) with
  | none=>A3f deep x acc (l.drop (k+1))
  | some v=>if (A3p deep s v).2≠0 then([],(A3p deep s v).2) else A3f deep x (acc++(A3p deep s v).1) (l.drop (k+1)):=by
 obtain⟨hk,rfl⟩:=List.getElem?_eq_some_iff.1 h
 rw[List.drop_eq_getElem_cons hk]
 rfl
def KQ:(d:Nat)→World→Value→Value→BI d→Prop
 | 0=>fun _ _ _ _=>False
 | d+1=>fun w v0 v1 b=>BRd d w v0 v1 b
theorem KQ.below:∀ {d:Nat}{w w':World}{v0 v1:Value}{x:BI d},KQ d w v0 v1 x→Below w.heap.size w w'→KQ d w' v0 v1 x
 | 0,_,_,_,_,_,h,_=>h
 | _+1,_,_,_,_,_,h,hb=>BRd.below h hb
theorem BAt.kq:∀ {d:Nat}{w:World}{b o:Nat}{x:BI d},BAt d w ⟨b,o,none⟩ x→∃ v0 v1,w.cell? ⟨b,o,none⟩=some v0∧w.cell? ⟨b,o+1,none⟩=some v1∧KQ d w v0 v1 x
 | 0,_,_,_,_,h=>h.elim
 | _+1,_,_,_,_,h=>h.at
theorem KQ.shape:∀ {d:Nat}{w:World}{v0 v1:Value}{x:BI d},KQ d w v0 v1 x→∃ a0 n0 c0 a1 n1 c1,v0 = .slice a0 n0 c0∧v1 = .slice a1 n1 c1
 | 0,_,_,_,_,h=>h.elim
 | _+1,_,_,_,_,h=>by
  obtain⟨a0,n0,c0,e0,_,_⟩:=h.1.shape
  obtain⟨a1,n1,c1,e1,_,_⟩:=h.2.shape
  exact⟨a0,n0,c0,a1,n1,c1,e0,e1⟩
def KDeep (d:Nat)(W:World)(fn:Nat)(cap:Array Value)(next:Int)(f:BI d→List UInt8×Int)(x:BI d):Prop:=
 ∀ (V:World) (v0 v1:Value),Below W.heap.size W V→KQ d V v0 v1 x→Calls Tryz.prog fn (#[.int .i64 next,.agg #[v0,v1]]++cap) V fun e w'=>∃ ao n c,e = .returned (.tuple #[.slice ao n c,.int .i64 (f x).2])∧Row ekY w' V.heap.size (.slice ao n c) (f x).1∧Below V.heap.size V w'
theorem KDeep.below {d:Nat}{W W':World}{fn:Nat}{cap:Array Value}{next:Int}{f:BI d→List UInt8×Int}{x:BI d}(h:KDeep d W fn cap next f x)(hb:Below W.heap.size W W'):KDeep d W' fn cap next f x:=
 fun V v0 v1 hV=>h V v0 v1 (KBT hb hV)
theorem A8h (num:Int)(b:List UInt8):(A2a num [b]).length≤20+b.length:=by
 unfold A2a
 simp only[List.flatMap_cons,List.flatMap_nil,List.append_nil,List.length_append]
 have:=A5g num 2
 have:=A6f b.length
 omega
theorem D7c (w:World){ao:Option Addr}{n cap:Nat}{b:List UInt8}(h:RdL 1 YAt w (.slice ao n cap) b):RdL 1 ZAt (w.alloc (.cells #[.slice ao n cap] 32)) (.slice (some ⟨w.heap.size,0,none⟩) 1 1) [b]:=by
 refine⟨_,1,1,rfl,rfl,Nat.le_refl _,by unfold maxLen;omega,(fun e=>by cases e),fun x hx k a ha=>?_⟩
 cases hx
 cases k with
 | succ k=>simp at ha
 | zero=>
  have ha:b=a:=by simpa using ha
  subst ha
  rw[A0d]
  exact⟨_,A0a (heap_alloc_new w _) 0 _ rfl,h.below YAt.stays ((Below.refl _ _).alloc (Nat.le_refl _) _)⟩
def CDeep (d:Nat)(W:World)(fn:Nat)(cap:Array Value)(name:List UInt8)(f:BI d→List UInt8×Int)(x:BI d):Prop:=
 ∀ (V:World) (v0 v1:Value),Below W.heap.size W V→KQ d V v0 v1 x→Calls Tryz.prog fn (#[.string (S name),.agg #[v0,v1]]++cap) V fun e w'=>∃ ao n c,e = .returned (.tuple #[.slice ao n c,.int .i64 (f x).2])∧Row ekY w' V.heap.size (.slice ao n c) (f x).1∧Below V.heap.size V w'
theorem CDeep.below {d:Nat}{W W':World}{fn:Nat}{cap:Array Value}{name:List UInt8}{f:BI d→List UInt8×Int}{x:BI d}(h:CDeep d W fn cap name f x)(hb:Below W.heap.size W W'):CDeep d W' fn cap name f x:=
 fun V v0 v1 hV=>h V v0 v1 (KBT hb hV)
def A5q {β:Type}(f : β→List UInt8×Int):List (List UInt8)→List β→List (List UInt8)×Int
 | acc,[]=>(acc,0)
 | acc,b::r=>if (f b).2≠0 then([],(f b).2) else A5q f (acc++[(f b).1]) r
def B7b (num:Int)(b:List UInt8):RI:=⟨num,2,0,b⟩
theorem C2r {num:Int}{ls:List (List UInt8)}(hl:ls.length≤1048576)(hs:∀ z∈ls,z.length≤1048576):(A2a num ls).length≤5000000000000:=by
 have:=B2r (l:=ls) (f:=fun b=>ktagN num 2++A6l b.length++b) (c:=1048596) fun b hb=>by
  have h1:=A5g num 2
  have h2:=A6f b.length
  have h3:=hs b hb
  simp only[List.length_append]
  omega
 unfold A2a
 have h4:ls.length*1048596≤1048576*1048596:=Nat.mul_le_mul_right _ hl
 omega
theorem B0q (how:Int)(l:List Nat):(packedN how l).length≤l.length*10:=by
 unfold packedN
 split
 ·exact B2r fun n _=>A9q how n
 ·simp
theorem C3e {β:Type}(num:Int)(f : β→List UInt8×Int)(hf:∀ x,(f x).1.length≤4001):∀ (l:List β) (acc:List UInt8),(A3t num f acc l).1.length≤acc.length+l.length*4021
 | [],acc=>by simp[A3t]
 | b::r,acc=>by
  rw[A3t]
  split
  ·simp
  ·have:=C3e num f hf r (acc++A2a num [(f b).1])
   rw[List.length_append] at this
   have h2:=A8h num (f b).1
   have h3:=hf b
   rw[List.length_cons,Nat.succ_mul]
   omega
theorem B9r {β:Type}{Q : β→Prop}(deep:TI→β→List UInt8×Int)(hf:∀ s x,(deep s x).1.length≤4001)(s:TI)(v:VI β)(hv:VSm Q v):(A3p deep s v).1.length≤5000000000000:=by
 obtain⟨h1,_,h3,h4,h5,_⟩:=hv
 unfold A3p
 split
 ·have:=C6z s v.bits
  simp only
  omega
 ·split
  ·have:=A8h s.number (packedN s.how (v.bits.map (A4o s.field)))
   have h7:=B0q s.how (v.bits.map (A4o s.field))
   rw[List.length_map] at h7
   simp only
   omega
  ·split
   ·exact C2r h3 h4
   ·have:=C3e s.number (deep s) (hf s) v.subs []
    simp only[List.length_nil,Nat.zero_add] at this
    omega
theorem B8e (w:World)(o o':Obj):Below w.heap.size w ((w.alloc o).alloc o'):=((Below.refl _ _).alloc (Nat.le_refl _) _).alloc (by simp) _
def A3e {β:Type}(deep:List UInt8→β→List UInt8×Int)(x:FI)(v:VI β):List RI×Int:=
 if x.kind=10 then((A5q (deep x.type) [] v.subs).1.map (B7b x.number),(A5q (deep x.type) [] v.subs).2)
 else if A2e x.kind=2 then(v.bytes.map (B7b x.number),0)
 else if x.many=true then([B7b x.number (packedN (A2e x.kind) (v.bits.map (A4o x.kind)))],0)
 else([⟨x.number,A2e x.kind,A4o x.kind (v.bits.headD 0),[]⟩],0)
end L
end Go.Proofs.YtgaoojpakjjdnaaGreatDoor
