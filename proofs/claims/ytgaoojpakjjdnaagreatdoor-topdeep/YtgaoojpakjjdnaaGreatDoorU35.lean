import Derived.Test.YtgaoojpakjjdnaaGreatDoorU34
import Derived.Test.YtgaoojpakjjdnaaGreatDoorU22
import Derived.Test.YtgaoojpakjjdnaaGreatDoorU27
set_option maxHeartbeats 32000000
set_option maxRecDepth 100000
namespace Go.Proofs.YtgaoojpakjjdnaaGreatDoor
namespace L
open Go.RowKit
set_option linter.unusedVariables false
def A7i (g:GI) (msg:Int) (l:List UInt8):Except Int (BI 12):=
 if (wrongL g).1≠0 then .error (wrongL g).1
 else if msg < 0∨(g.msgs.length:Int)≤msg then .error 6
 else match g.msgs[msg.toNat]? with
  | some m=>A5i g 12 m l
  | none=>.error 6
theorem WIn.any {g:GI}{am:Option Addr}{nm cm:Nat}{ae:Option Addr}{ne ce:Nat}{msg:Int}{w:World}(h:WIn g am nm cm ae ne ce msg w) (j:Nat) (hj:j < g.msgs.length):WIn g am nm cm ae ne ce (j:Int) w:=⟨h.hg,h.n1,h.n2,h.fit,h.fok,h.tabs,by omega,by have:=h.n1;omega⟩
theorem WIn.gd {g:GI}{am:Option Addr}{nm cm:Nat}{ae:Option Addr}{ne ce:Nat}{msg:Int}{w:World}(h:WIn g am nm cm ae ne ce msg w) (hr:(wrongL g).1=0):FGd g:=⟨fun M hM x hx=>((h.fok M hM).1 x hx).1,fun M hM x hx hk=>A5v hr M hM x hx hk⟩
theorem A7z {g:GI}(HS:Hid (∀ M∈g.msgs,∀ x∈M.fields,x.many=false→x.kind=10→A7s g x)){am:Option Addr}{nm cm:Nat}{ae:Option Addr}{ne ce:Nat}{msg:Int}{w:World}(hI:WIn g am nm cm ae ne ce msg w){ao:Option Addr}{k c:Nat}{l:List UInt8}(hl:RdL 1 YAt w (.slice ao k c) l) :
  Calls Tryz.prog 9 #[.agg #[.slice am nm cm,.slice ae ne ce],.int .i64 msg,.slice ao k c] w fun e w'=>DOut 12 w (A7i g msg l) e w':=by
 obtain⟨W2,aj⟩:∃ W2,Hid (W2=(w.alloc (.cells #[.slice am nm cm,.slice ae ne ce] 25)).alloc (.cells #[.slice none 0 0,.slice none 0 0] 29)):=⟨_,rfl⟩
 have hb2:Below w.heap.size w W2:=by rw[aj.out];exact((Below.refl _ _).alloc (Nat.le_refl _) _).alloc (by simp) _
 have z2:w.heap.size+2≤W2.heap.size:=by rw[aj.out];simp
 have x1:W2.heap[w.heap.size]?=some (.cells #[.slice am nm cm,.slice ae ne ce] 25 (0,0)):=by rw[aj.out];exact A0l _ _ _
 have x2:W2.heap[w.heap.size+1]?=some (.cells #[.slice none 0 0,.slice none 0 0] 29 (0,0)):=by rw[aj.out];exact A0i _ _ _
 have hwr:=A8w (hI.hg.below hb2) hI.n1 hI.n2 hI.fit
 obtain⟨Q,HQ⟩:∃ Q,Hid (Q=(wrongL g).1):=⟨_,rfl⟩
 obtain⟨QI,br⟩:∃ QI,Hid (QI=(((wrongL g).2:Nat):Int)):=⟨_,rfl⟩
 rw[←HQ.out,←br.out] at hwr
 have aw:Hid (nm=g.msgs.length):=hI.hg.1.len.1
 obtain⟨R,HR⟩:∃ R,Hid (A7i g msg l=R):=⟨_,rfl⟩
 rw[HR.out]
 have HI:Hid (WIn g am nm cm ae ne ce msg w):=hI
 have HL:Hid (RdL 1 YAt w (.slice ao k c) l):=hl
 clear hI hl
 obtain⟨y0,y1⟩:=A0s x1
 go_enter Tryz.func9,Tryz.ntmps9
 go_upto_region 1 with fail
 rw[←aj.out]
 go_wp2_with fail
 refine hwr.mono ?_
 rintro r w3 ⟨rfl,hb3⟩
 obtain⟨W4,ak⟩:∃ W4,Hid (W4=w3.alloc (.cells #[.int .i64 Q,.int .i64 QI] 50)):=⟨_,rfl⟩
 have ba:Below w3.heap.size w3 W4:=by rw[ak.out];exact(Below.refl _ _).alloc (Nat.le_refl _) _
 have x4:W4.heap[w3.heap.size]?=some (.cells #[.int .i64 Q,.int .i64 QI] 50 (0,0)):=by rw[ak.out];exact heap_alloc_new _ _
 have dg:w3.heap.size+1≤W4.heap.size:=by rw[ak.out];simp
 have ah:Below W2.heap.size W2 W4:=BTr hb3 ba
 have ac:Below w.heap.size w W4:=BTr hb2 ah
 have hz3:=hb3.size
 clear y0 y1 hwr
 go_upto_region 2 with fail
 rw[←ak.out]
 obtain⟨t0,t1⟩:=A0s x4
 obtain⟨y0,y1⟩:=A0s ((ah.block _ (by omega)).trans x1)
 have bl:=(ah.block _ (by omega)).trans x2
 obtain⟨p0,p1⟩:=A0s bl
 have pf:=A0b bl
 have n1:¬ w3.heap.size=w.heap.size+1:=by omega
 have n2:¬ w.heap.size+1=w3.heap.size:=by omega
 by_cases hQ0:Q=0
 ·have hr:(wrongL g).1=0:=by rw[←HQ.out];exact hQ0
  subst hQ0
  by_cases hlo:msg < 0
  ·have HT:Hid (R = .error 6):=by show _=_;rw[←HR.out,A7i,if_neg (by rw[hr];simp),if_pos (.inl hlo)]
   go_wp2_with fail
   refine bodyPost_ret (v:=.tuple #[.agg #[.slice none 0 0,.slice none 0 0],.int .i64 6]) (by simp[results,Tryz.results9,go_sem, *]) rfl ?_
   rw[HT.out]
   exact⟨by decide,rfl,by first|exact ac|exact KB_set (KB_set ac (by omega)) (by omega)⟩
  ·by_cases hhi:(nm:Int)≤msg
   ·have HT:Hid (R = .error 6):=by show _=_;rw[←HR.out,A7i,if_neg (by rw[hr];simp),if_pos (.inr (by rw[←aw.out];exact hhi))]
    have bg:¬ msg < 0:=hlo
    go_wp2_with fail
    refine bodyPost_ret (v:=.tuple #[.agg #[.slice none 0 0,.slice none 0 0],.int .i64 6]) (by simp[results,Tryz.results9,go_sem, *]) rfl ?_
    rw[HT.out]
    exact⟨by decide,rfl,by first|exact ac|exact KB_set (KB_set ac (by omega)) (by omega)⟩
   ·obtain⟨j,Hj⟩:∃ j:Nat,Hid (msg=(j:Int)):=⟨msg.toNat,by show _=_;omega⟩
    obtain⟨M,hM⟩:∃ M,g.msgs[j]?=some M:=⟨g.msgs[j]'(by have:=Hj.out;have:=aw.out;omega),List.getElem?_eq_getElem _⟩
    have HT:Hid (R=A5i g 12 M l):=by
     show _=_
     have e:msg.toNat=j:=by have:=Hj.out;omega
     rw[←HR.out,A7i,if_neg (by rw[hr];simp),if_neg (by rw[←aw.out];omega),e,hM]
    obtain⟨bm,om,rfl,hat⟩:=HI.out.hg.1.get MAt.plain hM
    obtain⟨vf,vb,s0,s1,s2,bh,bq⟩:=hat.at
    obtain⟨af,nf,kf,rfl,_,_⟩:=bh.shape
    obtain⟨ab,nb,kb,rfl,_,_⟩:=bq.shape
    have bg:¬ msg < 0:=hlo
    have cg:msg < (nm:Int):=by omega
    have hd:Below w.heap.size w W4.drew:=ac.drew
    have bw:Below W4.heap.size W4 W4.drew:=(Below.refl _ _).drew
    have ag:∀ V,Below (w.heap.size+1) W2 V→V.cell? ⟨w.heap.size,0,none⟩=some (.slice (some ⟨bm,om,none⟩) nm cm)∧V.cell? ⟨w.heap.size,1,none⟩=some (.slice ae ne ce)∧V.cell? ⟨bm,om+j*3,none⟩=some (.string (S M.name))∧V.cell? ⟨bm,om+j*3+1,none⟩=some (.slice af nf kf)∧V.cell? ⟨bm,om+j*3+2,none⟩=some (.slice ab nb kb):=fun V hV=>by
     have bk:Below w.heap.size w V:=hb2.trans (hV.mono (by omega))
     obtain⟨e1,e2⟩:=A0s ((hV.block _ (by omega)).trans x1)
     exact⟨e1,e2,A0c bk s0,A0c bk s1,A0c bk s2⟩
    have cu:∀ U,Below w.heap.size w U→Calls Tryz.prog 21 #[.agg #[.slice (some ⟨bm,om,none⟩) nm cm,.slice ae ne ce],.agg #[.string (S M.name),.slice af nf kf,.slice ab nb kb],.slice ao k c,.int .i64 1] U fun e w'=>∃ (i0:Option Addr) (j0 l0:Nat) (i1:Option Addr) (j1 l1:Nat) (E:Int),e = .returned (.tuple #[.agg #[.slice i0 j0 l0,.slice i1 j1 l1],.int .i64 E])∧Hid (DRes 12 U.heap.size R i0 j0 l0 i1 j1 l1 E w')∧Below U.heap.size U w':=fun U hU=>by
     refine(B6y (HI.out.gd hr) HS 12 U _ _ _ _ _ _ _ _ _ ab nb kb M ao k c l 1 (by decide) (by decide) (fun i hi=>(HI.out.below hU).any i hi) (List.mem_of_getElem? hM) (bh.below FAt.stays hU) (HL.out.below YAt.stays hU)).mono ?_
     intro e w' ho
     rw[←HT.out] at ho
     obtain⟨i0,j0,l0,i1,j1,l1,E,h1,h2,h3⟩:=ho.open
     exact⟨i0,j0,l0,i1,j1,l1,E,h1,h2,h3⟩
    have bp:Below (w.heap.size+1) W2 W4.drew:=(ah.drew).mono (by omega)
    clear hat s0 s1 s2 bh bq hM
    have cj:msg=(j:Int):=Hj.out
    subst cj
    go_upto_region 6 with fail
    refine wp_region_held_drew (S:=fun U=>Below (w.heap.size+1) W2 U) (by kernel_rfl) bp (fun hHeld=>?_)
    refine tK (i:=0) (v:=?vr1) rfl ⟨by rfl,?hyr1⟩ ?_
    case hyr1=>(intro W h;have:=ag W h;go_simp;first|done|with_reducible rfl)
    try simp only[pT,Act.put]
    refine tK (i:=1) (v:=?vr2) rfl ⟨by rfl,?hyr2⟩ ?_
    case hyr2=>(intro W h;have:=ag W h;go_simp;first|done|with_reducible rfl)
    try simp only[pT,Act.put]
    refine tK (i:=2) (v:=?vr3) rfl ⟨by rfl,?hyr3⟩ ?_
    case hyr3=>(intro W h;have:=ag W h;go_simp;first|done|with_reducible rfl)
    try simp only[pT,Act.put]
    refine tK (i:=3) (v:=?vr4) rfl ⟨by rfl,?hyr4⟩ ?_
    case hyr4=>(intro W h;have:=ag W h;go_simp;first|done|with_reducible rfl)
    try simp only[pT,Act.put]
    refine tK (i:=4) (v:=?vr5) rfl ⟨by rfl,?hyr5⟩ ?_
    case hyr5=>(intro W h;have:=ag W h;go_simp;first|done|with_reducible rfl)
    try simp only[pT,Act.put]
    refine tK (i:=5) (v:=?vr6) rfl ⟨by rfl,?hyr6⟩ ?_
    case hyr6=>(intro W h;have:=ag W h;go_simp;first|done|with_reducible rfl)
    try simp only[pT,Act.put]
    refine tK (i:=6) (v:=?vr7) rfl ⟨by rfl,?hyr7⟩ ?_
    case hyr7=>(intro W h;have:=ag W h;go_simp;first|done|with_reducible rfl)
    try simp only[pT,Act.put]
    refine rA (i:=7) rfl fun K hK=>?_
    go_simp
    refine(cu _ hd).mono ?_
    rintro e w5 ⟨i0,j0,l0,i1,j1,l1,E,rfl,au,bc⟩
    have bt:=BTr hd bc
    have bn:=((BTr bw bc).block _ (by omega)).trans bl
    have bv:Below (w.heap.size+1) W2 w5:=bp.trans (bc.mono (by have:=ac.size;show _≤W4.heap.size;omega))
    obtain⟨dh,di⟩:=A0s bn
    have dl:=A0b bn
    have bu:Below w.heap.size w ((w5.setCell ⟨w.heap.size+1,0,none⟩ (.slice i0 j0 l0)).setCell ⟨w.heap.size+1,1,none⟩ (.slice i1 j1 l1)):=KB_set (KB_set bt (by omega)) (by omega)
    have df:Below (w.heap.size+1) W2 ((w5.setCell ⟨w.heap.size+1,0,none⟩ (.slice i0 j0 l0)).setCell ⟨w.heap.size+1,1,none⟩ (.slice i1 j1 l1)):=KB_set (KB_set bv (Nat.le_refl _)) (Nat.le_refl _)
    refine hK.out _ _ ?_ (fun hHeld=>?_)
    ·(try dsimp only);with_reducible assumption
    clear hK K
    try simp only[pT,Act.put]
    refine tK (i:=8) (v:=?vr8) rfl ⟨by rfl,?hyr8⟩ ?_
    case hyr8=>(intro W h;have:=ag W h;go_simp;first|done|with_reducible rfl)
    try simp only[pT,Act.put]
    refine tK (i:=9) (v:=?vr9) rfl ⟨by rfl,?hyr9⟩ ?_
    case hyr9=>(intro W h;have:=ag W h;go_simp;first|done|with_reducible rfl)
    try simp only[pT,Act.put]
    refine rA (i:=10) rfl fun K hK=>?_
    go_simp
    refine hK.out _ _ ?_ (fun hHeld=>?_)
    ·(try dsimp only);with_reducible assumption
    clear hK K
    try simp only[pT,Act.put]
    refine tK (i:=11) (v:=?vr10) rfl ⟨by rfl,?hyr10⟩ ?_
    case hyr10=>(intro W h;have:=ag W h;go_simp;first|done|with_reducible rfl)
    try simp only[pT,Act.put]
    refine wpAnyH_done (by kernel_rfl) ?_ _
    go_wp2_with fail
    refine bodyPost_ret (v:=.tuple #[.agg #[.slice i0 j0 l0,.slice i1 j1 l1],.int .i64 E]) (by simp[results,Tryz.results9,go_sem, *]) rfl ?_
    have cw:=ac.size
    exact(au.out.fr (fr2 bn) (show w.heap.size+1 < W4.heap.size by omega)).out cw bu
 ·have HT:Hid (R = .error Q):=by show _=_;rw[←HR.out,A7i,if_pos (by rw[←HQ.out];exact hQ0),HQ.out]
  have ez:(Q != 0)=true:=by simpa using hQ0
  go_upto_region 3 with fail
  go_region
  all_goals
   go_wp2_with fail
   refine bodyPost_ret (v:=.tuple #[.agg #[.slice none 0 0,.slice none 0 0],.int .i64 Q]) (by simp[results,Tryz.results9,go_sem, *]) rfl ?_
   rw[HT.out]
   exact⟨hQ0,rfl,(KB_set (KB_set ac (by omega)) (by omega)).drew⟩
open Go.RowKit
theorem C4b (n:Nat) (w:World):Calls Tryz.prog 205 #[.int .u64 (n:Int)] w fun e w'=>e = .returned (.int .u64 ((B0h 2 n:Nat):Int))∧w=w':=by
 have hw : -9223372036854775808≤IntKind.i64.wrap (n:Int)∧IntKind.i64.wrap (n:Int)≤9223372036854775807:=by rw[IntKind.wrap_i64];omega
 have hf:=C1o (IntKind.i64.wrap (n:Int)) w hw.1 hw.2
 have h0:=(C1d _ hw.1 hw.2).1
 have HN:Hid (((B0h 2 n:Nat):Int)=A9i (IntKind.i64.wrap (n:Int))):=by
  show _=_;unfold B0h;rw[if_pos rfl];omega
 clear h0
 have ac:wrap64 (n:Int)=IntKind.i64.wrap (n:Int):=by rw[IntKind.wrap_i64,wrap64]
 rw[←ac] at hf HN
 clear hw ac
 go_enter Tryz.func205,Tryz.ntmps205
 go_wp2_with fail
 refine hf.mono ?_
 rintro e w1 ⟨rfl,rfl⟩
 go_wp2
 go_ret
 exact⟨by rw[HN.out];rfl,rfl⟩
theorem C4c (n:Nat) (w:World):Calls Tryz.prog 207 #[.int .u64 (n:Int)] w fun e w'=>e = .returned (.int .u64 (n:Int))∧w=w':=by
 go_enter Tryz.func207,Tryz.ntmps207
 go_wp2
 go_ret
 exact⟨rfl,rfl⟩
theorem C4d {w:World}{v:Value}{l:List Nat}(h:RdL 1 UAt w v l) (hm:∀ n∈l,n≤18446744073709551615) (hl:l.length≤100000000000) (kind:Int) :
  Calls Tryz.prog 84 #[.int .i64 kind,v] w fun e w'=>∃ ao n cap,e = .returned (.slice ao n cap)∧Row ekU w' w.heap.size (.slice ao n cap) (l.map (B0h kind))∧Below w.heap.size w w':=by
 obtain⟨a1,n1,c1,rfl,H1,_⟩:=h.shape
 by_cases hk:kind=2
 rotate_right
 focus
  have hk2:(kind == 2)=false:=by simp[hk]
  have he:=B1s h hm hl (enters_of Tryz.func207 (by kernel_rfl) rfl) (one:=B0h kind) (fun n W _=>by
   have e:B0h kind n=n:=by unfold B0h;rw[if_neg hk]
   rw[e];exact C4c n W)
  have hb:∀ W,Calls Tryz.prog 149 #[.int .i64 kind] W fun e w'=>e = .returned (.func (.func 207) #[] #[])∧W=w':=fun W=>by
   clear he
   go_enter Tryz.func149,Tryz.ntmps149
   go_wp2
   go_ret
   exact⟨rfl,rfl⟩
  have ac:=hb w
  clear hk2 hk
 rotate_right
 focus
  subst hk
  have he:=B1s h hm hl (enters_of Tryz.func205 (by kernel_rfl) rfl) (one:=B0h 2) (fun n W _=>C4b n W)
  have hb:∀ W,Calls Tryz.prog 149 #[.int .i64 2] W fun e w'=>e = .returned (.func (.func 205) #[] #[])∧W=w':=fun W=>by
   go_enter Tryz.func149,Tryz.ntmps149
   go_wp2
   go_ret
   exact⟨rfl,rfl⟩
  have ac:=hb w
 all_goals
  go_enter Tryz.func84,Tryz.ntmps84
  go_wp2_with fail
  refine ac.mono ?_
  rintro e w1 ⟨rfl,rfl⟩
  go_wp2_with fail
  refine he.mono ?_
  rintro e w2 ⟨ao,n,cap,rfl,hr,hb2⟩
  go_wp2
  go_ret
  exact⟨ao,n,cap,rfl,hr,hb2⟩
theorem B3l (a b:Int):(C1q a b).length≤10:=A7b _
theorem B4u (kind:Int) (n:Nat) (hn:n≤18446744073709551615):B0h kind n≤18446744073709551615:=by
 unfold B0h
 split
 ·have hw : -9223372036854775808≤IntKind.i64.wrap (n:Int)∧IntKind.i64.wrap (n:Int)≤9223372036854775807:=by rw[IntKind.wrap_i64];omega
  have:=C1d _ hw.1 hw.2
  omega
 ·exact hn
open Go.RowKit
def B0s (num how:Int) (bits:Nat) (l:List UInt8):List UInt8:=C1q num how++(if how=2 then A9v l.length++l else A7y how bits)
theorem B7a (num how:Int) (bits:Nat) (l:List UInt8):(B0s num how bits l).length≤20+l.length:=by
 unfold B0s
 rw[List.length_append]
 have h1:=B3l num how
 split
 ·rw[List.length_append]
  have:=A7b l.length
  omega
 ·have:=A9l how bits
  omega
theorem C0i {w:World}{g:Nat}{a0 a1 a2 a3:Value}{t:TypeId}(h:w.heap[g]?=some (.cells #[a0,a1,a2,a3] t (0,0))) :
  w.cell? ⟨g,0,none⟩=some a0∧w.cell? ⟨g,1,none⟩=some a1∧w.cell? ⟨g,2,none⟩=some a2∧w.cell? ⟨g,3,none⟩=some a3:=
 ⟨A0a h 0 _ rfl,A0a h 1 _ rfl,A0a h 2 _ rfl,A0a h 3 _ rfl⟩
theorem A3v {w:World}{v:Value}{l:List UInt8}(h:RdL 1 YAt w v l) (num how:Int) (bits:Nat) (hb:bits≤18446744073709551615) (hl:l.length≤1000000000000) (h1:0≤num) (h2:num≤536870912) (h3:0≤how) (h4:how≤7) :
  Calls Tryz.prog 153 #[.agg #[.int .i64 num,.int .i64 how,.int .u64 (bits:Int),v]] w fun e w'=>∃ ao n cap,e = .returned (.slice ao n cap)∧Row ekY w' w.heap.size (.slice ao n cap) (B0s num how bits l)∧Below w.heap.size w w':=by
 obtain⟨a1,n1,c1,rfl,H1,ba⟩:=h.shape
 obtain⟨W0,ah⟩:∃ W0,Hid (W0=w.alloc (.cells #[.int .i64 num,.int .i64 how,.int .u64 (bits:Int),.slice a1 n1 c1] 106)):=⟨_,rfl⟩
 have hb0:Below w.heap.size w W0:=by rw[ah.out];exact(Below.refl _ _).alloc (Nat.le_refl _) _
 have hz0:w.heap.size+1≤W0.heap.size:=by rw[ah.out];simp
 have x0:W0.heap[w.heap.size]?=some (.cells #[.int .i64 num,.int .i64 how,.int .u64 (bits:Int),.slice a1 n1 c1] 106 (0,0)):=by rw[ah.out];exact heap_alloc_new _ _
 have ak:=C5j W0.heap.size (.slice none 0 0) [] num how W0 (Row.nil _ _ _) (Nat.le_refl _) h1 h2 h3 h4 (by simp)
 have hT:=B3l num how
 go_enter Tryz.func153,Tryz.ntmps153
 go_wp2_with fail
 rw[←ah.out]
 refine ak.mono ?_
 rintro e w1 ⟨v1,rfl,hr1,hb1⟩
 rw[List.nil_append] at hr1
 obtain⟨a2,n2,c2,rfl,_⟩:=hr1.shape'
 obtain⟨t0,t1,t2,t3⟩:=C0i ((hb1.block _ (by omega)).trans x0)
 have aw:Below w.heap.size w w1:=KBT hb0 hb1
 clear ak
 by_cases hh:how=2
 ·have hq:(how == 2)=true:=by simp[hh]
  have HN:Hid (B0s num how bits l=C1q num how++A9v l.length++l):=by show _=_;unfold B0s;rw[if_pos hh,List.append_assoc]
  have hput:=B2c W0.heap.size _ _ l.length w1 hr1 hb1.size (by rw[←H1.out];omega) (by omega)
  rw[←H1.out] at hput
  have hP:=A7b n1
  clear hh
  go_wp2_with fail
  refine hput.mono ?_
  rintro e w2 ⟨v2,rfl,hr2,hb2⟩
  obtain⟨a3,n3,c3,rfl,_⟩:=hr2.shape'
  have ac:Below W0.heap.size W0 w2:=hb1.trans hb2
  obtain⟨p0,p1,p2,p3⟩:=C0i ((ac.block _ (by omega)).trans x0)
  have aj:Below w.heap.size w w2:=KBT hb0 ac
  obtain⟨q1,q2,q3⟩:=C8j (h.below YAt.stays aj)
  clear hput t0 t1 t2 t3 hr1
  go_wp2_with (at_builtin;refine A1n (by rfl) ekY _ _ (by rfl) W0.heap.size (.slice a3 n3 c3) _ l (by rfl) hr2 a1 n1 c1 (by rfl) q1 q2 q3 (by decide) ?d2 ac.size ?_)
  case d2=>
   rw[show ekY.bytes=1 from rfl,Nat.mul_one]
   simp only[List.length_append]
   omega
  intro v' w3 hr3 hg3
  obtain⟨a4,n4,c4,rfl,_⟩:=hr3.shape'
  have au:Below W0.heap.size W0 w3:=ac.grown hg3 ac.size (fun k hk=>(hr2.own k hk).1)
  have ag:Row ekY w3 w.heap.size (.slice a4 n4 c4) (B0s num how bits l):=by
   rw[HN.out,←H1.out,List.append_assoc];exact hr3.mono (by omega)
  clear hr3
  go_wp2
  go_ret
  exact⟨a4,n4,c4,rfl,ag,KBT hb0 au⟩
 ·have hq:(how == 2)=false:=by simp[hh]
  have HN:Hid (B0s num how bits l=C1q num how++A7y how bits):=by show _=_;unfold B0s;rw[if_neg hh]
  have hput:=A8i W0.heap.size _ _ how bits w1 hr1 hb1.size hb (by omega)
  clear hh
  go_wp2_with fail
  refine hput.mono ?_
  rintro e w2 ⟨v2,rfl,hr2,hb2⟩
  obtain⟨a3,n3,c3,rfl,_⟩:=hr2.shape'
  have ac:Below W0.heap.size W0 w2:=hb1.trans hb2
  have ag:Row ekY w2 w.heap.size (.slice a3 n3 c3) (B0s num how bits l):=by
   rw[HN.out];exact hr2.mono (by omega)
  clear hr2 hput
  go_wp2
  go_ret
  exact⟨a3,n3,c3,rfl,ag,KBT hb0 ac⟩
theorem C5g {w:World}{v:Value}{l:List UInt8}(h:RdL 1 YAt w v l) (num how:Int) (bits:Nat) (hb:bits≤18446744073709551615) (hl:l.length≤1000000000000) (h1:0≤num) (h2:num≤536870912) (h3:0≤how) (h4:how≤7)
  {base:Nat}{ao:Option Addr}{no co:Nat}{acc:List UInt8}(ah:Row ekY w base (.slice ao no co) acc) (aj:base≤w.heap.size) (aw:acc.length≤10000000000000) :
  Calls Tryz.prog 91 #[.slice ao no co,.agg #[.int .i64 num,.int .i64 how,.int .u64 (bits:Int),v]] w fun e w'=>∃ a n c,e = .returned (.slice a n c)∧Row ekY w' base (.slice a n c) (acc++B0s num how bits l)∧Below base w w':=by
 obtain⟨a1,n1,c1,rfl,H1,ba⟩:=h.shape
 obtain⟨W0,ag⟩:∃ W0,Hid (W0=w.alloc (.cells #[.int .i64 num,.int .i64 how,.int .u64 (bits:Int),.slice a1 n1 c1] 106)):=⟨_,rfl⟩
 have hb0:Below w.heap.size w W0:=by rw[ag.out];exact(Below.refl _ _).alloc (Nat.le_refl _) _
 have hz0:w.heap.size+1≤W0.heap.size:=by rw[ag.out];simp
 have ak:=A3v (h.below YAt.stays hb0) num how bits hb hl h1 h2 h3 h4
 have hL:=B7a num how bits l
 go_enter Tryz.func91,Tryz.ntmps91
 go_wp2_with fail
 rw[←ag.out]
 refine ak.mono ?_
 rintro e w1 ⟨a2,n2,c2,rfl,hr1,hb1⟩
 have ac:Below w.heap.size w w1:=KBT hb0 hb1
 obtain⟨q1,q2,q3⟩:=C8j hr1.rdY
 have ha1:=ah.below ac
 clear ak
 go_wp2_with (at_builtin;refine A1n (by rfl) ekY _ _ (by rfl) base (.slice ao no co) _ (B0s num how bits l) (by rfl) ha1 a2 n2 c2 (by rfl) q1 q2 q3 (by decide) ?d2 (Nat.le_trans aj ac.size) ?_)
 case d2=>
  rw[show ekY.bytes=1 from rfl,Nat.mul_one]
  omega
 intro v' w3 hr3 hg3
 obtain⟨a4,n4,c4,rfl,_⟩:=hr3.shape'
 have au:Below base w w3:=(ac.mono aj).grown hg3 (Nat.le_trans aj ac.size) (fun k hk=>(ha1.own k hk).1)
 go_wp2
 go_ret
 exact⟨a4,n4,c4,rfl,hr3,au⟩
theorem C3u {num how:Int}{bits len:Nat}(h:A1i num how bits len=0):(how=0∨how=1∨how=2∨how=5)∧1≤num∧num < 536870912:=by
 unfold A1i at h
 split at h
 ·cases h
 ·rename_i hh
  have ac:how=0∨how=1∨how=2∨how=5:=by
   unfold A1q at hh
   have:=of_decide_eq_true (Bool.of_not_eq_false hh)
   exact this
  split at h
  ·cases h
  ·split at h
   ·cases h
   ·exact⟨ac,by omega,by omega⟩
end L
end Go.Proofs.YtgaoojpakjjdnaaGreatDoor
