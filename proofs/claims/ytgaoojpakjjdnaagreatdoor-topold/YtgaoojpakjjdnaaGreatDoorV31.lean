import Derived.Test.YtgaoojpakjjdnaaGreatDoorV30
set_option maxHeartbeats 32000000
set_option maxRecDepth 100000
set_option linter.unusedVariables false
namespace Go.Proofs.YtgaoojpakjjdnaaGreatDoor
namespace L
open Go.RowKit
def A6a (g:GI)(msg:Int)(l:List UInt8):Except Int (BI 12):=
 if (wrongL g).1≠0 then .error (wrongL g).1
 else if msg<0∨(g.msgs.length:Int)≤msg then .error 6
 else match g.msgs[msg.toNat]? with
  | some m=>A3t g 12 m l
  | none=>.error 6
theorem WIn.any {g:GI}{am:Option Addr}{nm cm:Nat}{ae:Option Addr}{ne ce:Nat}{msg:Int}{w:World}(h:WIn g am nm cm ae ne ce msg w)(j:Nat)(hj:j<g.msgs.length):WIn g am nm cm ae ne ce (j:Int) w:=⟨h.hg,h.n1,h.n2,h.fit,h.fok,h.tabs,by omega,by have:=h.n1;omega⟩
theorem WIn.gd {g:GI}{am:Option Addr}{nm cm:Nat}{ae:Option Addr}{ne ce:Nat}{msg:Int}{w:World}(h:WIn g am nm cm ae ne ce msg w)(hr:(wrongL g).1=0):FGd g:=⟨fun M hM x hx=>((h.fok M hM).1 x hx).1,fun M hM x hx hk=>A3x hr M hM x hx hk⟩
theorem B4t {g:GI}{N:Nat→MI→List UInt8→Prop}(bt:Hid (NjC g N)){am:Option Addr}{nm cm:Nat}{ae:Option Addr}{ne ce:Nat}{msg:Int}{w:World}(hI:WIn g am nm cm ae ne ce msg w){ao:Option Addr}{k c:Nat}{l:List UInt8}(hl:RdL 1 YAt w (.slice ao k c) l)(bu:Hid (∀ (j:Nat) (M:MI),msg=(j:Int)→g.msgs[j]?=some M→N 12 M l)) :
  Calls Tryz.prog 9 #[.agg #[.slice am nm cm,.slice ae ne ce],.int .i64 msg,.slice ao k c] w fun e w'=>DOut 12 w (A6a g msg l) e w':=by
 obtain⟨W2,aj⟩:∃ W2,Hid (W2=(w.alloc (.cells #[.slice am nm cm,.slice ae ne ce] 25)).alloc (.cells #[.slice none 0 0,.slice none 0 0] 29)):=⟨_,rfl⟩
 have hb2:Below w.heap.size w W2:=by rw[aj.out];exact((Below.refl _ _).alloc (Nat.le_refl _) _).alloc (by simp) _
 have z2:w.heap.size+2≤W2.heap.size:=by rw[aj.out];simp
 have x1:W2.heap[w.heap.size]?=some (.cells #[.slice am nm cm,.slice ae ne ce] 25 (0,0)):=by rw[aj.out];exact A0o _ _ _
 have x2:W2.heap[w.heap.size+1]?=some (.cells #[.slice none 0 0,.slice none 0 0] 29 (0,0)):=by rw[aj.out];exact A0j _ _ _
 have hwr:=B1z (hI.hg.below hb2) hI.n1 hI.n2 hI.fit
 obtain⟨Q,HQ⟩:∃ Q,Hid (Q=(wrongL g).1):=⟨_,rfl⟩
 obtain⟨QI,bv⟩:∃ QI,Hid (QI=(((wrongL g).2:Nat):Int)):=⟨_,rfl⟩
 rw[←HQ.out,←bv.out] at hwr
 have aw:Hid (nm=g.msgs.length):=hI.hg.1.len.1
 obtain⟨R,HR⟩:∃ R,Hid (A6a g msg l=R):=⟨_,rfl⟩
 rw[HR.out]
 have HI:Hid (WIn g am nm cm ae ne ce msg w):=hI
 have HL:Hid (RdL 1 YAt w (.slice ao k c) l):=hl
 clear hI hl
 obtain⟨y0,y1⟩:=A0y x1
 go_enter Tryz.func9,Tryz.ntmps9
 go_upto_region 1 with fail
 rw[←aj.out]
 go_wp2_with fail
 refine hwr.mono ?_
 rintro r w3 ⟨rfl,hb3⟩
 obtain⟨W4,ak⟩:∃ W4,Hid (W4=w3.alloc (.cells #[.int .i64 Q,.int .i64 QI] 50)):=⟨_,rfl⟩
 have ba:Below w3.heap.size w3 W4:=by rw[ak.out];exact(Below.refl _ _).alloc (Nat.le_refl _) _
 have x4:W4.heap[w3.heap.size]?=some (.cells #[.int .i64 Q,.int .i64 QI] 50 (0,0)):=by rw[ak.out];exact heap_alloc_new _ _
 have dl:w3.heap.size+1≤W4.heap.size:=by rw[ak.out];simp
 have ah:Below W2.heap.size W2 W4:=BTr hb3 ba
 have ac:Below w.heap.size w W4:=BTr hb2 ah
 have hz3:=hb3.size
 clear y0 y1 hwr
 go_upto_region 2 with fail
 rw[←ak.out]
 obtain⟨t0,t1⟩:=A0y x4
 obtain⟨y0,y1⟩:=A0y ((ah.block _ (by omega)).trans x1)
 have bn:=(ah.block _ (by omega)).trans x2
 obtain⟨p0,p1⟩:=A0y bn
 have pf:=A0b bn
 have n1:¬ w3.heap.size=w.heap.size+1:=by omega
 have n2:¬ w.heap.size+1=w3.heap.size:=by omega
 by_cases hQ0:Q=0
 ·have hr:(wrongL g).1=0:=by rw[←HQ.out];exact hQ0
  subst hQ0
  by_cases hlo:msg<0
  ·have HT:Hid (R = .error 6):=by show _=_;rw[←HR.out,A6a,if_neg (by rw[hr];simp),if_pos (.inl hlo)]
   go_wp2_with fail
   refine bodyPost_ret (v:=.tuple #[.agg #[.slice none 0 0,.slice none 0 0],.int .i64 6]) (by simp[results,Tryz.results9,go_sem, *]) rfl ?_
   rw[HT.out]
   exact⟨by decide,rfl,by first|exact ac|exact KB_set (KB_set ac (by omega)) (by omega)⟩
  ·by_cases hhi:(nm:Int)≤msg
   ·have HT:Hid (R = .error 6):=by show _=_;rw[←HR.out,A6a,if_neg (by rw[hr];simp),if_pos (.inr (by rw[←aw.out];exact hhi))]
    have bg:¬ msg<0:=hlo
    go_wp2_with fail
    refine bodyPost_ret (v:=.tuple #[.agg #[.slice none 0 0,.slice none 0 0],.int .i64 6]) (by simp[results,Tryz.results9,go_sem, *]) rfl ?_
    rw[HT.out]
    exact⟨by decide,rfl,by first|exact ac|exact KB_set (KB_set ac (by omega)) (by omega)⟩
   ·obtain⟨j,Hj⟩:∃ j:Nat,Hid (msg=(j:Int)):=⟨msg.toNat,by show _=_;omega⟩
    obtain⟨M,hM⟩:∃ M,g.msgs[j]?=some M:=⟨g.msgs[j]'(by have:=Hj.out;have:=aw.out;omega),List.getElem?_eq_getElem _⟩
    have HT:Hid (R=A3t g 12 M l):=by
     show _=_
     have e:msg.toNat=j:=by have:=Hj.out;omega
     rw[←HR.out,A6a,if_neg (by rw[hr];simp),if_neg (by rw[←aw.out];omega),e,hM]
    obtain⟨bm,om,rfl,hat⟩:=HI.out.hg.1.get MAt.plain hM
    obtain⟨vf,vb,s0,s1,s2,bh,br⟩:=hat.at
    obtain⟨af,nf,kf,rfl,_,_⟩:=bh.shape
    obtain⟨ab,nb,kb,rfl,_,_⟩:=br.shape
    have bg:¬ msg<0:=hlo
    have cw:msg<(nm:Int):=by omega
    have hd:Below w.heap.size w W4.drew:=ac.drew
    have cu:Below W4.heap.size W4 W4.drew:=(Below.refl _ _).drew
    have ag:∀ V,Below (w.heap.size+1) W2 V→V.cell? ⟨w.heap.size,0,none⟩=some (.slice (some ⟨bm,om,none⟩) nm cm)∧V.cell? ⟨w.heap.size,1,none⟩=some (.slice ae ne ce)∧V.cell? ⟨bm,om+j*3,none⟩=some (.string (S M.name))∧V.cell? ⟨bm,om+j*3+1,none⟩=some (.slice af nf kf)∧V.cell? ⟨bm,om+j*3+2,none⟩=some (.slice ab nb kb):=fun V hV=>by
     have bk:Below w.heap.size w V:=hb2.trans (hV.mono (by omega))
     obtain⟨e1,e2⟩:=A0y ((hV.block _ (by omega)).trans x1)
     exact⟨e1,e2,A0c bk s0,A0c bk s1,A0c bk s2⟩
    have dg:∀ U,Below w.heap.size w U→Calls Tryz.prog 21 #[.agg #[.slice (some ⟨bm,om,none⟩) nm cm,.slice ae ne ce],.agg #[.string (S M.name),.slice af nf kf,.slice ab nb kb],.slice ao k c,.int .i64 1] U fun e w'=>∃ (i0:Option Addr) (j0 l0:Nat) (i1:Option Addr) (j1 l1:Nat) (E:Int),e = .returned (.tuple #[.agg #[.slice i0 j0 l0,.slice i1 j1 l1],.int .i64 E])∧Hid (DRes 12 U.heap.size R i0 j0 l0 i1 j1 l1 E w')∧Below U.heap.size U w':=fun U hU=>by
     refine(C2p (HI.out.gd hr) bt 12 U _ _ _ _ _ _ _ _ _ ab nb kb M ao k c l 1 (by decide) (by decide) (fun i hi=>(HI.out.below hU).any i hi) (List.mem_of_getElem? hM) (bh.below FAt.stays hU) (HL.out.below YAt.stays hU) (bu.out j M Hj.out hM)).mono ?_
     intro e w' ho
     rw[←HT.out] at ho
     obtain⟨i0,j0,l0,i1,j1,l1,E,h1,h2,h3⟩:=ho.open
     exact⟨i0,j0,l0,i1,j1,l1,E,h1,h2,h3⟩
    have bq:Below (w.heap.size+1) W2 W4.drew:=(ah.drew).mono (by omega)
    clear hat s0 s1 s2 bh br hM
    have df:msg=(j:Int):=Hj.out
    subst df
    go_upto_region 6 with fail
    refine wp_region_held_drew (S:=fun U=>Below (w.heap.size+1) W2 U) (by kernel_rfl) bq (fun hHeld=>?_)
    refine tK (i:=0) (v:=?vr1) rfl ⟨by rfl,?hyr1⟩ ?_
    case hyr1=>(intro W h;have:=ag W h;go_simp;first|done|with_reducible rfl)
    try simp only[pT,Act.put]
    refine tK (i:=1) (v:=?vr2) rfl ⟨by rfl,?hyr2⟩ ?_
    case hyr2=>(intro W h;have:=ag W h;go_simp;first|done|with_reducible rfl)
    try simp only[pT,Act.put]
    refine tK (i:=2) (v:=?vr3) rfl ⟨by rfl,?hyr3⟩ ?_
    case hyr3=>(intro W h;have:=ag W h;go_simp;first|done|with_reducible rfl)
    try simp only[pT,Act.put]
    refine tK (i:=3) (v:=?vr4) rfl ⟨by rfl,?hyr4⟩ ?_
    case hyr4=>(intro W h;have:=ag W h;go_simp;first|done|with_reducible rfl)
    try simp only[pT,Act.put]
    refine tK (i:=4) (v:=?vr5) rfl ⟨by rfl,?hyr5⟩ ?_
    case hyr5=>(intro W h;have:=ag W h;go_simp;first|done|with_reducible rfl)
    try simp only[pT,Act.put]
    refine tK (i:=5) (v:=?vr6) rfl ⟨by rfl,?hyr6⟩ ?_
    case hyr6=>(intro W h;have:=ag W h;go_simp;first|done|with_reducible rfl)
    try simp only[pT,Act.put]
    refine tK (i:=6) (v:=?vr7) rfl ⟨by rfl,?hyr7⟩ ?_
    case hyr7=>(intro W h;have:=ag W h;go_simp;first|done|with_reducible rfl)
    try simp only[pT,Act.put]
    refine rA (i:=7) rfl fun K hK=>?_
    go_simp
    refine(dg _ hd).mono ?_
    rintro e w5 ⟨i0,j0,l0,i1,j1,l1,E,rfl,au,bc⟩
    have bw:=BTr hd bc
    have bp:=((BTr cu bc).block _ (by omega)).trans bn
    have cj:Below (w.heap.size+1) W2 w5:=bq.trans (bc.mono (by have:=ac.size;show _≤W4.heap.size;omega))
    obtain⟨dm,dn⟩:=A0y bp
    have dp:=A0b bp
    have cg:Below w.heap.size w ((w5.setCell ⟨w.heap.size+1,0,none⟩ (.slice i0 j0 l0)).setCell ⟨w.heap.size+1,1,none⟩ (.slice i1 j1 l1)):=KB_set (KB_set bw (by omega)) (by omega)
    have di:Below (w.heap.size+1) W2 ((w5.setCell ⟨w.heap.size+1,0,none⟩ (.slice i0 j0 l0)).setCell ⟨w.heap.size+1,1,none⟩ (.slice i1 j1 l1)):=KB_set (KB_set cj (Nat.le_refl _)) (Nat.le_refl _)
    refine hK.out _ _ ?_ (fun hHeld=>?_)
    ·(try dsimp only);with_reducible assumption
    clear hK K
    try simp only[pT,Act.put]
    refine tK (i:=8) (v:=?vr8) rfl ⟨by rfl,?hyr8⟩ ?_
    case hyr8=>(intro W h;have:=ag W h;go_simp;first|done|with_reducible rfl)
    try simp only[pT,Act.put]
    refine tK (i:=9) (v:=?vr9) rfl ⟨by rfl,?hyr9⟩ ?_
    case hyr9=>(intro W h;have:=ag W h;go_simp;first|done|with_reducible rfl)
    try simp only[pT,Act.put]
    refine rA (i:=10) rfl fun K hK=>?_
    go_simp
    refine hK.out _ _ ?_ (fun hHeld=>?_)
    ·(try dsimp only);with_reducible assumption
    clear hK K
    try simp only[pT,Act.put]
    refine tK (i:=11) (v:=?vr10) rfl ⟨by rfl,?hyr10⟩ ?_
    case hyr10=>(intro W h;have:=ag W h;go_simp;first|done|with_reducible rfl)
    try simp only[pT,Act.put]
    refine wpAnyH_done (by kernel_rfl) ?_ _
    go_wp2_with fail
    refine bodyPost_ret (v:=.tuple #[.agg #[.slice i0 j0 l0,.slice i1 j1 l1],.int .i64 E]) (by simp[results,Tryz.results9,go_sem, *]) rfl ?_
    have dh:=ac.size
    exact(au.out.fr (fr2 bp) (show w.heap.size+1<W4.heap.size by omega)).out dh cg
 ·have HT:Hid (R = .error Q):=by show _=_;rw[←HR.out,A6a,if_pos (by rw[←HQ.out];exact hQ0),HQ.out]
  have ez:(Q != 0)=true:=by simpa using hQ0
  go_upto_region 3 with fail
  go_region
  all_goals
   go_wp2_with fail
   refine bodyPost_ret (v:=.tuple #[.agg #[.slice none 0 0,.slice none 0 0],.int .i64 Q]) (by simp[results,Tryz.results9,go_sem, *]) rfl ?_
   rw[HT.out]
   exact⟨hQ0,rfl,(KB_set (KB_set ac (by omega)) (by omega)).drew⟩
theorem C5l {g:GI}(HS:Hid (∀ M∈g.msgs,∀ x∈M.fields,x.many=false→x.kind=10→A8e g x)){am:Option Addr}{nm cm:Nat}{ae:Option Addr}{ne ce:Nat}{msg:Int}{w:World}(hI:WIn g am nm cm ae ne ce msg w){ao:Option Addr}{k c:Nat}{l:List UInt8}(hl:RdL 1 YAt w (.slice ao k c) l) :
  Calls Tryz.prog 9 #[.agg #[.slice am nm cm,.slice ae ne ce],.int .i64 msg,.slice ao k c] w fun e w'=>DOut 12 w (A6a g msg l) e w':=
 B4t (N:=fun _ _ _=>True) ⟨fun {n M l rs A i r x} _ hM _ _ hx hk=>⟨trivial,fun hm=>.inl (HS.out M hM x (List.mem_of_find?_eq_some hx) hm hk)⟩⟩ hI hl (fun _ _ _ _=>trivial)
theorem D0z (n:Nat)(w:World):Calls Tryz.prog 205 #[.int .u64 (n:Int)] w fun e w'=>e = .returned (.int .u64 ((A5t 2 n:Nat):Int))∧w=w':=by
 have hw : -9223372036854775808≤IntKind.i64.wrap (n:Int)∧IntKind.i64.wrap (n:Int)≤9223372036854775807:=by rw[IntKind.wrap_i64];omega
 have hf:=C8a (IntKind.i64.wrap (n:Int)) w hw.1 hw.2
 have h0:=(C0g _ hw.1 hw.2).1
 have HN:Hid (((A5t 2 n:Nat):Int)=B0l (IntKind.i64.wrap (n:Int))):=by
  show _=_;unfold A5t;rw[if_pos rfl];omega
 clear h0
 have ac:wrap64 (n:Int)=IntKind.i64.wrap (n:Int):=by rw[IntKind.wrap_i64,wrap64]
 rw[←ac] at hf HN
 clear hw ac
 go_enter Tryz.func205,Tryz.ntmps205
 go_wp2_with fail
 refine hf.mono ?_
 rintro e w1 ⟨rfl,rfl⟩
 go_wp2
 go_ret
 exact⟨by rw[HN.out];rfl,rfl⟩
theorem D1a (n:Nat)(w:World):Calls Tryz.prog 207 #[.int .u64 (n:Int)] w fun e w'=>e = .returned (.int .u64 (n:Int))∧w=w':=by
 go_enter Tryz.func207,Tryz.ntmps207
 go_wp2
 go_ret
 exact⟨rfl,rfl⟩
theorem D1b {w:World}{v:Value}{l:List Nat}(h:RdL 1 UAt w v l)(hm:∀ n∈l,n≤18446744073709551615)(hl:l.length≤100000000000)(kind:Int) :
  Calls Tryz.prog 84 #[.int .i64 kind,v] w fun e w'=>∃ ao n cap,e = .returned (.slice ao n cap)∧Row ekU w' w.heap.size (.slice ao n cap) (l.map (A5t kind))∧Below w.heap.size w w':=by
 obtain⟨a1,n1,c1,rfl,H1,_⟩:=h.shape
 by_cases hk:kind=2
 rotate_right
 focus
  have hk2:(kind==2)=false:=by simp[hk]
  have he:=B5p h hm hl (enters_of Tryz.func207 (by kernel_rfl) rfl) (one:=A5t kind) (fun n W _=>by
   have e:A5t kind n=n:=by unfold A5t;rw[if_neg hk]
   rw[e];exact D1a n W)
  have hb:∀ W,Calls Tryz.prog 149 #[.int .i64 kind] W fun e w'=>e = .returned (.func (.func 207) #[] #[])∧W=w':=fun W=>by
   clear he
   go_enter Tryz.func149,Tryz.ntmps149
   go_wp2
   go_ret
   exact⟨rfl,rfl⟩
  have ac:=hb w
  clear hk2 hk
 rotate_right
 focus
  subst hk
  have he:=B5p h hm hl (enters_of Tryz.func205 (by kernel_rfl) rfl) (one:=A5t 2) (fun n W _=>D0z n W)
  have hb:∀ W,Calls Tryz.prog 149 #[.int .i64 2] W fun e w'=>e = .returned (.func (.func 205) #[] #[])∧W=w':=fun W=>by
   go_enter Tryz.func149,Tryz.ntmps149
   go_wp2
   go_ret
   exact⟨rfl,rfl⟩
  have ac:=hb w
 all_goals
  go_enter Tryz.func84,Tryz.ntmps84
  go_wp2_with fail
  refine ac.mono ?_
  rintro e w1 ⟨rfl,rfl⟩
  go_wp2_with fail
  refine he.mono ?_
  rintro e w2 ⟨ao,n,cap,rfl,hr,hb2⟩
  go_wp2
  go_ret
  exact⟨ao,n,cap,rfl,hr,hb2⟩
theorem B8e (a b:Int):(ktagN a b).length≤10:=A9f _
theorem B0g (kind:Int)(n:Nat)(hn:n≤18446744073709551615):A5t kind n≤18446744073709551615:=by
 unfold A5t
 split
 ·have hw : -9223372036854775808≤IntKind.i64.wrap (n:Int)∧IntKind.i64.wrap (n:Int)≤9223372036854775807:=by rw[IntKind.wrap_i64];omega
  have:=C0g _ hw.1 hw.2
  omega
 ·exact hn
def recN (num how:Int)(bits:Nat)(l:List UInt8):List UInt8:=ktagN num how++(if how=2 then A5q l.length++l else kputB how bits)
theorem C2r (num how:Int)(bits:Nat)(l:List UInt8):(recN num how bits l).length≤20+l.length:=by
 unfold recN
 rw[List.length_append]
 have h1:=B8e num how
 split
 ·rw[List.length_append]
  have:=A9f l.length
  omega
 ·have:=B2x how bits
  omega
theorem C6u {w:World}{g:Nat}{a0 a1 a2 a3:Value}{t:TypeId}(h:w.heap[g]?=some (.cells #[a0,a1,a2,a3] t (0,0))) :
  w.cell? ⟨g,0,none⟩=some a0∧w.cell? ⟨g,1,none⟩=some a1∧w.cell? ⟨g,2,none⟩=some a2∧w.cell? ⟨g,3,none⟩=some a3:=
 ⟨A0a h 0 _ rfl,A0a h 1 _ rfl,A0a h 2 _ rfl,A0a h 3 _ rfl⟩
theorem A5e {w:World}{v:Value}{l:List UInt8}(h:RdL 1 YAt w v l)(num how:Int)(bits:Nat)(hb:bits≤18446744073709551615)(hl:l.length≤1000000000000)(h1:0≤num)(h2:num≤536870912)(h3:0≤how)(h4:how≤7) :
  Calls Tryz.prog 153 #[.agg #[.int .i64 num,.int .i64 how,.int .u64 (bits:Int),v]] w fun e w'=>∃ ao n cap,e = .returned (.slice ao n cap)∧Row ekY w' w.heap.size (.slice ao n cap) (recN num how bits l)∧Below w.heap.size w w':=by
 obtain⟨a1,n1,c1,rfl,H1,ba⟩:=h.shape
 obtain⟨W0,ah⟩:∃ W0,Hid (W0=w.alloc (.cells #[.int .i64 num,.int .i64 how,.int .u64 (bits:Int),.slice a1 n1 c1] 106)):=⟨_,rfl⟩
 have hb0:Below w.heap.size w W0:=by rw[ah.out];exact(Below.refl _ _).alloc (Nat.le_refl _) _
 have hz0:w.heap.size+1≤W0.heap.size:=by rw[ah.out];simp
 have x0:W0.heap[w.heap.size]?=some (.cells #[.int .i64 num,.int .i64 how,.int .u64 (bits:Int),.slice a1 n1 c1] 106 (0,0)):=by rw[ah.out];exact heap_alloc_new _ _
 have ak:=D2f W0.heap.size (.slice none 0 0) [] num how W0 (Row.nil _ _ _) (Nat.le_refl _) h1 h2 h3 h4 (by simp)
 have hT:=B8e num how
 go_enter Tryz.func153,Tryz.ntmps153
 go_wp2_with fail
 rw[←ah.out]
 refine ak.mono ?_
 rintro e w1 ⟨v1,rfl,hr1,hb1⟩
 rw[List.nil_append] at hr1
 obtain⟨a2,n2,c2,rfl,_⟩:=hr1.shape'
 obtain⟨t0,t1,t2,t3⟩:=C6u ((hb1.block _ (by omega)).trans x0)
 have aw:Below w.heap.size w w1:=KBT hb0 hb1
 clear ak
 by_cases hh:how=2
 ·have hq:(how==2)=true:=by simp[hh]
  have HN:Hid (recN num how bits l=ktagN num how++A5q l.length++l):=by show _=_;unfold recN;rw[if_pos hh,List.append_assoc]
  have hput:=B6f W0.heap.size _ _ l.length w1 hr1 hb1.size (by rw[←H1.out];omega) (by omega)
  rw[←H1.out] at hput
  have hP:=A9f n1
  clear hh
  go_wp2_with fail
  refine hput.mono ?_
  rintro e w2 ⟨v2,rfl,hr2,hb2⟩
  obtain⟨a3,n3,c3,rfl,_⟩:=hr2.shape'
  have ac:Below W0.heap.size W0 w2:=hb1.trans hb2
  obtain⟨p0,p1,p2,p3⟩:=C6u ((ac.block _ (by omega)).trans x0)
  have aj:Below w.heap.size w w2:=KBT hb0 ac
  obtain⟨q1,q2,q3⟩:=D7m (h.below YAt.stays aj)
  clear hput t0 t1 t2 t3 hr1
  go_wp2_with (at_builtin;refine A2f (by rfl) ekY _ _ (by rfl) W0.heap.size (.slice a3 n3 c3) _ l (by rfl) hr2 a1 n1 c1 (by rfl) q1 q2 q3 (by decide) ?d2 ac.size ?_)
  case d2=>
   rw[show ekY.bytes=1 from rfl,Nat.mul_one]
   simp only[List.length_append]
   omega
  intro v' w3 hr3 hg3
  obtain⟨a4,n4,c4,rfl,_⟩:=hr3.shape'
  have au:Below W0.heap.size W0 w3:=ac.grown hg3 ac.size (fun k hk=>(hr2.own k hk).1)
  have ag:Row ekY w3 w.heap.size (.slice a4 n4 c4) (recN num how bits l):=by
   rw[HN.out,←H1.out,List.append_assoc];exact hr3.mono (by omega)
  clear hr3
  go_wp2
  go_ret
  exact⟨a4,n4,c4,rfl,ag,KBT hb0 au⟩
 ·have hq:(how==2)=false:=by simp[hh]
  have HN:Hid (recN num how bits l=ktagN num how++kputB how bits):=by show _=_;unfold recN;rw[if_neg hh]
  have hput:=B1a W0.heap.size _ _ how bits w1 hr1 hb1.size hb (by omega)
  clear hh
  go_wp2_with fail
  refine hput.mono ?_
  rintro e w2 ⟨v2,rfl,hr2,hb2⟩
  obtain⟨a3,n3,c3,rfl,_⟩:=hr2.shape'
  have ac:Below W0.heap.size W0 w2:=hb1.trans hb2
  have ag:Row ekY w2 w.heap.size (.slice a3 n3 c3) (recN num how bits l):=by
   rw[HN.out];exact hr2.mono (by omega)
  clear hr2 hput
  go_wp2
  go_ret
  exact⟨a3,n3,c3,rfl,ag,KBT hb0 ac⟩
theorem D2c {w:World}{v:Value}{l:List UInt8}(h:RdL 1 YAt w v l)(num how:Int)(bits:Nat)(hb:bits≤18446744073709551615)(hl:l.length≤1000000000000)(h1:0≤num)(h2:num≤536870912)(h3:0≤how)(h4:how≤7)
  {base:Nat}{ao:Option Addr}{no co:Nat}{acc:List UInt8}(ah:Row ekY w base (.slice ao no co) acc) (aj:base≤w.heap.size) (aw:acc.length≤10000000000000) :
  Calls Tryz.prog 91 #[.slice ao no co,.agg #[.int .i64 num,.int .i64 how,.int .u64 (bits:Int),v]] w fun e w'=>∃ a n c,e = .returned (.slice a n c)∧Row ekY w' base (.slice a n c) (acc++recN num how bits l)∧Below base w w':=by
 obtain⟨a1,n1,c1,rfl,H1,ba⟩:=h.shape
 obtain⟨W0,ag⟩:∃ W0,Hid (W0=w.alloc (.cells #[.int .i64 num,.int .i64 how,.int .u64 (bits:Int),.slice a1 n1 c1] 106)):=⟨_,rfl⟩
 have hb0:Below w.heap.size w W0:=by rw[ag.out];exact(Below.refl _ _).alloc (Nat.le_refl _) _
 have hz0:w.heap.size+1≤W0.heap.size:=by rw[ag.out];simp
 have ak:=A5e (h.below YAt.stays hb0) num how bits hb hl h1 h2 h3 h4
 have hL:=C2r num how bits l
 go_enter Tryz.func91,Tryz.ntmps91
 go_wp2_with fail
 rw[←ag.out]
 refine ak.mono ?_
 rintro e w1 ⟨a2,n2,c2,rfl,hr1,hb1⟩
 have ac:Below w.heap.size w w1:=KBT hb0 hb1
 obtain⟨q1,q2,q3⟩:=D7m hr1.rdY
 have ha1:=ah.below ac
 clear ak
 go_wp2_with (at_builtin;refine A2f (by rfl) ekY _ _ (by rfl) base (.slice ao no co) _ (recN num how bits l) (by rfl) ha1 a2 n2 c2 (by rfl) q1 q2 q3 (by decide) ?d2 (Nat.le_trans aj ac.size) ?_)
 case d2=>
  rw[show ekY.bytes=1 from rfl,Nat.mul_one]
  omega
 intro v' w3 hr3 hg3
 obtain⟨a4,n4,c4,rfl,_⟩:=hr3.shape'
 have au:Below base w w3:=(ac.mono aj).grown hg3 (Nat.le_trans aj ac.size) (fun k hk=>(ha1.own k hk).1)
 go_wp2
 go_ret
 exact⟨a4,n4,c4,rfl,hr3,au⟩
theorem D0t {num how:Int}{bits len:Nat}(h:A0t num how bits len=0):(how=0∨how=1∨how=2∨how=5)∧1≤num∧num<536870912:=by
 unfold A0t at h
 split at h
 ·cases h
 ·rename_i hh
  have ac:how=0∨how=1∨how=2∨how=5:=by
   unfold A2a at hh
   have:=of_decide_eq_true (Bool.of_not_eq_false hh)
   exact this
  split at h
  ·cases h
  ·split at h
   ·cases h
   ·exact⟨ac,by omega,by omega⟩
def RecL (W w:World)(base:Nat)(v:Value)(l:List RI):Prop:=∃ l':List (RI×PV),Row ekR w base v l'∧l'.map Prod.fst=l∧∀ r∈l',RdL 1 YAt W r.2.v r.1.bytes∨Row ekY w base r.2.v r.1.bytes
theorem RecL.nil (W w:World)(base:Nat):RecL W w base (.slice none 0 0) []:=⟨[],Row.nil _ _ _,rfl,fun _ h=>by cases h⟩
theorem RecL.below {W w w':World}{base:Nat}{v:Value}{l:List RI}(h:RecL W w base v l)(hb:Below w.heap.size w w'):RecL W w' base v l:=by
 obtain⟨l',h1,h2,h3⟩:=h
 exact⟨l',h1.below hb,h2,fun r hr=>(h3 r hr).imp id fun k=>k.below hb⟩
theorem RecL.mono {W w:World}{base base':Nat}{v:Value}{l:List RI}(h:RecL W w base v l)(hb:base'≤base):RecL W w base' v l:=by
 obtain⟨l',h1,h2,h3⟩:=h
 exact⟨l',h1.mono hb,h2,fun r hr=>(h3 r hr).imp id fun k=>k.mono hb⟩
theorem RecL.back {W W' w:World}{base:Nat}{v:Value}{l:List RI}(h:RecL W w base v l)(hb:Below W.heap.size W W'):RecL W' w base v l:=by
 obtain⟨l',h1,h2,h3⟩:=h
 exact⟨l',h1,h2,fun r hr=>(h3 r hr).imp (fun k=>k.below YAt.stays hb) id⟩
theorem RecL.rd {W w:World}{base:Nat}{v:Value}{l:List RI}(h:RecL W w base v l)(hW:Below W.heap.size W w):RdL 4 RAt w v l:=by
 obtain⟨l',h1,rfl,h3⟩:=h
 refine D6h (P:=fun w x (p:RI×PV)=>w.cell? x=some (.int .i64 p.1.number)∧w.cell? (x.add 1)=some (.int .i64 p.1.how)∧w.cell? (x.add 2)=some (.int .u64 (p.1.bits:Int))∧w.cell? (x.add 3)=some p.2.v) Prod.fst (h1.rd _ fun g i a hc=>?_) ?_
 ·refine⟨by simpa using hc 0 _ rfl,?_,?_,?_⟩ <;> rw[A0e]
  ·exact hc 1 _ rfl
  ·exact hc 2 _ rfl
  ·exact hc 3 _ rfl
 ·rintro x p hp ⟨e0,e1,e2,e3⟩
  exact⟨p.2.v,e0,e1,e2,e3,(h3 p hp).elim (fun k=>k.below YAt.stays hW) fun k=>k.rdY⟩
theorem RecL.shape {W w:World}{base:Nat}{v:Value}{l:List RI}(h:RecL W w base v l):∃ ao n cap,v = .slice ao n cap∧Hid (n=l.length):=by
 obtain⟨l',h1,rfl,_⟩:=h
 obtain⟨ao,n,cap,e,hn⟩:=h1.shape'
 exact⟨ao,n,cap,e,by show _=_;rw[hn.out];simp⟩
theorem RecL.own {W w:World}{base:Nat}{v:Value}{l:List RI}(h:RecL W w base v l):∀ k,v.ownBlock=some k→base≤k:=by
 obtain⟨l',h1,_,_⟩:=h
 exact fun k hk=>(h1.own k hk).1
theorem D6m {α:Type}{E:EK α}{w:World}{base:Nat}{ao:Option Addr}{n cap:Nat}{l:List α}(h:Row E w base (.slice ao n cap) l):l.length=n∧(ao=none→n=0∧cap=0)∧∀ ad,ao=some ad→∀ k y,l[k]?=some y→∀ j u,(E.enc y)[j]?=some u→w.cell? (ad.add (k*E.size+j))=some u:=by
 refine⟨h.len.symm,fun e=>?_,fun ad had k y hy j u hu=>?_⟩
 ·subst e
  rcases h.2 with⟨hv,hn⟩|⟨g,cap',cur,hv,_⟩
  ·simp at hv;exact⟨by rw[h.len];exact hn,hv.2⟩
  ·simp at hv
 ·obtain⟨g,hg,hc⟩:=h.get hy
  rw[had] at hg
  cases hg
  rw[A0e,Nat.zero_add]
  exact hc j u hu
theorem RecL.app {W w w':World}{base:Nat}{v v':Value}{l m:List RI}{l' m':List (RI×PV)}{o:Option Obj}(ac:Row ekR w base v l')(hl2:l'.map Prod.fst=l)(ag:∀ r∈l',RdL 1 YAt W r.2.v r.1.bytes∨Row ekY w base r.2.v r.1.bytes)(ah:m'.map Prod.fst=m)(aj:∀ r∈m',RdL 1 YAt W r.2.v r.1.bytes∨Row ekY w base r.2.v r.1.bytes)(hr:Row ekR w' base v' (l'++m'))(hg:w.grownBy w' v.ownBlock)(_:o=none):RecL W w' base v' (l++m):=by
 refine⟨l'++m',hr,by rw[List.map_append,hl2,ah],fun r ak=>?_⟩
 rcases List.mem_append.1 ak with h|h
 ·exact(ag r h).imp id fun k=>k.grown hg (k.ne ac (by decide))
 ·exact(aj r h).imp id fun k=>k.grown hg (k.ne ac (by decide))
theorem B3e {α β:Type}:∀ (l:List α) (Q:Nat→α→β→Prop),(∀ k a,l[k]?=some a→∃ b,Q k a b)→∃ l':List (α×β),l'.map Prod.fst=l∧∀ k p,l'[k]?=some p→Q k p.1 p.2
 | [],_,_=>⟨[],rfl,fun k p h=>by simp at h⟩
 | a::l,Q,h=>by
  obtain⟨b,hb⟩:=h 0 a rfl
  obtain⟨l',h1,h2⟩:=B3e l (fun k=>Q (k+1)) fun k x hx=>h (k+1) x (by simpa using hx)
  refine⟨(a,b)::l',by simp[h1],fun k p hp=>?_⟩
  cases k with
  | zero=>
   have hp:(a,b)=p:=by simpa using hp
   subst hp
   exact hb
  | succ k=>exact h2 k p (by simpa using hp)
theorem D6k {w:World}{ao:Option Addr}{n cap:Nat}{l:List RI}(h:RdL 4 RAt w (.slice ao n cap) l):∃ l':List (RI×PV),l'.map Prod.fst=l∧(∀ r∈l',RdL 1 YAt w r.2.v r.1.bytes)∧l'.length=n∧(ao=none→n=0∧cap=0)∧∀ ad,ao=some ad→∀ k y,l'[k]?=some y→∀ j u,(ekR.enc y)[j]?=some u→w.cell? (ad.add (k*ekR.size+j))=some u:=by
 obtain⟨ac,_,_⟩:=h.len
 have hnil:ao=none→n=0∧cap=0:=by obtain⟨ag,n',cap',e,_,_,_,h4,_⟩:=h;cases e;exact h4
 obtain⟨l',h1,h2⟩:=B3e l (fun k r (p:PV)=>∀ b off,ao=some ⟨b,off,none⟩→w.cell? ⟨b,off+k*4,none⟩=some (.int .i64 r.number)∧w.cell? ⟨b,off+k*4+1,none⟩=some (.int .i64 r.how)∧w.cell? ⟨b,off+k*4+2,none⟩=some (.int .u64 (r.bits:Int))∧w.cell? ⟨b,off+k*4+3,none⟩=some p.v∧RdL 1 YAt w p.v r.bytes) fun k a ha=>by
  obtain⟨b,off,e,hat⟩:=h.get RAt.plain ha
  obtain⟨v,s0,s1,s2,s3,hr⟩:=hat.at
  obtain⟨a3,n3,c3,rfl,_,_⟩:=hr.shape
  refine⟨(a3,n3,c3),fun b' off' e'=>?_⟩
  rw[e] at e'
  cases e'
  exact⟨s0,s1,s2,s3,hr⟩
 refine⟨l',h1,fun r hr=>?_,by rw[ac,←h1];simp,hnil,fun ad had k y hy j u hu=>?_⟩
 ·obtain⟨k,hk⟩:=List.mem_iff_getElem?.1 hr
  have ha:l[k]?=some r.1:=by rw[←h1,List.getElem?_map,hk];rfl
  obtain⟨b,off,e,_⟩:=h.get RAt.plain ha
  exact(h2 k r hk b off e).2.2.2.2
 ·have ha:l[k]?=some y.1:=by rw[←h1,List.getElem?_map,hy];rfl
  obtain⟨b,off,e,_⟩:=h.get RAt.plain ha
  obtain⟨s0,s1,s2,s3,_⟩:=h2 k y hy b off e
  rw[had] at e
  cases e
  rw[A0e]
  show w.cell? ⟨b,off+(k*4+j),none⟩=some u
  rw[←Nat.add_assoc]
  match j,hu with
  | 0,hu=>
   have hu:Value.int .i64 y.1.number=u:=by simpa [ekR,D4o] using hu
   rw[←hu]
   exact s0
  | 1,hu=>
   have hu:Value.int .i64 y.1.how=u:=by simpa [ekR,D4o] using hu
   rw[←hu]
   exact s1
  | 2,hu=>
   have hu:Value.int .u64 (y.1.bits:Int)=u:=by simpa [ekR,D4o] using hu
   rw[←hu]
   exact s2
  | 3,hu=>
   have hu:y.2.v=u:=by simpa [ekR,D4o] using hu
   rw[←hu]
   exact s3
  | j+4,hu=>simp[ekR,D4o] at hu
def A3n:List UInt8→List RI→List UInt8×Int
 | acc,[]=>(acc,0)
 | acc,r::rs=>if A0t r.number r.how r.bits r.bytes.length≠0 then([],A0t r.number r.how r.bits r.bytes.length) else if 4000<(acc++recN r.number r.how r.bits r.bytes).length then([],4) else A3n (acc++recN r.number r.how r.bits r.bytes) rs
theorem D1f {l:List RI}{k:Nat}{r:RI}(h:l[k]?=some r)(acc:List UInt8):A3n acc (l.drop k)=if A0t r.number r.how r.bits r.bytes.length≠0 then([],A0t r.number r.how r.bits r.bytes.length) else if 4000<(acc++recN r.number r.how r.bits r.bytes).length then([],4) else A3n (acc++recN r.number r.how r.bits r.bytes) (l.drop (k+1)):=by
 obtain⟨hk,rfl⟩:=List.getElem?_eq_some_iff.1 h
 rw[List.drop_eq_getElem_cons hk]
 rfl
theorem C6b {w:World}{v:Value}{l:List RI}(h:RdL 4 RAt w v l)(hs:∀ r∈l,r.bits≤18446744073709551615∧r.bytes.length≤100000000) :
  Calls Tryz.prog 38 #[v] w fun e w'=>∃ ao n cap bh,e = .returned (.tuple #[.slice ao n cap,.agg #[.int .i64 (A3n [] l).2,.int .i64 bh]])∧Row ekY w' w.heap.size (.slice ao n cap) (A3n [] l).1∧Below w.heap.size w w':=by
 obtain⟨a1,n1,c1,rfl,H1,cu⟩:=h.shape
 obtain⟨q,Hq⟩:∃ q,Hid (A3n [] l=q):=⟨_,rfl⟩
 rw[Hq.out]
 obtain⟨W0,aj⟩:∃ W0,Hid (W0=w.alloc (.cells #[.int .i64 0,.int .i64 0] 50)):=⟨_,rfl⟩
 have hb0:Below w.heap.size w W0:=by rw[aj.out];exact(Below.refl _ _).alloc (Nat.le_refl _) _
 have hz0:w.heap.size+1≤W0.heap.size:=by rw[aj.out];simp
 have x0:W0.heap[w.heap.size]?=some (.cells #[.int .i64 0,.int .i64 0] 50 (0,0)):=by rw[aj.out];exact heap_alloc_new _ _
 go_enter Tryz.func38,Tryz.ntmps38
 go_wp2_with fail
 rw[←aj.out]
 go_loopg [4,10] n1 (fun m u i wr=>∃ (k:Nat) (ao:Option Addr) (no co:Nat) (acc:List UInt8),k+m=n1∧i = .int .i64 k∧u = .slice ao no co∧Row ekY wr W0.heap.size (.slice ao no co) acc∧acc.length≤4000∧Hid (A3n acc (l.drop k)=q)∧Below W0.heap.size W0 wr)
 case atStart=>exact⟨0,none,0,0,[],by omega,rfl,rfl,Row.nil _ _ _,by simp,Hq,Below.refl _ _⟩
 case round=>
  obtain⟨k,ao,no,co,acc,hk,rfl,rfl,hr,bn,HK,hb⟩:=hrel
  have bc:Below w.heap.size w wr:=KBT hb0 hb
  have cw:=hb.size
  by_cases hlt:k<n1
  ·obtain⟨x,Hx⟩:∃ x,Hid (l[k]?=some x):=⟨l[k]'(by rw[←H1.out];exact hlt),List.getElem?_eq_getElem (by rw[←H1.out];exact hlt)⟩
   obtain⟨b,off,rfl,hat⟩:=(h.below RAt.stays bc).get RAt.plain Hx.out
   obtain⟨vx,s0,s1,s2,s3,bg⟩:=hat.at
   obtain⟨ax,nx,cx,rfl,ba,bw⟩:=bg.shape
   have cj:(k:Int)<(n1:Int):=by omega
   obtain⟨bp,hlx⟩:=hs x (List.mem_of_getElem? Hx.out)
   obtain⟨W1,ah⟩:∃ W1,Hid (W1=wr.alloc (.cells #[.int .i64 x.number,.int .i64 x.how,.int .u64 (x.bits:Int),.slice ax nx cx] 106)):=⟨_,rfl⟩
   have hb1:Below wr.heap.size wr W1:=by rw[ah.out];exact(Below.refl _ _).alloc (Nat.le_refl _) _
   have hz1:wr.heap.size+1≤W1.heap.size:=by rw[ah.out];simp
   have x1:W1.heap[wr.heap.size]?=some (.cells #[.int .i64 x.number,.int .i64 x.how,.int .u64 (x.bits:Int),.slice ax nx cx] 106 (0,0)):=by rw[ah.out];exact heap_alloc_new _ _
   have hwr:=B0b x.number x.how x.bits ax nx cx W1 bw
   rw[ba.out] at hwr
   have HS:=D1f Hx.out acc
   obtain⟨E,HE⟩:∃ E,Hid (A0t x.number x.how x.bits x.bytes.length=E):=⟨_,rfl⟩
   rw[HE.out] at hwr HS
   rw[←ba.out] at hwr
   clear hat
   by_cases hE:E=0
   ·have bk:(E != 0)=false:=by simp[hE]
    obtain⟨bq,bt,bu⟩:=D0t (HE.out.trans hE)
    rw[if_neg (by simp[hE])] at HS
    have HS:Hid (A3n acc (l.drop k)=if 4000<(acc++recN x.number x.how x.bits x.bytes).length then([],4) else A3n (acc++recN x.number x.how x.bits x.bytes) (l.drop (k+1))):=HS
    have cg:=C2r x.number x.how x.bits x.bytes
    clear hE
    go_wp2_with fail
    rw[←ah.out]
    refine hwr.mono ?_
    rintro e w2 ⟨rfl,hb2⟩
    obtain⟨t0,t1,t2,t3⟩:=C6u ((hb2.block _ (by omega)).trans x1)
    have ag:Below wr.heap.size wr w2:=KBT hb1 hb2
    have had:=D2c (bg.below YAt.stays ag) x.number x.how x.bits bp (by omega) (by omega) (by omega) (by omega) (by omega) (hr.below ag) (Nat.le_trans hb.size ag.size) (by omega)
    clear hwr hr
    go_wp2_with fail
    refine had.mono ?_
    rintro e w3 ⟨a3,n3,c3,rfl,hr3,hb3⟩
    have au:Below W0.heap.size W0 w3:=(KBT hb ag).trans hb3
    have aw:n3=(acc++recN x.number x.how x.bits x.bytes).length:=hr3.len
    have ak:Hid (n3=(acc++recN x.number x.how x.bits x.bytes).length):=aw
    have bv:n3≤1000000000:=by rw[aw,List.length_append];omega
    clear aw
    by_cases h4:4000<n3
    ·have hi:(4000:Int)<(n3:Int):=by omega
     have ac:Hid (q=([],4)):=by
      show _=_;rw[←HK.out,HS.out,←ak.out,if_pos h4]
     have x3:=(au.block _ (by omega)).trans x0
     obtain⟨t0,t1⟩:=A0y x3
     have f0:=A0b x3
     clear HS
     go_wp2_with fail
     refine bodyPost_ret (v:=.tuple #[.slice none 0 0,.agg #[.int .i64 4,.int .i64 (k:Int)]]) (by simp[results,Tryz.results38,go_sem, *]) rfl ?_
     exact⟨none,0,0,(k:Int),by rw[ac.out],by rw[ac.out];exact Row.nil _ _ _,KB_set (KB_set (KBT hb0 au) (Nat.le_refl _)) (Nat.le_refl _)⟩
    ·have hi:¬ (4000:Int)<(n3:Int):=by omega
     have ac:Hid (A3n (acc++recN x.number x.how x.bits x.bytes) (l.drop (k+1))=q):=by
      show _=_;rw[←HK.out,HS.out,←ak.out,if_neg h4]
     have br:(acc++recN x.number x.how x.bits x.bytes).length≤4000:=by rw[←ak.out];omega
     clear HS
     go_wp2_with fail
     go_roundg (n1-(k+1))
     case measure=>omega
     case rel=>exact⟨k+1,a3,n3,c3,_,by omega,by go_num,rfl,hr3,br,ac,au⟩
   ·have bk:(E != 0)=true:=by simpa using hE
    have ac:Hid (q=([],E)):=by
     show _=_;rw[←HK.out,HS,if_pos hE]
    clear hE HS
    go_wp2_with fail
    rw[←ah.out]
    refine hwr.mono ?_
    rintro e w2 ⟨rfl,hb2⟩
    have ag:Below W0.heap.size W0 w2:=KBT hb (KBT hb1 hb2)
    have x3:=(ag.block _ (by omega)).trans x0
    obtain⟨t0,t1⟩:=A0y x3
    have f0:=A0b x3
    go_wp2_with fail
    refine bodyPost_ret (v:=.tuple #[.slice none 0 0,.agg #[.int .i64 E,.int .i64 (k:Int)]]) (by simp[results,Tryz.results38,go_sem, *]) rfl ?_
    exact⟨none,0,0,(k:Int),by rw[ac.out],by rw[ac.out];exact Row.nil _ _ _,KB_set (KB_set (KBT hb0 ag) (Nat.le_refl _)) (Nat.le_refl _)⟩
  ·have ac:Hid (q=(acc,0)):=by
    show _=_;rw[←HK.out,List.drop_of_length_le (by rw[←H1.out];omega)];rfl
   have x3:=(hb.block _ (by omega)).trans x0
   obtain⟨t0,t1⟩:=A0y x3
   have f0:=A0b x3
   go_wp2_with fail
   refine bodyPost_ret (v:=.tuple #[.slice ao no co,.agg #[.int .i64 0,.int .i64 0]]) (by simp[results,Tryz.results38,go_sem, *]) rfl ?_
   exact⟨ao,no,co,0,by rw[ac.out],by rw[ac.out];exact((hr.low (by omega) 0 _).low (by omega) 1 _).mono (by omega),KB_set (KB_set bc (Nat.le_refl _)) (Nat.le_refl _)⟩
end L
end Go.Proofs.YtgaoojpakjjdnaaGreatDoor
