import Derived.Test.YtcagbdokbnpdfaaGreatDoorZ38
import Derived.Test.YtcagbdokbnpdfaaGreatDoorZ39
import Derived.Deep.QuietTactic
import Derived.BigQuiet
namespace Go.Proofs.YtcagbdokbnpdfaaGreatDoor
namespace L
open Go.RowKit
set_option linter.unusedVariables false
theorem first_takeD {l:List FI}{n:Int}{j:Nat}(h:A0k (fun f=>decide (f.number=n)) l=(j:Int)):∀ a∈l.take j,decide (a.number=n)=false:=by
 intro a ha
 unfold A0k at h
 cases hx:l.findIdx? (fun f=>decide (f.number=n)) with
 | none=>rw[hx] at h;simp at h
 | some i=>
  rw[hx] at h
  have hij:i=j:=by
   have h':(i:Int)=(j:Int):=by simpa using h
   omega
  subst hij
  obtain⟨k,hk⟩:=List.getElem?_of_mem ha
  rw[List.getElem?_take] at hk
  split at hk
  ·rename_i hki
   obtain⟨hlt,hp,hno⟩:=List.findIdx?_eq_some_iff_getElem.1 hx
   obtain⟨hk1,hk2⟩:=List.getElem?_eq_some_iff.1 hk
   have:=hno k hki
   rw[hk2] at this
   simpa using this
  ·cases hk
theorem noF_none {fs:List FI}{r:RI}(h:fs.find? (isF r.number)=none):noF fs r=true:=by unfold noF;rw[h];rfl
theorem noF_some {fs:List FI}{r:RI}{x:FI}(h:fs.find? (isF r.number)=some x):noF fs r=false:=by unfold noF;rw[h];rfl
set_option maxHeartbeats 16000000 in
set_option maxRecDepth 100000 in
theorem unknown_walk (hal:B9e){g:GI}{am:Option Addr}{nm cm:Nat}{ae:Option Addr}{ne ce:Nat}{msg:Int}{w:World}(hI:WIn g am nm cm ae ne ce msg w){ao:Option Addr}{k c:Nat}{l:List UInt8}(hl:RdL 1 YAt w (.slice ao k c) l) :
  Calls Tryz.prog 7 #[.agg #[.slice am nm cm,.slice ae ne ce],.int .i64 msg,.slice ao k c] w fun e w'=>e = .returned (.bool true)∧Below w.heap.size w w':=by
 obtain⟨W1,HW1⟩:∃ W1,Hid (W1=w.alloc (.cells #[.slice am nm cm,.slice ae ne ce] 25)):=⟨_,rfl⟩
 have hb1:Below w.heap.size w W1:=by rw[HW1.out];exact(Below.refl _ _).alloc (Nat.le_refl _) _
 have z1:w.heap.size+1≤W1.heap.size:=by rw[HW1.out];simp
 have x1:W1.heap[w.heap.size]?=some (.cells #[.slice am nm cm,.slice ae ne ce] 25 (0,0)):=by rw[HW1.out];exact heap_alloc_new _ _
 have ha:=hal W1 (hI.tabs.below hb1)
 have HI:Hid (WIn g am nm cm ae ne ce msg w):=hI
 have HL:Hid (RdL 1 YAt w (.slice ao k c) l):=hl
 clear hI hl hal
 go_enter Tryz.func7,Tryz.ntmps7
 go_upto_region 1 with fail
 rw[←HW1.out]
 go_wp2_with fail
 refine ha.mono ?_
 rintro e w2 ⟨rfl,hb2⟩
 have hbw2:Below w.heap.size w w2:=BTr hb1 hb2
 obtain⟨y0,y1⟩:=A0v ((hb2.block _ (by omega)).trans x1)
 obtain⟨R,HR⟩:∃ R,Hid (A2d g msg l=R):=⟨_,rfl⟩
 have hpa:Calls Tryz.prog 14 #[.agg #[.slice am nm cm,.slice ae ne ce],.int .i64 msg,.slice ao k c] w2 fun e w'=>∃ (i0:Option Addr) (j0 l0:Nat) (i1:Option Addr) (j1 l1:Nat) (E:Int),e = .returned (.tuple #[.agg #[.slice i0 j0 l0,.slice i1 j1 l1],.int .i64 E])∧Hid (DRes 12 w2.heap.size R i0 j0 l0 i1 j1 l1 E w')∧Below w2.heap.size w2 w':=by
  refine(A3a (HI.out.below hbw2) (HL.out.below YAt.stays hbw2)).mono ?_
  intro e w' ho
  rw[HR.out] at ho
  obtain⟨i0,j0,l0,i1,j1,l1,E,h1,h2,h3⟩:=ho.open
  exact⟨i0,j0,l0,i1,j1,l1,E,h1,h2,h3⟩
 clear ha
 go_wp2_with fail
 refine hpa.mono ?_
 rintro e w3 ⟨i0,j0,l0,i1,j1,l1,E,rfl,HRes,hb3⟩
 have hz2:=hb2.size
 have hz3:=hb3.size
 obtain⟨W4,HW4⟩:∃ W4,Hid (W4=w3.alloc (.cells #[.slice i0 j0 l0,.slice i1 j1 l1] 29)):=⟨_,rfl⟩
 have hb34:Below w3.heap.size w3 W4:=by rw[HW4.out];exact(Below.refl _ _).alloc (Nat.le_refl _) _
 have x4:W4.heap[w3.heap.size]?=some (.cells #[.slice i0 j0 l0,.slice i1 j1 l1] 29 (0,0)):=by rw[HW4.out];exact heap_alloc_new _ _
 have z4:w3.heap.size+1≤W4.heap.size:=by rw[HW4.out];simp
 have hb14:Below W1.heap.size W1 W4:=BTr hb2 (BTr hb3 hb34)
 have hbw4:Below w.heap.size w W4:=BTr hb1 hb14
 obtain⟨rs,Ep,A,hp⟩:∃ rs E A,A1t l=(rs,E,A):=⟨_,_,_,rfl⟩
 obtain⟨EI',HE⟩:∃ EI':Int,Hid ((Ep:Int)=EI'):=⟨_,rfl⟩
 have hpar:Calls Tryz.prog 22 #[.slice ao k c] W4 fun e w'=>∃ (rl:List (RI×PV)) (ar:Option Addr) (kr cr:Nat),e = .returned (.tuple #[.slice ar kr cr,.agg #[.int .i64 EI',.int .i64 (A:Int)]])∧Hid (Row ekR w' W4.heap.size (.slice ar kr cr) rl∧(∀ r∈rl,Row ekY w' W4.heap.size r.2.v r.1.bytes)∧rl.map Prod.fst=rs.map A8j)∧Below W4.heap.size W4 w':=(C0d (C0i (HL.out.below YAt.stays hbw4)) hp).mono fun e w' ⟨v',ps,h1,h2,h3,h4⟩=>by
  obtain⟨rl,g1,g2,g3⟩:=C0n h2
  obtain⟨ar,kr,cr,rfl,_⟩:=g1.shape'
  rw[HE.out] at h1
  rw[h3] at g3
  exact⟨rl,ar,kr,cr,h1,⟨g1,g2,g3⟩,h4⟩
 clear hpa y0 y1
 go_upto_region 4 with fail
 rw[←HW4.out]
 go_wp2_with fail
 refine hpar.mono ?_
 rintro e w5 ⟨rl,ar,kr,cr,rfl,HRL,hb5⟩
 obtain⟨W6,HW6⟩:∃ W6,Hid (W6=w5.alloc (.cells #[.int .i64 EI',.int .i64 (A:Int)] 60)):=⟨_,rfl⟩
 have hb56:Below w5.heap.size w5 W6:=by rw[HW6.out];exact(Below.refl _ _).alloc (Nat.le_refl _) _
 have x6:W6.heap[w5.heap.size]?=some (.cells #[.int .i64 EI',.int .i64 (A:Int)] 60 (0,0)):=by rw[HW6.out];exact heap_alloc_new _ _
 have z6:w5.heap.size+1≤W6.heap.size:=by rw[HW6.out];simp
 have hb46:Below W4.heap.size W4 W6:=BTr hb5 hb56
 have hbw6:Below w.heap.size w W6:=BTr hbw4 hb46
 have hz5:=hb5.size
 clear hpar
 obtain⟨t0,t1⟩:=A0v x6
 cases R with
 | error E'=>
  obtain⟨hE1,hE2,_⟩:=HRes.out
  subst hE2
  have eE:(E != 0)=true:=by simpa using hE1
  clear hE1
  go_upto_region 5 with fail
  rw[←HW6.out]
  go_wp2
  go_ret
  exact⟨rfl,hbw6⟩
 | ok s=>
  obtain⟨hE0,cc,hc1,hc2,hc3,hc4⟩:=HRes.out
  subst hE0
  obtain⟨hr,j,M,Hj,hM,hrd⟩:=A2a HR.out
  obtain⟨rs',A',hp',hgo⟩:=A5l hrd
  rw[hp] at hp'
  obtain⟨rfl,hEp,rfl⟩:=A0g hp'
  subst hEp
  have HE0:EI'=0:=HE.out.symm
  subst HE0
  have HUnk:Hid (BO.unk s=(rs.map A8j).filter (noF M.fields)):=by show _=_;rw[A8x _ _ _ _ hgo];rfl
  obtain⟨hw1,hw2,hw3⟩:=A6q hp
  obtain⟨hsq,hsw⟩:=A9g (HI.out.gd hr) 12 M l s ((HI.out.gd hr).fs (List.mem_of_getElem? hM)) hrd
  have HSOk:Hid (BOk 12 s):=B5x 12 s hsq (by omega)
  have HSW:Hid (jWB 12 s≤8000):=by show _≤_;omega
  have HSQ:Hid (BQk 12 s):=hsq
  have HSR:Hid (BRd 11 w3 (.slice i0 j0 l0) (.slice i1 j1 l1) s):=by
   have h1:=OwnB.rd (show OwnB w2.heap.size (11+1) w3 cc from hc3)
   have h2 : [PV.v (BL.q0 cc),PV.v (BL.q1 cc)] = [.slice i0 j0 l0,.slice i1 j1 l1]:=hc1
   simp only[List.cons.injEq,and_true] at h2
   rw[h2.1,h2.2,show LB.pl (11+1) cc=s from hc2] at h1
   exact h1
  have HKR:Hid (kr=rs.length):=by
   show _=_
   have h1:kr=rl.length:=(show Row ekR w5 W4.heap.size (.slice ar kr cr) rl from HRL.out.1).len
   have h2:=congrArg List.length HRL.out.2.2
   simp only[List.length_map] at h2
   omega
  have hrsl:kr≤4000:=by
   have:=HKR.out
   have:=A2x (fun r:Rcd=>r.bytes.length+1) (fun _=>by omega) rs
   unfold rsW at hw1
   omega
  have HGd:Hid (∀ r∈rs,B6x r):=hw2
  have Hnm:=HI.out.hg.1.len.1
  have hjl:=(List.getElem?_eq_some_iff.1 hM).1
  have hji:(j:Int) < (nm:Int):=by omega
  have hji0:¬ (j:Int) < 0:=by omega
  subst Hj
  obtain⟨bm,om,rfl,hat⟩:=HI.out.hg.1.get MAt.plain hM
  obtain⟨vf,vb,s0,s1,s2,hrf,hrb⟩:=hat.at
  obtain⟨af,nf,kf,rfl,_,_⟩:=hrf.shape
  obtain⟨ab,nb,kb,rfl,_,_⟩:=hrb.shape
  have HF:Hid (RdL 6 FAt w (.slice af nf kf) M.fields):=hrf
  clear hat hM hrd hgo hp hp' hw1 hw2 hw3 hsq hsw hc1 hc2 hc3 hc4 hrb hrf hjl Hnm hr
  go_upto_region 5 with fail
  rw[←HW6.out]
  go_wp2_with fail
  go_loopg [11,44] kr (fun gm s11 s44 wr=>∃ (i:Nat) (ul:List (RI×PV)) (u0:Option Addr) (u1 u2:Nat),i+gm=kr∧s11 = .slice u0 u1 u2∧s44 = .int .i64 (i:Int)∧Hid (Row ekR wr W6.heap.size (.slice u0 u1 u2) ul∧(∀ r∈ul,Row ekY wr W4.heap.size r.2.v r.1.bytes)∧ul.map Prod.fst=((rl.take i).map Prod.fst).filter (noF M.fields))∧Below W6.heap.size W6 wr)
  case atStart=>exact⟨0,[],none,0,0,by omega,rfl,rfl,⟨Row.nil _ _ _,fun r hr=>(List.not_mem_nil hr).elim,rfl⟩,Below.refl _ _⟩
  case round=>
   obtain⟨i,ul,u0,u1,u2,hi,rfl,rfl,HU,hbr⟩:=hrel
   have hzr:=hbr.size
   have hbwr:Below w.heap.size w wr:=BTr hbw6 hbr
   have HK:Hid (Row ekR wr W4.heap.size (.slice ar kr cr) rl∧∀ r∈rl,Row ekY wr W4.heap.size r.2.v r.1.bytes):=⟨(HRL.out.1.below hb56).below hbr,fun r hr=>((HRL.out.2.1 r hr).below hb56).below hbr⟩
   have k1:=((BTr hb14 (BTr hb46 hbr)).block _ (by omega)).trans x1
   have k4:=((BTr hb46 hbr).block _ (by omega)).trans x4
   by_cases hlt:i < kr
   ·obtain⟨p,Hp⟩:∃ p,Hid (rl[i]?=some p):=by
     have h1:kr=rl.length:=(show Row ekR w5 W4.heap.size (.slice ar kr cr) rl from HRL.out.1).len
     exact⟨rl[i]'(by omega),List.getElem?_eq_getElem _⟩
    obtain⟨gR,rfl,hcR⟩:=(HK.out.1).get Hp.out
    obtain⟨⟨num,how,bit,byt⟩,⟨ay,ny,cy⟩⟩:=p
    have HY:Hid (Row ekY wr W4.heap.size (.slice ay ny cy) byt):=HK.out.2 _ (List.mem_of_getElem? Hp.out)
    have c0:wr.cell? ⟨gR,i*4,none⟩=some (.int .i64 num):=hcR 0 _ rfl
    have c1:wr.cell? ⟨gR,i*4+1,none⟩=some (.int .i64 how):=hcR 1 _ rfl
    have c2:wr.cell? ⟨gR,i*4+2,none⟩=some (.int .u64 (bit:Int)):=hcR 2 _ rfl
    have c3:wr.cell? ⟨gR,i*4+3,none⟩=some (.slice ay ny cy):=hcR 3 _ rfl
    have hlti:(i:Int) < (kr:Int):=by omega
    have HTK:Hid (rl.take (i+1)=rl.take i++[((⟨num,how,bit,byt⟩,(ay,ny,cy)):RI×PV)]):=by
     show _=_
     rw[List.take_add_one,Hp.out]
     rfl
    obtain⟨W8,HW8⟩:∃ W8,Hid (W8=wr.alloc (.cells #[.int .i64 num,.int .i64 how,.int .u64 (bit:Int),.slice ay ny cy] 65)):=⟨_,rfl⟩
    have hb8:Below wr.heap.size wr W8:=by rw[HW8.out];exact(Below.refl _ _).alloc (Nat.le_refl _) _
    have x8:W8.heap[wr.heap.size]?=some (.cells #[.int .i64 num,.int .i64 how,.int .u64 (bit:Int),.slice ay ny cy] 65 (0,0)):=by rw[HW8.out];exact heap_alloc_new _ _
    have hz8:wr.heap.size+1≤W8.heap.size:=by rw[HW8.out];simp
    have hbw8:Below w.heap.size w W8:=BTr hbwr hb8
    have hul:ul.length≤i:=by
     have h1:=congrArg List.length HU.out.2.2
     rw[List.length_map] at h1
     have h2:=List.length_filter_le (noF M.fields) ((rl.take i).map Prod.fst)
     rw[List.length_map,List.length_take] at h2
     omega
    have hcl8:∀ V,Below W8.heap.size W8 V→V.cell? ⟨w.heap.size,0,none⟩=some (.slice (some ⟨bm,om,none⟩) nm cm)∧(V.cell? ⟨wr.heap.size,0,none⟩=some (.int .i64 num)∧V.cell? ⟨wr.heap.size,1,none⟩=some (.int .i64 how)∧V.cell? ⟨wr.heap.size,2,none⟩=some (.int .u64 (bit:Int))∧V.cell? ⟨wr.heap.size,3,none⟩=some (.slice ay ny cy))∧V.cell? ⟨bm,om+j*3,none⟩=some (.string (S M.name))∧V.cell? ⟨bm,om+j*3+1,none⟩=some (.slice af nf kf)∧V.cell? ⟨bm,om+j*3+2,none⟩=some (.slice ab nb kb):=fun V hV=>by
     have hwV:=BTr hbw8 hV
     exact⟨A0a (((BTr hb8 hV).block _ (by omega)).trans k1) 0 _ rfl,A1r ((hV.block _ (by omega)).trans x8),A0c hwV s0,A0c hwV s1,A0c hwV s2⟩
    have hd:Below W8.heap.size W8 W8.drew:=(Below.refl _ _).drew
    clear hcR
    cases hfn:M.fields.find? (isF num) with
    | none=>
     have hfld:∀ V,Below W8.heap.size W8 V→Calls Tryz.prog 21 #[.agg #[.string (S M.name),.slice af nf kf,.slice ab nb kb],.int .i64 num] V fun e w'=>e = .returned (.pointer none)∧Below V.heap.size V w':=fun V hV=>B8q (HF.out.below FAt.stays (BTr hbw8 hV)) ⟨_,_,_,rfl⟩ ⟨_,rfl⟩ num (fun a ha=>by
      have:=List.find?_eq_none.1 hfn a ha
      simpa [isF] using this)
     have HFN:Hid (M.fields.find? (isF num)=none):=hfn
     clear hfn
     go_upto_region 11 with fail
     rw[←HW8.out]
     refine wp_region_held_drew (S:=fun U=>Below W8.heap.size W8 U) (by kernel_rfl) hd (fun hHeld=>?_)
     refine tK (i:=0) (v:=?vn1) rfl (fun _ _ _ h=>h) ⟨by rfl,?hyn1⟩ (by assumption) ?_
     case hyn1=>(intro W hSw;obtain⟨o1,⟨o2,o3,o4,o5⟩,o6,o7,o8⟩:=hcl8 W hSw;go_simp;first|done|with_reducible rfl)
     try simp only[pT,Act.put]
     refine tK (i:=1) (v:=?vn2) rfl (fun _ _ _ h=>h) ⟨by rfl,?hyn2⟩ (by assumption) ?_
     case hyn2=>(intro W hSw;obtain⟨o1,⟨o2,o3,o4,o5⟩,o6,o7,o8⟩:=hcl8 W hSw;go_simp;first|done|with_reducible rfl)
     try simp only[pT,Act.put]
     refine tK (i:=2) (v:=?vn3) rfl (fun _ _ _ h=>h) ⟨by rfl,?hyn3⟩ (by assumption) ?_
     case hyn3=>(intro W hSw;obtain⟨o1,⟨o2,o3,o4,o5⟩,o6,o7,o8⟩:=hcl8 W hSw;go_simp;first|done|with_reducible rfl)
     try simp only[pT,Act.put]
     refine tK (i:=3) (v:=?vn4) rfl (fun _ _ _ h=>h) ⟨by rfl,?hyn4⟩ (by assumption) ?_
     case hyn4=>(intro W hSw;obtain⟨o1,⟨o2,o3,o4,o5⟩,o6,o7,o8⟩:=hcl8 W hSw;go_simp;first|done|with_reducible rfl)
     try simp only[pT,Act.put]
     refine tK (i:=4) (v:=?vn5) rfl (fun _ _ _ h=>h) ⟨by rfl,?hyn5⟩ (by assumption) ?_
     case hyn5=>(intro W hSw;obtain⟨o1,⟨o2,o3,o4,o5⟩,o6,o7,o8⟩:=hcl8 W hSw;go_simp;first|done|with_reducible rfl)
     try simp only[pT,Act.put]
     refine tK (i:=5) (v:=?vn6) rfl (fun _ _ _ h=>h) ⟨by rfl,?hyn6⟩ (by assumption) ?_
     case hyn6=>(intro W hSw;obtain⟨o1,⟨o2,o3,o4,o5⟩,o6,o7,o8⟩:=hcl8 W hSw;go_simp;first|done|with_reducible rfl)
     try simp only[pT,Act.put]
     refine tK (i:=6) (v:=?vn7) rfl (fun _ _ _ h=>h) ⟨by rfl,?hyn7⟩ (by assumption) ?_
     case hyn7=>(intro W hSw;obtain⟨o1,⟨o2,o3,o4,o5⟩,o6,o7,o8⟩:=hcl8 W hSw;go_simp;first|done|with_reducible rfl)
     try simp only[pT,Act.put]
     refine wpAnyH_ready (rs:=[7]) (by kernel_rfl) (by simp) ?_
     refine AllReadyH.cons rfl (fun K hK=>?_) AllReadyH.nil
     go_simp
     refine(hfld _ hd).mono ?_
     rintro e w9 ⟨rfl,hb9⟩
     have hB9:=BTr hd hb9
     refine hK.out _ _ ?_ (fun hHeld=>?_)
     ·(try dsimp only);with_reducible first|exact hd|exact hB9
     clear hK K
     try simp only[pT,Act.put]
     refine tK (i:=8) (v:=?vn8) rfl (fun _ _ _ h=>h) ⟨by rfl,?hyn8⟩ (by assumption) ?_
     case hyn8=>(intro W hSw;obtain⟨o1,⟨o2,o3,o4,o5⟩,o6,o7,o8⟩:=hcl8 W hSw;go_simp;first|done|with_reducible rfl)
     try simp only[pT,Act.put]
     refine wpAnyH_done (by kernel_rfl) ?_ _
     have hb89:Below wr.heap.size wr w9:=BTr hb8 hB9
     have x9:=(hB9.block _ (by omega)).trans x8
     have hz9:=hB9.size
     clear hcl8 hfld c0 c1 c2 c3
     obtain⟨r0,r1,r2,r3⟩:=A1r x9
     obtain⟨W10,HW10⟩:∃ W10,Hid (W10=w9.alloc (.cells #[.int .i64 num,.int .i64 how,.int .u64 (bit:Int),.slice ay ny cy] 65)):=⟨_,rfl⟩
     have hb10:Below w9.heap.size w9 W10:=by rw[HW10.out];exact(Below.refl _ _).alloc (Nat.le_refl _) _
     have x10:W10.heap[w9.heap.size]?=some (.cells #[.int .i64 num,.int .i64 how,.int .u64 (bit:Int),.slice ay ny cy] 65 (0,0)):=by rw[HW10.out];exact heap_alloc_new _ _
     have hb1r:Below wr.heap.size wr W10:=BTr hb89 hb10
     have hrow:Row ekR W10 W6.heap.size (.slice u0 u1 u2) ul:=HU.out.1.below hb1r
     have hsrc:∀ ad,(some ⟨w9.heap.size,0,none⟩:Option Addr)=some ad→∀ k y,[((⟨num,how,bit,byt⟩,(ay,ny,cy)):RI×PV)][k]?=some y→∀ j u,(ekR.enc y)[j]?=some u→W10.cell? (ad.add (k*ekR.size+j))=some u:=A6h x10 rfl
     have hlen:(ul.length + [((⟨num,how,bit,byt⟩,(ay,ny,cy)):RI×PV)].length)*ekR.bytes≤140737488355328:=by
      show(ul.length+1)*48≤_
      omega
     have hBs:W6.heap.size≤W10.heap.size:=Nat.le_trans hzr hb1r.size
     clear x10 x9
     go_wp2_with (at_builtin;rw[←HW10.out];refine A1l rfl ekR _ _ rfl W6.heap.size _ ul [((⟨num,how,bit,byt⟩,(ay,ny,cy)):RI×PV)] rfl hrow (some ⟨w9.heap.size,0,none⟩) 1 1 rfl rfl (fun h=>by cases h) hsrc (show 1≤48 by omega) hlen hBs ?_)
     intro v4 w11 hr4 hg4 hk4
     obtain⟨a4,n4,c4,rfl,Hn4⟩:=hr4.shape'
     have hfA:FrB (own1 (u0,u1,u2)) W10 w11:=A9u hg4 (t:=65) (by decide) (fun g hg=>by
      rcases hrow.2 with⟨hv,_⟩|⟨g',cap,cur,hv,_,hc,_⟩
      ·rw[hv] at hg
       cases hg
      ·rw[hv] at hg
       cases hg
       exact⟨_,_,hc⟩) (fun g hg=>A6p.2 hg)
     have hB11:Below W6.heap.size W6 w11:=(BTr hbr hb1r).grown hg4 (BTr hbr hb1r).size (fun k hk=>(hrow.own k hk).1)
     have HU11:Hid (Row ekR w11 W6.heap.size (.slice a4 n4 c4) (ul++[(⟨num,how,bit,byt⟩,(ay,ny,cy))])∧(∀ r∈ul++[((⟨num,how,bit,byt⟩,(ay,ny,cy)):RI×PV)],Row ekY w11 W4.heap.size r.2.v r.1.bytes)∧(ul++[((⟨num,how,bit,byt⟩,(ay,ny,cy)):RI×PV)]).map Prod.fst=((rl.take (i+1)).map Prod.fst).filter (noF M.fields)):=by
      refine⟨hr4,fun r hr=>?_,?_⟩
      ·rcases List.mem_append.1 hr with h1|h1
       ·exact((HU.out.2.1 r h1).below hb1r).frY hfA
       ·rw[List.mem_singleton.1 h1]
        exact(HY.out.below hb1r).frY hfA
      ·rw[HTK.out,List.map_append,List.map_append,List.filter_append,HU.out.2.2]
       congr 1
       rw[List.map_singleton,List.filter_cons_of_pos (noF_none HFN.out)]
       rfl
     go_wp2_with fail
     go_roundg (kr - (i+1))
     case measure=>omega
     case rel=>exact⟨i+1,ul++[(⟨num,how,bit,byt⟩,(ay,ny,cy))],a4,n4,c4,by omega,rfl,by go_simp,HU11,hB11⟩
    | some x=>
     obtain⟨jf,hjf1,hjf2⟩:=A7q (show M.fields.find? (fun f=>decide (f.number=num))=some x from hfn)
     have hfld:∀ V,Below W8.heap.size W8 V→Calls Tryz.prog 21 #[.agg #[.string (S M.name),.slice af nf kf,.slice ab nb kb],.int .i64 num] V fun e w'=>∃ bb oo,e = .returned (.pointer (some ⟨bb,oo,none⟩))∧Below V.heap.size V w':=fun V hV=>by
      refine(C6q (HF.out.below FAt.stays (BTr hbw8 hV)) ⟨_,_,_,rfl⟩ ⟨_,rfl⟩ num hjf2 (A3x hfn) (first_takeD hjf1)).mono ?_
      rintro e w' ⟨⟨b,off,_,h1⟩,h2⟩
      exact⟨b,off+jf*6,h1,h2⟩
     have HFN:Hid (M.fields.find? (isF num)=some x):=hfn
     clear hfn hjf1 hjf2
     go_upto_region 11 with fail
     rw[←HW8.out]
     refine wp_region_held_drew (S:=fun U=>Below W8.heap.size W8 U) (by kernel_rfl) hd (fun hHeld=>?_)
     refine tK (i:=0) (v:=?vs1) rfl (fun _ _ _ h=>h) ⟨by rfl,?hys1⟩ (by assumption) ?_
     case hys1=>(intro W hSw;obtain⟨o1,⟨o2,o3,o4,o5⟩,o6,o7,o8⟩:=hcl8 W hSw;go_simp;first|done|with_reducible rfl)
     try simp only[pT,Act.put]
     refine tK (i:=1) (v:=?vs2) rfl (fun _ _ _ h=>h) ⟨by rfl,?hys2⟩ (by assumption) ?_
     case hys2=>(intro W hSw;obtain⟨o1,⟨o2,o3,o4,o5⟩,o6,o7,o8⟩:=hcl8 W hSw;go_simp;first|done|with_reducible rfl)
     try simp only[pT,Act.put]
     refine tK (i:=2) (v:=?vs3) rfl (fun _ _ _ h=>h) ⟨by rfl,?hys3⟩ (by assumption) ?_
     case hys3=>(intro W hSw;obtain⟨o1,⟨o2,o3,o4,o5⟩,o6,o7,o8⟩:=hcl8 W hSw;go_simp;first|done|with_reducible rfl)
     try simp only[pT,Act.put]
     refine tK (i:=3) (v:=?vs4) rfl (fun _ _ _ h=>h) ⟨by rfl,?hys4⟩ (by assumption) ?_
     case hys4=>(intro W hSw;obtain⟨o1,⟨o2,o3,o4,o5⟩,o6,o7,o8⟩:=hcl8 W hSw;go_simp;first|done|with_reducible rfl)
     try simp only[pT,Act.put]
     refine tK (i:=4) (v:=?vs5) rfl (fun _ _ _ h=>h) ⟨by rfl,?hys5⟩ (by assumption) ?_
     case hys5=>(intro W hSw;obtain⟨o1,⟨o2,o3,o4,o5⟩,o6,o7,o8⟩:=hcl8 W hSw;go_simp;first|done|with_reducible rfl)
     try simp only[pT,Act.put]
     refine tK (i:=5) (v:=?vs6) rfl (fun _ _ _ h=>h) ⟨by rfl,?hys6⟩ (by assumption) ?_
     case hys6=>(intro W hSw;obtain⟨o1,⟨o2,o3,o4,o5⟩,o6,o7,o8⟩:=hcl8 W hSw;go_simp;first|done|with_reducible rfl)
     try simp only[pT,Act.put]
     refine tK (i:=6) (v:=?vs7) rfl (fun _ _ _ h=>h) ⟨by rfl,?hys7⟩ (by assumption) ?_
     case hys7=>(intro W hSw;obtain⟨o1,⟨o2,o3,o4,o5⟩,o6,o7,o8⟩:=hcl8 W hSw;go_simp;first|done|with_reducible rfl)
     try simp only[pT,Act.put]
     refine wpAnyH_ready (rs:=[7]) (by kernel_rfl) (by simp) ?_
     refine AllReadyH.cons rfl (fun K hK=>?_) AllReadyH.nil
     go_simp
     refine(hfld _ hd).mono ?_
     rintro e w9 ⟨bb,oo,rfl,hb9⟩
     have hB9:=BTr hd hb9
     refine hK.out _ _ ?_ (fun hHeld=>?_)
     ·(try dsimp only);with_reducible first|exact hd|exact hB9
     clear hK K
     try simp only[pT,Act.put]
     refine tK (i:=8) (v:=?vs8) rfl (fun _ _ _ h=>h) ⟨by rfl,?hys8⟩ (by assumption) ?_
     case hys8=>(intro W hSw;obtain⟨o1,⟨o2,o3,o4,o5⟩,o6,o7,o8⟩:=hcl8 W hSw;go_simp;first|done|with_reducible rfl)
     try simp only[pT,Act.put]
     refine wpAnyH_done (by kernel_rfl) ?_ _
     have hb89:Below wr.heap.size wr w9:=BTr hb8 hB9
     clear hcl8 hfld c0 c1 c2 c3
     have HU11:Hid (Row ekR w9 W6.heap.size (.slice u0 u1 u2) ul∧(∀ r∈ul,Row ekY w9 W4.heap.size r.2.v r.1.bytes)∧ul.map Prod.fst=((rl.take (i+1)).map Prod.fst).filter (noF M.fields)):=by
      refine⟨HU.out.1.below hb89,fun r hr=>(HU.out.2.1 r hr).below hb89,?_⟩
      rw[HTK.out,List.map_append,List.filter_append,HU.out.2.2]
      rw[List.map_singleton,List.filter_cons_of_neg (by rw[noF_some HFN.out];simp)]
      simp
     have hB11:Below W6.heap.size W6 w9:=BTr hbr hb89
     go_wp2_with fail
     go_roundg (kr - (i+1))
     case measure=>omega
     case rel=>exact⟨i+1,ul,u0,u1,u2,by omega,rfl,by go_simp,HU11,hB11⟩
   ·have hnl:¬ (i:Int) < (kr:Int):=by omega
    have HWU:Hid (ul.map Prod.fst=BO.unk s):=by
     show _=_
     have h1:kr=rl.length:=(show Row ekR w5 W4.heap.size (.slice ar kr cr) rl from HRL.out.1).len
     rw[HU.out.2.2,List.take_of_length_le (by omega),HUnk.out,HRL.out.2.2]
    have hmem:∀ r∈BO.unk s,r.bits≤18446744073709551615∧r.bytes.length≤100000000:=fun r hr=>by
     rw[HUnk.out] at hr
     obtain⟨rc,hrc,rfl⟩:=List.mem_map.1 (List.mem_filter.1 hr).1
     have h1:=HGd.out rc hrc
     exact⟨h1.1.2.2.2.2,by have:=h1.2;show rc.bytes.length≤_;omega⟩
    have hrw:RdL 4 RAt wr (.slice u0 u1 u2) (BO.unk s):=by
     have h1:=Row.rdR (HU.out.1.mono (by have:=hb46.size;omega:W4.heap.size≤W6.heap.size)) HU.out.2.1
     rw[HWU.out] at h1
     exact h1
    have hrx:RdL 4 RAt w3 (.slice i1 j1 l1) (BO.unk s):=HSR.out.2
    have hju:j1=u1:=by
     have h1:=hrw.len.1
     have h2:=hrx.len.1
     omega
    subst hju
    obtain⟨P,HP⟩:∃ P,Hid (A2m [] (BO.unk s)=P):=⟨_,rfl⟩
    have hby1:=A9b hrw hmem
    rw[HP.out] at hby1
    clear s0 s1 s2
    go_wp2_with fail
    refine hby1.mono ?_
    rintro e w12 ⟨pa,pn,pc,at1,rfl,hrp,hb12⟩
    obtain⟨W13,HW13⟩:∃ W13,Hid (W13=w12.alloc (.cells #[.int .i64 P.2,.int .i64 at1] 60)):=⟨_,rfl⟩
    have hb13:Below w12.heap.size w12 W13:=by rw[HW13.out];exact(Below.refl _ _).alloc (Nat.le_refl _) _
    have hbr13:Below wr.heap.size wr W13:=BTr hb12 hb13
    have hb313:Below w3.heap.size w3 W13:=BTr (BTr hb34 (BTr hb46 hbr)) hbr13
    have k413:=(hbr13.block _ (by omega)).trans k4
    obtain⟨v0,v1⟩:=A0v k413
    have hby2:=A9b (hrx.below RAt.stays hb313) hmem
    rw[HP.out] at hby2
    clear hby1
    go_upto_region 15 with fail
    rw[←HW13.out]
    go_wp2_with fail
    refine hby2.mono ?_
    rintro e w14 ⟨qa,qn,qc,at2,rfl,hrq,hb14'⟩
    obtain⟨W15,HW15⟩:∃ W15,Hid (W15=w14.alloc (.cells #[.int .i64 P.2,.int .i64 at2] 60)):=⟨_,rfl⟩
    have hb15:Below w14.heap.size w14 W15:=by rw[HW15.out];exact(Below.refl _ _).alloc (Nat.le_refl _) _
    have hb1315:Below W13.heap.size W13 W15:=BTr hb14' hb15
    have hbr15:Below wr.heap.size wr W15:=BTr hbr13 hb1315
    have hb315:Below w3.heap.size w3 W15:=BTr hb313 hb1315
    have hbw15:Below w.heap.size w W15:=BTr hbwr hbr15
    have hrp15:=((hrp.below hb13).below hb14').below hb15
    have hrq15:=hrq.below hb15
    have sp:=A2n hrp15.rdY
    have sq:=A2n hrq15.rdY
    clear v0 v1 hby2
    obtain⟨v0,v1⟩:=A0v ((hbr15.block _ (by omega)).trans k4)
    obtain⟨v2,v3⟩:=A0v ((hbr15.block _ (by omega)).trans k1)
    obtain⟨Bs,EB,HB⟩:∃ Bs EB,Hid (A7k g 11 (j:Int) s=(Bs,EB)):=⟨_,_,rfl⟩
    have hbt:=A3z (HI.out.below hbw15) (HSR.out.below hb315) HSOk.out
    rw[HB.out] at hbt
    go_upto_region 16 with fail
    rw[←HW15.out]
    go_wp2_with fail
    refine hbt.mono ?_
    rintro e w16 ⟨ca,cn,cd,rfl,hrc,hb16⟩
    have hbw16:Below w.heap.size w w16:=BTr hbw15 hb16
    have hrp16:=hrp15.below hb16
    clear sp sq v0 v1 v2 v3 hbt
    by_cases hEB:EB=0
    ·subst hEB
     obtain⟨X,hX⟩:=D1q (show(A7k g 11 (j:Int) s).2=0 by rw[HB.out])
     rw[HB.out,HP.out] at hX
     have hX:Bs=X++P.1:=hX
     have hcn:cn=Bs.length:=hrc.len
     have hpn:pn=P.1.length:=hrp.len
     have hlen:pn≤cn:=by rw[hcn,hX,hpn,List.length_append];omega
     have HCN:Hid (cn=X.length+pn):=by show _=_;rw[hcn,hX,hpn,List.length_append]
     have hcap:cn≤cd∧cd≤9223372036854775807∧(ca=none→cn=0∧cd=0):=by
      have h1:=(hrc.rdY).len
      obtain⟨_,_,_,e,_,h2,h3,h4,_⟩:=hrc.rdY
      cases e
      exact⟨h2,by unfold maxLen at h3;omega,h4⟩
     have hrc':=C0i hrc.rdY
     obtain⟨K,hK⟩:∃ K,K=X.length:=⟨_,rfl⟩
     have hcK:cn=K+pn:=by rw[hK];exact HCN.out
     have hsuf:=(hrc'.drop (k:=K) (by omega))
     have hsl:Bs.drop K=P.1:=by rw[hX,hK,List.drop_left]
     rw[hsl] at hsuf
     have e1:decide ((pn:Int)≤(cn:Int))=true:=by simpa using hlen
     have e2:IntKind.i64.wrap ((cn:Int) - (pn:Int))=(K:Int):=by rw[IntKind.wrap_i64];omega
     have e3:(K:Int)≤(cn:Int):=by omega
     have e4:K≤cn:=by omega
     have e5:¬ (K:Int) < 0:=by omega
     have hd16:Below w16.heap.size w16 w16.drew:=(Below.refl _ _).drew
     have HSuf:Hid (RdA w16 (if cd=K then ca else ca.map (·.add K)) (cn - K) (cd - K) P.1):=hsuf
     have HRp:Hid (Row ekY w16 wr.heap.size (.slice pa pn pc) P.1):=hrp16
     have HcK:Hid (cn=K+pn):=hcK
     clear hsuf hrp16 hrc hrc' hX hsl hK hcK hcn hpn
     by_cases hcd:cd=K
     ·subst hcd
      have hstr:∀ V,Below w16.heap.size w16 V→(convert 30 9 (.slice pa pn pc)).run Tryz.prog V = .ok (.string ⟨P.1.toArray⟩) V∧(convert 30 9 (.slice ca 0 0)).run Tryz.prog V = .ok (.string ⟨P.1.toArray⟩) V:=fun V hV=>by
       refine⟨A2n (HRp.out.below hV).rdY,A2n ?_⟩
       have h1:=B0y HSuf.out hV
       rw[if_pos rfl,Nat.sub_self,show cn - cd=0 by omega] at h1
       exact rdl_of h1
      go_upto_region 19 with fail
      refine wp_region_held_drew (S:=fun U=>Below w16.heap.size w16 U) (by kernel_rfl) hd16 (fun hHeld=>?_)
      refine tK (i:=0) (v:=?vy1) rfl (fun _ _ _ h=>h) ⟨by rfl,?hyy1⟩ (by assumption) ?_
      case hyy1=>(intro W hSw;obtain⟨o1,o2⟩:=hstr W hSw;go_simp;first|done|with_reducible rfl)
      try simp only[pT,Act.put]
      refine tK (i:=1) (v:=?vy2) rfl (fun _ _ _ h=>h) ⟨by rfl,?hyy2⟩ (by assumption) ?_
      case hyy2=>(intro W hSw;obtain⟨o1,o2⟩:=hstr W hSw;go_simp;first|done|with_reducible rfl)
      try simp only[pT,Act.put]
      refine tK (i:=2) (v:=?vy3) rfl (fun _ _ _ h=>h) ⟨by rfl,?hyy3⟩ (by assumption) ?_
      case hyy3=>(intro W hSw;obtain⟨o1,o2⟩:=hstr W hSw;go_simp;first|done|with_reducible rfl)
      try simp only[pT,Act.put]
      refine tK (i:=3) (v:=?vy4) rfl (fun _ _ _ h=>h) ⟨by rfl,?hyy4⟩ (by assumption) ?_
      case hyy4=>(intro W hSw;obtain⟨o1,o2⟩:=hstr W hSw;go_simp;first|done|with_reducible rfl)
      try simp only[pT,Act.put]
      refine tK (i:=4) (v:=?vy5) rfl (fun _ _ _ h=>h) ⟨by rfl,?hyy5⟩ (by assumption) ?_
      case hyy5=>(intro W hSw;obtain⟨o1,o2⟩:=hstr W hSw;go_simp;first|done|with_reducible rfl)
      try simp only[pT,Act.put]
      refine tK (i:=5) (v:=?vy6) rfl (fun _ _ _ h=>h) ⟨by rfl,?hyy6⟩ (by assumption) ?_
      case hyy6=>(intro W hSw;obtain⟨o1,o2⟩:=hstr W hSw;go_simp;first|done|with_reducible rfl)
      try simp only[pT,Act.put]
      refine tK (i:=6) (v:=?vy7) rfl (fun _ _ _ h=>h) ⟨by rfl,?hyy7⟩ (by assumption) ?_
      case hyy7=>(intro W hSw;obtain⟨o1,o2⟩:=hstr W hSw;go_simp;first|done|with_reducible rfl)
      try simp only[pT,Act.put]
      refine tK (i:=7) (v:=?vy8) rfl (fun _ _ _ h=>h) ⟨by rfl,?hyy8⟩ (by assumption) ?_
      case hyy8=>(intro W hSw;obtain⟨o1,o2⟩:=hstr W hSw;go_simp;first|done|with_reducible rfl)
      try simp only[pT,Act.put]
      refine tK (i:=8) (v:=?vy9) rfl (fun _ _ _ h=>h) ⟨by rfl,?hyy9⟩ (by assumption) ?_
      case hyy9=>(intro W hSw;obtain⟨o1,o2⟩:=hstr W hSw;go_simp;first|done|with_reducible rfl)
      try simp only[pT,Act.put]
      refine tK (i:=9) (v:=?vy10) rfl (fun _ _ _ h=>h) ⟨by rfl,?hyy10⟩ (by assumption) ?_
      case hyy10=>(intro W hSw;obtain⟨o1,o2⟩:=hstr W hSw;go_simp;first|done|with_reducible rfl)
      try simp only[pT,Act.put]
      refine tK (i:=10) (v:=?vy11) rfl (fun _ _ _ h=>h) ⟨by rfl,?hyy11⟩ (by assumption) ?_
      case hyy11=>(intro W hSw;obtain⟨o1,o2⟩:=hstr W hSw;go_simp;first|done|with_reducible rfl)
      try simp only[pT,Act.put]
      refine tK (i:=11) (v:=?vy12) rfl (fun _ _ _ h=>h) ⟨by rfl,?hyy12⟩ (by assumption) ?_
      case hyy12=>(intro W hSw;obtain⟨o1,o2⟩:=hstr W hSw;go_simp;first|done|with_reducible rfl)
      try simp only[pT,Act.put]
      refine tK (i:=12) (v:=?vy13) rfl (fun _ _ _ h=>h) ⟨by rfl,?hyy13⟩ (by assumption) ?_
      case hyy13=>(intro W hSw;obtain⟨o1,o2⟩:=hstr W hSw;go_simp;first|done|with_reducible rfl)
      try simp only[pT,Act.put]
      refine tK (i:=13) (v:=?vy14) rfl (fun _ _ _ h=>h) ⟨by rfl,?hyy14⟩ (by assumption) ?_
      case hyy14=>(intro W hSw;obtain⟨o1,o2⟩:=hstr W hSw;go_simp;first|done|with_reducible rfl)
      try simp only[pT,Act.put]
      refine tK (i:=14) (v:=?vy15) rfl (fun _ _ _ h=>h) ⟨by rfl,?hyy15⟩ (by assumption) ?_
      case hyy15=>(intro W hSw;obtain⟨o1,o2⟩:=hstr W hSw;go_simp;first|done|with_reducible rfl)
      try simp only[pT,Act.put]
      refine tK (i:=15) (v:=?vy16) rfl (fun _ _ _ h=>h) ⟨by rfl,?hyy16⟩ (by assumption) ?_
      case hyy16=>(intro W hSw;obtain⟨o1,o2⟩:=hstr W hSw;go_simp;first|done|with_reducible rfl)
      try simp only[pT,Act.put]
      refine tK (i:=16) (v:=?vy17) rfl (fun _ _ _ h=>h) ⟨by rfl,?hyy17⟩ (by assumption) ?_
      case hyy17=>(intro W hSw;obtain⟨o1,o2⟩:=hstr W hSw;go_simp;first|done|with_reducible rfl)
      try simp only[pT,Act.put]
      refine tK (i:=17) (v:=?vy18) rfl (fun _ _ _ h=>h) ⟨by rfl,?hyy18⟩ (by assumption) ?_
      case hyy18=>(intro W hSw;obtain⟨o1,o2⟩:=hstr W hSw;go_simp;first|done|with_reducible rfl)
      try simp only[pT,Act.put]
      refine tK (i:=18) (v:=?vy19) rfl (fun _ _ _ h=>h) ⟨by rfl,?hyy19⟩ (by assumption) ?_
      case hyy19=>(intro W hSw;obtain⟨o1,o2⟩:=hstr W hSw;go_simp;first|done|with_reducible rfl)
      try simp only[pT,Act.put]
      refine tK (i:=19) (v:=?vy20) rfl (fun _ _ _ h=>h) ⟨by rfl,?hyy20⟩ (by assumption) ?_
      case hyy20=>(intro W hSw;obtain⟨o1,o2⟩:=hstr W hSw;go_simp;first|done|with_reducible rfl)
      try simp only[pT,Act.put]
      refine tK (i:=20) (v:=?vy21) rfl (fun _ _ _ h=>h) ⟨by rfl,?hyy21⟩ (by assumption) ?_
      case hyy21=>(intro W hSw;obtain⟨o1,o2⟩:=hstr W hSw;go_simp;first|done|with_reducible rfl)
      try simp only[pT,Act.put]
      refine tK (i:=21) (v:=?vy22) rfl (fun _ _ _ h=>h) ⟨by rfl,?hyy22⟩ (by assumption) ?_
      case hyy22=>(intro W hSw;obtain⟨o1,o2⟩:=hstr W hSw;go_simp;first|done|with_reducible rfl)
      try simp only[pT,Act.put]
      refine tK (i:=22) (v:=?vy23) rfl (fun _ _ _ h=>h) ⟨by rfl,?hyy23⟩ (by assumption) ?_
      case hyy23=>(intro W hSw;obtain⟨o1,o2⟩:=hstr W hSw;go_simp;first|done|with_reducible rfl)
      try simp only[pT,Act.put]
      refine wpAnyH_done (by kernel_rfl) ?_ _
      go_wp2
      go_ret
      exact⟨rfl,BTr hbw16 hd16⟩
     ·have hca:∃ ad,ca=some ad:=by
       cases ca with
       | none=>have:=hcap.2.2 rfl;omega
       | some ad=>exact⟨ad,rfl⟩
      obtain⟨ad,rfl⟩:=hca
      have hstr:∀ V,Below w16.heap.size w16 V→(convert 30 9 (.slice pa pn pc)).run Tryz.prog V = .ok (.string ⟨P.1.toArray⟩) V∧(convert 30 9 (.slice (some (ad.add K)) (cn - K) (cd - K))).run Tryz.prog V = .ok (.string ⟨P.1.toArray⟩) V:=fun V hV=>by
       refine⟨A2n (HRp.out.below hV).rdY,A2n ?_⟩
       have h1:=B0y HSuf.out hV
       rw[if_neg hcd] at h1
       exact rdl_of h1
      go_upto_region 19 with fail
      refine wp_region_held_drew (S:=fun U=>Below w16.heap.size w16 U) (by kernel_rfl) hd16 (fun hHeld=>?_)
      refine tK (i:=0) (v:=?vz1) rfl (fun _ _ _ h=>h) ⟨by rfl,?hyz1⟩ (by assumption) ?_
      case hyz1=>(intro W hSw;obtain⟨o1,o2⟩:=hstr W hSw;go_simp;first|done|with_reducible rfl)
      try simp only[pT,Act.put]
      refine tK (i:=1) (v:=?vz2) rfl (fun _ _ _ h=>h) ⟨by rfl,?hyz2⟩ (by assumption) ?_
      case hyz2=>(intro W hSw;obtain⟨o1,o2⟩:=hstr W hSw;go_simp;first|done|with_reducible rfl)
      try simp only[pT,Act.put]
      refine tK (i:=2) (v:=?vz3) rfl (fun _ _ _ h=>h) ⟨by rfl,?hyz3⟩ (by assumption) ?_
      case hyz3=>(intro W hSw;obtain⟨o1,o2⟩:=hstr W hSw;go_simp;first|done|with_reducible rfl)
      try simp only[pT,Act.put]
      refine tK (i:=3) (v:=?vz4) rfl (fun _ _ _ h=>h) ⟨by rfl,?hyz4⟩ (by assumption) ?_
      case hyz4=>(intro W hSw;obtain⟨o1,o2⟩:=hstr W hSw;go_simp;first|done|with_reducible rfl)
      try simp only[pT,Act.put]
      refine tK (i:=4) (v:=?vz5) rfl (fun _ _ _ h=>h) ⟨by rfl,?hyz5⟩ (by assumption) ?_
      case hyz5=>(intro W hSw;obtain⟨o1,o2⟩:=hstr W hSw;go_simp;first|done|with_reducible rfl)
      try simp only[pT,Act.put]
      refine tK (i:=5) (v:=?vz6) rfl (fun _ _ _ h=>h) ⟨by rfl,?hyz6⟩ (by assumption) ?_
      case hyz6=>(intro W hSw;obtain⟨o1,o2⟩:=hstr W hSw;go_simp;first|done|with_reducible rfl)
      try simp only[pT,Act.put]
      refine tK (i:=6) (v:=?vz7) rfl (fun _ _ _ h=>h) ⟨by rfl,?hyz7⟩ (by assumption) ?_
      case hyz7=>(intro W hSw;obtain⟨o1,o2⟩:=hstr W hSw;go_simp;first|done|with_reducible rfl)
      try simp only[pT,Act.put]
      refine tK (i:=7) (v:=?vz8) rfl (fun _ _ _ h=>h) ⟨by rfl,?hyz8⟩ (by assumption) ?_
      case hyz8=>(intro W hSw;obtain⟨o1,o2⟩:=hstr W hSw;go_simp;first|done|with_reducible rfl)
      try simp only[pT,Act.put]
      refine tK (i:=8) (v:=?vz9) rfl (fun _ _ _ h=>h) ⟨by rfl,?hyz9⟩ (by assumption) ?_
      case hyz9=>(intro W hSw;obtain⟨o1,o2⟩:=hstr W hSw;go_simp;first|done|with_reducible rfl)
      try simp only[pT,Act.put]
      refine tK (i:=9) (v:=?vz10) rfl (fun _ _ _ h=>h) ⟨by rfl,?hyz10⟩ (by assumption) ?_
      case hyz10=>(intro W hSw;obtain⟨o1,o2⟩:=hstr W hSw;go_simp;first|done|with_reducible rfl)
      try simp only[pT,Act.put]
      refine tK (i:=10) (v:=?vz11) rfl (fun _ _ _ h=>h) ⟨by rfl,?hyz11⟩ (by assumption) ?_
      case hyz11=>(intro W hSw;obtain⟨o1,o2⟩:=hstr W hSw;go_simp;first|done|with_reducible rfl)
      try simp only[pT,Act.put]
      refine tK (i:=11) (v:=?vz12) rfl (fun _ _ _ h=>h) ⟨by rfl,?hyz12⟩ (by assumption) ?_
      case hyz12=>(intro W hSw;obtain⟨o1,o2⟩:=hstr W hSw;go_simp;first|done|with_reducible rfl)
      try simp only[pT,Act.put]
      refine tK (i:=12) (v:=?vz13) rfl (fun _ _ _ h=>h) ⟨by rfl,?hyz13⟩ (by assumption) ?_
      case hyz13=>(intro W hSw;obtain⟨o1,o2⟩:=hstr W hSw;go_simp;first|done|with_reducible rfl)
      try simp only[pT,Act.put]
      refine tK (i:=13) (v:=?vz14) rfl (fun _ _ _ h=>h) ⟨by rfl,?hyz14⟩ (by assumption) ?_
      case hyz14=>(intro W hSw;obtain⟨o1,o2⟩:=hstr W hSw;go_simp;first|done|with_reducible rfl)
      try simp only[pT,Act.put]
      refine tK (i:=14) (v:=?vz15) rfl (fun _ _ _ h=>h) ⟨by rfl,?hyz15⟩ (by assumption) ?_
      case hyz15=>(intro W hSw;obtain⟨o1,o2⟩:=hstr W hSw;go_simp;first|done|with_reducible rfl)
      try simp only[pT,Act.put]
      refine tK (i:=15) (v:=?vz16) rfl (fun _ _ _ h=>h) ⟨by rfl,?hyz16⟩ (by assumption) ?_
      case hyz16=>(intro W hSw;obtain⟨o1,o2⟩:=hstr W hSw;go_simp;first|done|with_reducible rfl)
      try simp only[pT,Act.put]
      refine tK (i:=16) (v:=?vz17) rfl (fun _ _ _ h=>h) ⟨by rfl,?hyz17⟩ (by assumption) ?_
      case hyz17=>(intro W hSw;obtain⟨o1,o2⟩:=hstr W hSw;go_simp;first|done|with_reducible rfl)
      try simp only[pT,Act.put]
      refine tK (i:=17) (v:=?vz18) rfl (fun _ _ _ h=>h) ⟨by rfl,?hyz18⟩ (by assumption) ?_
      case hyz18=>(intro W hSw;obtain⟨o1,o2⟩:=hstr W hSw;go_simp;first|done|with_reducible rfl)
      try simp only[pT,Act.put]
      refine tK (i:=18) (v:=?vz19) rfl (fun _ _ _ h=>h) ⟨by rfl,?hyz19⟩ (by assumption) ?_
      case hyz19=>(intro W hSw;obtain⟨o1,o2⟩:=hstr W hSw;go_simp;first|done|with_reducible rfl)
      try simp only[pT,Act.put]
      refine tK (i:=19) (v:=?vz20) rfl (fun _ _ _ h=>h) ⟨by rfl,?hyz20⟩ (by assumption) ?_
      case hyz20=>(intro W hSw;obtain⟨o1,o2⟩:=hstr W hSw;go_simp;first|done|with_reducible rfl)
      try simp only[pT,Act.put]
      refine tK (i:=20) (v:=?vz21) rfl (fun _ _ _ h=>h) ⟨by rfl,?hyz21⟩ (by assumption) ?_
      case hyz21=>(intro W hSw;obtain⟨o1,o2⟩:=hstr W hSw;go_simp;first|done|with_reducible rfl)
      try simp only[pT,Act.put]
      refine tK (i:=21) (v:=?vz22) rfl (fun _ _ _ h=>h) ⟨by rfl,?hyz22⟩ (by assumption) ?_
      case hyz22=>(intro W hSw;obtain⟨o1,o2⟩:=hstr W hSw;go_simp;first|done|with_reducible rfl)
      try simp only[pT,Act.put]
      refine tK (i:=22) (v:=?vz23) rfl (fun _ _ _ h=>h) ⟨by rfl,?hyz23⟩ (by assumption) ?_
      case hyz23=>(intro W hSw;obtain⟨o1,o2⟩:=hstr W hSw;go_simp;first|done|with_reducible rfl)
      try simp only[pT,Act.put]
      refine wpAnyH_done (by kernel_rfl) ?_ _
      go_wp2
      go_ret
      exact⟨rfl,BTr hbw16 hd16⟩
    ·have eB:(EB != 0)=true:=by simpa using hEB
     have hd16:Below w16.heap.size w16 w16.drew:=(Below.refl _ _).drew
     go_upto_region 19 with fail
     refine wp_region_held_drew (S:=fun U=>Below w16.heap.size w16 U) (by kernel_rfl) hd16 (fun hHeld=>?_)
     refine tK (i:=0) (v:=?vx1) rfl (fun _ _ _ h=>h) ⟨by rfl,?hyx1⟩ (by assumption) ?_
     case hyx1=>(intro W hSw;(try dsimp only at hSw);go_simp;first|done|with_reducible rfl)
     try simp only[pT,Act.put]
     refine tK (i:=1) (v:=?vx2) rfl (fun _ _ _ h=>h) ⟨by rfl,?hyx2⟩ (by assumption) ?_
     case hyx2=>(intro W hSw;(try dsimp only at hSw);go_simp;first|done|with_reducible rfl)
     try simp only[pT,Act.put]
     refine tK (i:=2) (v:=?vx3) rfl (fun _ _ _ h=>h) ⟨by rfl,?hyx3⟩ (by assumption) ?_
     case hyx3=>(intro W hSw;(try dsimp only at hSw);go_simp;first|done|with_reducible rfl)
     try simp only[pT,Act.put]
     refine wpAnyH_take (i:=3) (v:=undef) rfl (by kernel_rfl) (by kernel_rfl) (by kernel_rfl) (fun _ _ _ h=>h) (Or.inr ⟨by rfl,rfl⟩) (by assumption) ?_
     try simp only[pT,Act.put]
     refine wpAnyH_take (i:=4) (v:=undef) rfl (by kernel_rfl) (by kernel_rfl) (by kernel_rfl) (fun _ _ _ h=>h) (Or.inr ⟨by rfl,rfl⟩) (by assumption) ?_
     try simp only[pT,Act.put]
     refine wpAnyH_take (i:=5) (v:=undef) rfl (by kernel_rfl) (by kernel_rfl) (by kernel_rfl) (fun _ _ _ h=>h) (Or.inr ⟨by rfl,rfl⟩) (by assumption) ?_
     try simp only[pT,Act.put]
     refine wpAnyH_take (i:=6) (v:=undef) rfl (by kernel_rfl) (by kernel_rfl) (by kernel_rfl) (fun _ _ _ h=>h) (Or.inr ⟨by rfl,rfl⟩) (by assumption) ?_
     try simp only[pT,Act.put]
     refine wpAnyH_take (i:=7) (v:=undef) rfl (by kernel_rfl) (by kernel_rfl) (by kernel_rfl) (fun _ _ _ h=>h) (Or.inr ⟨by rfl,rfl⟩) (by assumption) ?_
     try simp only[pT,Act.put]
     refine wpAnyH_take (i:=8) (v:=undef) rfl (by kernel_rfl) (by kernel_rfl) (by kernel_rfl) (fun _ _ _ h=>h) (Or.inr ⟨by rfl,rfl⟩) (by assumption) ?_
     try simp only[pT,Act.put]
     refine wpAnyH_take (i:=9) (v:=undef) rfl (by kernel_rfl) (by kernel_rfl) (by kernel_rfl) (fun _ _ _ h=>h) (Or.inr ⟨by rfl,rfl⟩) (by assumption) ?_
     try simp only[pT,Act.put]
     refine wpAnyH_take (i:=10) (v:=undef) rfl (by kernel_rfl) (by kernel_rfl) (by kernel_rfl) (fun _ _ _ h=>h) (Or.inr ⟨by rfl,rfl⟩) (by assumption) ?_
     try simp only[pT,Act.put]
     refine wpAnyH_take (i:=11) (v:=undef) rfl (by kernel_rfl) (by kernel_rfl) (by kernel_rfl) (fun _ _ _ h=>h) (Or.inr ⟨by rfl,rfl⟩) (by assumption) ?_
     try simp only[pT,Act.put]
     refine wpAnyH_take (i:=12) (v:=undef) rfl (by kernel_rfl) (by kernel_rfl) (by kernel_rfl) (fun _ _ _ h=>h) (Or.inr ⟨by rfl,rfl⟩) (by assumption) ?_
     try simp only[pT,Act.put]
     refine wpAnyH_take (i:=13) (v:=undef) rfl (by kernel_rfl) (by kernel_rfl) (by kernel_rfl) (fun _ _ _ h=>h) (Or.inr ⟨by rfl,rfl⟩) (by assumption) ?_
     try simp only[pT,Act.put]
     refine wpAnyH_take (i:=14) (v:=undef) rfl (by kernel_rfl) (by kernel_rfl) (by kernel_rfl) (fun _ _ _ h=>h) (Or.inr ⟨by rfl,rfl⟩) (by assumption) ?_
     try simp only[pT,Act.put]
     refine wpAnyH_take (i:=15) (v:=undef) rfl (by kernel_rfl) (by kernel_rfl) (by kernel_rfl) (fun _ _ _ h=>h) (Or.inr ⟨by rfl,rfl⟩) (by assumption) ?_
     try simp only[pT,Act.put]
     refine wpAnyH_take (i:=16) (v:=undef) rfl (by kernel_rfl) (by kernel_rfl) (by kernel_rfl) (fun _ _ _ h=>h) (Or.inr ⟨by rfl,rfl⟩) (by assumption) ?_
     try simp only[pT,Act.put]
     refine wpAnyH_take (i:=17) (v:=undef) rfl (by kernel_rfl) (by kernel_rfl) (by kernel_rfl) (fun _ _ _ h=>h) (Or.inr ⟨by rfl,rfl⟩) (by assumption) ?_
     try simp only[pT,Act.put]
     refine wpAnyH_take (i:=18) (v:=undef) rfl (by kernel_rfl) (by kernel_rfl) (by kernel_rfl) (fun _ _ _ h=>h) (Or.inr ⟨by rfl,rfl⟩) (by assumption) ?_
     try simp only[pT,Act.put]
     refine wpAnyH_take (i:=19) (v:=undef) rfl (by kernel_rfl) (by kernel_rfl) (by kernel_rfl) (fun _ _ _ h=>h) (Or.inr ⟨by rfl,rfl⟩) (by assumption) ?_
     try simp only[pT,Act.put]
     refine wpAnyH_take (i:=20) (v:=undef) rfl (by kernel_rfl) (by kernel_rfl) (by kernel_rfl) (fun _ _ _ h=>h) (Or.inr ⟨by rfl,rfl⟩) (by assumption) ?_
     try simp only[pT,Act.put]
     refine tK (i:=21) (v:=?vx4) rfl (fun _ _ _ h=>h) ⟨by rfl,?hyx4⟩ (by assumption) ?_
     case hyx4=>(intro W hSw;(try dsimp only at hSw);go_simp;first|done|with_reducible rfl)
     try simp only[pT,Act.put]
     refine tK (i:=22) (v:=?vx5) rfl (fun _ _ _ h=>h) ⟨by rfl,?hyx5⟩ (by assumption) ?_
     case hyx5=>(intro W hSw;(try dsimp only at hSw);go_simp;first|done|with_reducible rfl)
     try simp only[pT,Act.put]
     refine wpAnyH_done (by kernel_rfl) ?_ _
     go_wp2
     go_ret
     exact⟨rfl,BTr hbw16 hd16⟩
end L
end Go.Proofs.YtcagbdokbnpdfaaGreatDoor
