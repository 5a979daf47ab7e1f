import Derived.Test.YtgaoojpakjjdnaaGreatDoorX43
set_option maxHeartbeats 32000000
set_option maxRecDepth 100000
namespace Go.Proofs.YtgaoojpakjjdnaaGreatDoor
open Go.RowKit
theorem A5w {w:World}{g:Nat}{a0 a1 a2:Value}{t:TypeId}(h:w.heap[g]?=some (.cells #[a0,a1,a2] t (0,0))) :
  w.cell? ⟨g,0,none⟩=some a0∧w.cell? ⟨g,1,none⟩=some a1∧w.cell? ⟨g,2,none⟩=some a2:=⟨A0a h 0 _ rfl,A0a h 1 _ rfl,A0a h 2 _ rfl⟩
def E2z (w:World)(base:Nat)(x:Msg)(v:Value):Prop:=∃ vf vb,v = .agg #[.string (S x.name),vf,vb]∧Row A4q w base vf x.fields∧Row A7d w base vb x.barred
theorem A2u {B b:Nat}{txt r:List UInt8}{m e:Value}{w:World}(h:St w b txt r m e)(hg:Gl B w)(hB:B≤b)(K:Nat)(ir:K≤1000000)(hN:A0e K r≠.error none) :
  Calls Tryz.prog 191 #[.pointer (some ⟨b,0,none⟩)] w (C7n b txt m e w (fun x v w'=>E2z w' w.heap.size x v) (A0e K r)):=by
 have dn:=h.lt
 have HN:Hid (A0e K r≠.error none):=hN
 have HX:Hid (A0e K r=R.thn (A3o r) fun nm u=>R.thn (A1q 123 u) fun _ u=>A3h K K ⟨nm,[],[]⟩ 0 u):=rfl
 clear hN
 go_enter Tryz.func191,Tryz.ntmps191
 go_wp2_with fail
 refine(A9s (h.alloc _)).mono ?_
 rintro en w1 ⟨gw,hx⟩
 have hR:w1.heap[w.heap.size]?=some (.cells #[.string ⟨#[]⟩,.slice none 0 0,.slice none 0 0] 38 (0,0)):=A0q (heap_alloc_new w _) gw (by omega)
 have hz1:w.heap.size+1≤w1.heap.size:=by have:=gw.size;simpa using this
 have dl:Kp b w w1:=((Kp.refl b w).alloc _).trans gw
 clear gw
 cases hn:A3o r with
 | error E=>
  rw[hn] at hx
  match E,hx with
  | none,hx=>exact hx.elim
  | some (c,t),hx=>
   obtain⟨ht,rfl⟩:=hx
   have HY:Hid (A0e K r = .error (some (c,t))):=by show _=_;rw[HX.out,hn];rfl
   clear hn HX
   go_wp2
   exact⟨rfl,A0f dl HY.out ht⟩
 | ok p=>
  obtain⟨nm,t1⟩:=p
  rw[hn] at hx
  obtain⟨hs1,_,rfl,rfl⟩:=hx
  have gj:Hid (A0e K r=R.thn (A1q 123 t1) fun _ u=>A3h K K ⟨nm,[],[]⟩ 0 u):=by show _=_;rw[HX.out,hn];rfl
  clear hn HX
  have hF2:=heap_alloc_new w1 (.cells #[.string (S nm),.slice none 0 0,.slice none 0 0] 38)
  have ik:=(Below.heap_alloc w1 (.cells #[.string (S nm),.slice none 0 0,.slice none 0 0] 38) w.heap.size (by omega)).trans hR
  have hs2:=hs1.alloc (.cells #[.string (S nm),.slice none 0 0,.slice none 0 0] 38)
  have hk2:=dl.alloc (.cells #[.string (S nm),.slice none 0 0,.slice none 0 0] 38)
  clear dl hR hs1
  go_wp2_with fail
  generalize w1.alloc (.cells #[.string (S nm),.slice none 0 0,.slice none 0 0] 38)=W2 at *
  obtain⟨F,ie⟩:∃ F,Hid (F=w1.heap.size):=⟨_,rfl⟩
  have iq:w.heap.size+1≤F:=by rw[ie.out];exact hz1
  rw[←ie.out] at hF2 ⊢
  clear hz1
  refine(A4t hs2 123).mono ?_
  rintro en w3 ⟨hk3,hx⟩
  have ij:=A0q hF2 hk3 (by omega)
  have il:=A0q ik hk3 (by omega)
  have dl:=hk2.trans hk3
  clear hF2 ik hs2 hk2 hk3
  cases hn:A1q 123 t1 with
  | error E=>
   rw[hn] at hx
   match E,hx with
   | none,hx=>exact hx.elim
   | some (c,t),hx=>
    obtain⟨ht,rfl⟩:=hx
    have HY:Hid (A0e K r = .error (some (c,t))):=by show _=_;rw[gj.out,hn];rfl
    clear hn gj
    go_wp2
    exact⟨rfl,A0f dl HY.out ht⟩
  | ok p=>
   obtain⟨_,t2⟩:=p
   rw[hn] at hx
   obtain⟨hs3,_,rfl,rfl⟩:=hx
   have ig:Hid (A0e K r=A3h K K ⟨nm,[],[]⟩ 0 t2):=by show _=_;rw[gj.out,hn];rfl
   clear hn gj
   go_wp2_with fail
   go_loopg [4] K (fun k sc wr=>∃ fs bs ch q vf vb,sc = .int .i64 ((ch:Nat):Int)∧Row A4q wr w.heap.size vf fs∧Row A7d wr w.heap.size vb bs∧wr.heap[F]?=some (.cells #[.string (S nm),vf,vb] 38 (0,0))∧wr.heap[w.heap.size]?=some (.cells #[.string ⟨#[]⟩,.slice none 0 0,.slice none 0 0] 38 (0,0))∧St wr b txt q m e∧Kp b w wr∧fs.length≤16∧bs.length≤16∧ch+k≤K∧Hid (A0e K r=A3h K k ⟨nm,fs,bs⟩ ch q))
   case atStart=>exact⟨[],[],0,t2,.slice none 0 0,.slice none 0 0,rfl,Row.nil _ _ _,Row.nil _ _ _,ij,il,hs3,dl,by simp,by simp,by omega,ig⟩
   case round=>
    clear ij il hs3 dl ig
    obtain⟨fs,bs,ch,q,vf,vb,rfl,io,im,hF,hR,hs,hk,iw,iu,hch,HR⟩:=hrel
    cases gk with
    | zero=>exact absurd HR.out HN.out
    | succ k=>
     go_wp2_with fail
     refine(A8f hs 125).mono ?_
     rintro en w4 ⟨rfl,gy,hk4⟩
     have fc:=io.kp hk4 dn
     have ew:=im.kp hk4 dn
     have g9:=A0q hF hk4 (by omega)
     have fo:=A0q hR hk4 (by omega)
     have dl:=hk.trans hk4
     clear io im hs hk hF hR hk4
     generalize hq:A4c 125 q=mq at gy ⊢
     obtain⟨ok,t3⟩:=mq
     cases ok with
     | true=>
      have dm:Hid (A0e K r = .ok (⟨nm,fs,bs⟩,t3)):=by show _=_;rw[HR.out,A3h,hq]
      clear hq HR
      obtain⟨c0,c1,c2⟩:=A5w g9
      obtain⟨d0,d1,d2⟩:=A5w fo
      have g0:=A0b fo 0
      have g1:=A0b fo 1
      have g2:=A0b fo 2
      obtain⟨ao,nf,cap,rfl,_⟩:=fc.shape'
      obtain⟨ii,nb,gc,rfl,_⟩:=ew.shape'
      go_wp2
      refine bodyPost_ret (v:=.agg #[.string (S nm),.slice ao nf cap,.slice ii nb gc]) (by simp[results,Tryz.results191,go_sem, *]) rfl ?_
      have fu:=((dl.setNew (F:=w.heap.size) (by omega) 0 (.string (S nm))).setNew (F:=w.heap.size) (by omega) 1 (.slice ao nf cap)).setNew (F:=w.heap.size) (by omega) 2 (.slice ii nb gc)
      refine A5l fu dm.out (((gy.other (by omega) _ _).other (by omega) _ _).other (by omega) _ _) ⟨_,_,rfl,?_,?_⟩
      ·have hb:=fc.ne_blk fo (by decide)
       exact((fc.other hb _ _).other hb _ _).other hb _ _
      ·have hb:=ew.ne_blk fo (by decide)
       exact((ew.other hb _ _).other hb _ _).other hb _ _
     | false=>
      have dm:Hid (A0e K r=R.thn (A8m K ⟨nm,fs,bs⟩ ch t3) fun p u=>if 16<p.1.fields.length∨16<p.1.barred.length then .error (some (5,u)) else A3h K k p.1 p.2 u):=by show _=_;rw[HR.out,A3h,hq]
      clear hq HR
      go_wp2_with fail
      refine(A5f gy A3l (by decide)).mono ?_
      rintro en w5 ⟨rfl,hs5,fu⟩
      have fh:=fc.kp fu dn
      have fd:=ew.kp fu dn
      have gl:=A0q g9 fu (by omega)
      have gq:=A0q fo fu (by omega)
      replace dl:=dl.trans fu
      clear fc ew gy g9 fo fu
      generalize hq:B0h A3l t3=mq at hs5 ⊢
      obtain⟨ok,t5⟩:=mq
      cases ok with
      | true=>
       obtain⟨w7,g8⟩:∃ w7,w7=w5:=⟨_,rfl⟩
       obtain⟨t7,gz⟩:∃ t7,t7=t5:=⟨_,rfl⟩
       subst g8 gz
       have HP:Hid (A8m K ⟨nm,fs,bs⟩ ch t3=R.thn (A0u K t7) fun l u=>.ok ((⟨nm,fs,bs++l⟩,ch),u)):=by show _=_;rw[A8m,hq]
       have gg:A0u K t7≠.error none:=by intro hh;apply HN.out;rw[dm.out,HP.out,hh];rfl
       have d9:St w7 b txt t7 m e:=hs5
       have dr:=fh
       have dp:=fd
       have eu:=gl
       have fq:=gq
       have ft:Gl B w7:=hg.kp hB dn dl
       have ip:t7.length≤3000:=by have:=d9.1;have:=d9.2.1;omega
       clear hq hs5 fh fd gl gq
       go_wp2_with fail
       obtain⟨c0,c1,c2⟩:=A5w eu
       refine wp_region_any (by kernel_rfl) ?_
       change wpAny _ _ _ _ _ _ _ (World.drew _)
       refine wpAny_take (i:=0) (v:=.pointer (some ⟨F,2,none⟩)) rfl (by kernel_rfl) (by kernel_rfl) (by kernel_rfl) (fun _ _ _ h=>h) (Or.inl ⟨by rfl,by intro w;go_simp⟩) ?_
       refine wpAny_take (i:=2) (v:=.pointer (some ⟨b,0,none⟩)) rfl (by kernel_rfl) (by kernel_rfl) (by kernel_rfl) (fun _ _ _ h=>h) (Or.inl ⟨by rfl,by intro w;go_simp⟩) ?_
       refine wpAny_ready (rs:=[1,3]) (by kernel_rfl) (by simp) ?_
       refine AllReady.cons rfl (fun Kc hK=>?_) (AllReady.cons rfl (fun Kc hK=>?_) AllReady.nil)
       ·go_simp
        refine hK _ _ ?_
        clear hK
        refine wpAny_ready (rs:=[3]) (by kernel_rfl) (by simp) ?_
        refine AllReady.cons rfl (fun Kc hK=>?_) AllReady.nil
        go_simp
        refine(B1f d9.drew ft.drew' hB K gg).mono ?_
        rintro en w8 ⟨br,hx⟩
        have dh:=(dr.drew').kp br dn
        have dg:=(dp.drew').kp br dn
        have di:=A0q (w:=w7.drew) eu br (by omega)
        have ej:=A0q (w:=w7.drew) fq br (by omega)
        have bg:=dl.drew.trans br
        cases hn:A0u K t7 with
        | error E=>
         rw[hn] at hx
         match E,hx with
         | none,hx=>exact hx.elim
         | some (c,t),hx=>
          obtain⟨ht,rfl⟩:=hx
          have HY:Hid (A0e K r = .error (some (c,t))):=by show _=_;rw[dm.out,HP.out,hn];rfl
          clear hn dm hK
          go_wp2
          exact⟨rfl,A0f bg HY.out ht⟩
        | ok p=>
         obtain⟨l,t8⟩:=p
         rw[hn] at hx
         obtain⟨eo,vl,rfl,fw⟩:=hx
         have gh:l.length≤3000:=by have:=A7r hn;omega
         have HI:Hid (A0u K t7 = .ok (l,t8)):=hn
         clear hn
         obtain⟨c0,c1,c2⟩:=A5w di
         have et:w.heap.size≤w8.heap.size:=bg.size
         have fk:F<w8.heap.size:=(Array.getElem?_eq_some_iff.1 di).1
         refine hK _ _ ?_
         clear hK
         refine wpAny_ready (rs:=[4]) (by kernel_rfl) (by simp) ?_
         refine AllReady.cons rfl (fun Kc hK=>?_) AllReady.nil
         simp only[Region.wanted]
         have df:=fw
         have ak:=dh
         have au:=dg
         have bv:=di
         have cj:=ej
         have ee:=eo
         have dz:=bg
         refine A3w A7d _ _ rfl w.heap.size _ bs l rfl au _ _ rfl df (by(try simp);omega) et ?_
         intro vn eh ah hgr
         obtain⟨bh,nn,ac,rfl,dv⟩:=ah.shape'
         obtain⟨fx,no,dw,rfl,dt⟩:=ak.shape'
         have hown:=au.own
         have cw:=ee.grown hgr (fun k hk=>by have:=(hown k hk).1;omega)
         have cu:=dz.grown hgr (fun k hk=>(hown k hk).1)
         have ag:=(hgr.block F (Array.getElem?_eq_some_iff.1 bv).1 (fun hh=>au.ne_blk bv (by decide) hh.symm)).trans bv
         have bw:=(hgr.block w.heap.size (Array.getElem?_eq_some_iff.1 cj).1 (fun hh=>au.ne_blk cj (by decide) hh.symm)).trans cj
         have aw:=ak.grown hgr (ak.ne au (by decide))
         obtain⟨_,k1,k2⟩:=A5w ag
         have g1:=A0b ag 2
         clear c0 c1 c2
         refine hK _ _ ?_
         clear hK
         refine wpAny_take (i:=5) (v:=.pointer (some ⟨F,2,none⟩)) rfl (by kernel_rfl) (by kernel_rfl) (by kernel_rfl) (fun _ _ _ h=>h) (Or.inl ⟨by rfl,by intro w;go_simp⟩) ?_
         refine wpAny_ready (rs:=[6]) (by kernel_rfl) (by simp) ?_
         refine AllReady.cons rfl (fun Kc hK=>?_) AllReady.nil
         go_simp
         refine hK _ _ ?_
         clear hK
         refine wpAny_done (by kernel_rfl) ?_ _
         have bk:=heap_setCell_same _ _ 2 _ _ (.slice bh nn ac) ag
         have cg:=(heap_setCell_other eh ⟨F,2,none⟩ w.heap.size (.slice bh nn ac) (by simp;omega)).trans bw
         have aj:=cw.other (F:=F) (by omega) 2 (.slice bh nn ac)
         have a8:=cu.setNew (F:=F) (by omega) 2 (.slice bh nn ac)
         have bp:=ah.other (ah.ne_blk ag (by decide)) 2 (.slice bh nn ac)
         have bq:=aw.other (aw.ne_blk ag (by decide)) 2 (.slice bh nn ac)
         have bu:Hid (no=(fs).length):=dt
         have bt:Hid (nn=(bs++l).length):=dv
         obtain⟨_,c1,c2⟩:=A5w bk
         have HQ:Hid (A0e K r=if 16<no∨16<nn then .error (some (5,t8)) else A3h K k ⟨nm,fs,bs++l⟩ ch t8):=by show _=_;rw[dm.out,HP.out,HI.out,bu.out,bt.out];rfl
         have f9:no≤10000:=by rw[bu.out];(try simp);omega
         have f6:nn≤10000:=by rw[bt.out];(try simp);omega
         by_cases h16:16<no
         ·have HY:Hid (A0e K r = .error (some (5,t8))):=by show _=_;rw[HQ.out,if_pos (.inl h16)]
          go_wp2_with fail
          refine(A0n aj 5).mono ?_
          rintro en ei ⟨rfl,rfl⟩
          go_wp2
          exact⟨rfl,A0f a8 HY.out aj.2.1⟩
         ·have dx:¬ (16:Int)<(no:Int):=by omega
          by_cases h17:16<nn
          ·have HY:Hid (A0e K r = .error (some (5,t8))):=by show _=_;rw[HQ.out,if_pos (.inr h17)]
           go_wp2_with fail
           refine(A0n aj 5).mono ?_
           rintro en ei ⟨rfl,rfl⟩
           go_wp2
           exact⟨rfl,A0f a8 HY.out aj.2.1⟩
          ·have dy:¬ (16:Int)<(nn:Int):=by omega
           have HY:Hid (A0e K r=A3h K k ⟨nm,fs,bs++l⟩ ch t8):=by show _=_;rw[HQ.out,if_neg (by omega)]
           go_wp2_with fail
           go_roundg k
           case measure=>omega
           case rel=>exact⟨fs,bs++l,ch,t8,_,_,rfl,bq,bp,bk,cg,aj,a8,by rw[←bu.out];omega,by rw[←bt.out];omega,by omega,HY⟩
       ·go_simp
        refine(B1f d9.drew ft.drew' hB K gg).mono ?_
        rintro en w8 ⟨br,hx⟩
        have dh:=(dr.drew').kp br dn
        have dg:=(dp.drew').kp br dn
        have di:=A0q (w:=w7.drew) eu br (by omega)
        have ej:=A0q (w:=w7.drew) fq br (by omega)
        have bg:=dl.drew.trans br
        cases hn:A0u K t7 with
        | error E=>
         rw[hn] at hx
         match E,hx with
         | none,hx=>exact hx.elim
         | some (c,t),hx=>
          obtain⟨ht,rfl⟩:=hx
          have HY:Hid (A0e K r = .error (some (c,t))):=by show _=_;rw[dm.out,HP.out,hn];rfl
          clear hn dm hK
          go_wp2
          exact⟨rfl,A0f bg HY.out ht⟩
        | ok p=>
         obtain⟨l,t8⟩:=p
         rw[hn] at hx
         obtain⟨eo,vl,rfl,fw⟩:=hx
         have gh:l.length≤3000:=by have:=A7r hn;omega
         have HI:Hid (A0u K t7 = .ok (l,t8)):=hn
         clear hn
         obtain⟨c0,c1,c2⟩:=A5w di
         have et:w.heap.size≤w8.heap.size:=bg.size
         have fk:F<w8.heap.size:=(Array.getElem?_eq_some_iff.1 di).1
         refine hK _ _ ?_
         clear hK
         refine wpAny_ready (rs:=[1]) (by kernel_rfl) (by simp) ?_
         refine AllReady.cons rfl (fun Kc hK=>?_) AllReady.nil
         go_simp
         refine hK _ _ ?_
         clear hK
         refine wpAny_ready (rs:=[4]) (by kernel_rfl) (by simp) ?_
         refine AllReady.cons rfl (fun Kc hK=>?_) AllReady.nil
         simp only[Region.wanted]
         have df:=fw
         have ak:=dh
         have au:=dg
         have bv:=di
         have cj:=ej
         have ee:=eo
         have dz:=bg
         refine A3w A7d _ _ rfl w.heap.size _ bs l rfl au _ _ rfl df (by(try simp);omega) et ?_
         intro vn eh ah hgr
         obtain⟨bh,nn,ac,rfl,dv⟩:=ah.shape'
         obtain⟨fx,no,dw,rfl,dt⟩:=ak.shape'
         have hown:=au.own
         have cw:=ee.grown hgr (fun k hk=>by have:=(hown k hk).1;omega)
         have cu:=dz.grown hgr (fun k hk=>(hown k hk).1)
         have ag:=(hgr.block F (Array.getElem?_eq_some_iff.1 bv).1 (fun hh=>au.ne_blk bv (by decide) hh.symm)).trans bv
         have bw:=(hgr.block w.heap.size (Array.getElem?_eq_some_iff.1 cj).1 (fun hh=>au.ne_blk cj (by decide) hh.symm)).trans cj
         have aw:=ak.grown hgr (ak.ne au (by decide))
         obtain⟨_,k1,k2⟩:=A5w ag
         have g1:=A0b ag 2
         clear c0 c1 c2
         refine hK _ _ ?_
         clear hK
         refine wpAny_take (i:=5) (v:=.pointer (some ⟨F,2,none⟩)) rfl (by kernel_rfl) (by kernel_rfl) (by kernel_rfl) (fun _ _ _ h=>h) (Or.inl ⟨by rfl,by intro w;go_simp⟩) ?_
         refine wpAny_ready (rs:=[6]) (by kernel_rfl) (by simp) ?_
         refine AllReady.cons rfl (fun Kc hK=>?_) AllReady.nil
         go_simp
         refine hK _ _ ?_
         clear hK
         refine wpAny_done (by kernel_rfl) ?_ _
         have bk:=heap_setCell_same _ _ 2 _ _ (.slice bh nn ac) ag
         have cg:=(heap_setCell_other eh ⟨F,2,none⟩ w.heap.size (.slice bh nn ac) (by simp;omega)).trans bw
         have aj:=cw.other (F:=F) (by omega) 2 (.slice bh nn ac)
         have a8:=cu.setNew (F:=F) (by omega) 2 (.slice bh nn ac)
         have bp:=ah.other (ah.ne_blk ag (by decide)) 2 (.slice bh nn ac)
         have bq:=aw.other (aw.ne_blk ag (by decide)) 2 (.slice bh nn ac)
         have bu:Hid (no=(fs).length):=dt
         have bt:Hid (nn=(bs++l).length):=dv
         obtain⟨_,c1,c2⟩:=A5w bk
         have HQ:Hid (A0e K r=if 16<no∨16<nn then .error (some (5,t8)) else A3h K k ⟨nm,fs,bs++l⟩ ch t8):=by show _=_;rw[dm.out,HP.out,HI.out,bu.out,bt.out];rfl
         have f9:no≤10000:=by rw[bu.out];(try simp);omega
         have f6:nn≤10000:=by rw[bt.out];(try simp);omega
         by_cases h16:16<no
         ·have HY:Hid (A0e K r = .error (some (5,t8))):=by show _=_;rw[HQ.out,if_pos (.inl h16)]
          go_wp2_with fail
          refine(A0n aj 5).mono ?_
          rintro en ei ⟨rfl,rfl⟩
          go_wp2
          exact⟨rfl,A0f a8 HY.out aj.2.1⟩
         ·have dx:¬ (16:Int)<(no:Int):=by omega
          by_cases h17:16<nn
          ·have HY:Hid (A0e K r = .error (some (5,t8))):=by show _=_;rw[HQ.out,if_pos (.inr h17)]
           go_wp2_with fail
           refine(A0n aj 5).mono ?_
           rintro en ei ⟨rfl,rfl⟩
           go_wp2
           exact⟨rfl,A0f a8 HY.out aj.2.1⟩
          ·have dy:¬ (16:Int)<(nn:Int):=by omega
           have HY:Hid (A0e K r=A3h K k ⟨nm,fs,bs++l⟩ ch t8):=by show _=_;rw[HQ.out,if_neg (by omega)]
           go_wp2_with fail
           go_roundg k
           case measure=>omega
           case rel=>exact⟨fs,bs++l,ch,t8,_,_,rfl,bq,bp,bk,cg,aj,a8,by rw[←bu.out];omega,by rw[←bt.out];omega,by omega,HY⟩
      | false=>
       go_wp2_with fail
       refine(A5f hs5 A5s (by decide)).mono ?_
       rintro en w6 ⟨rfl,gi,fy⟩
       have fj:=fh.kp fy dn
       have fe:=fd.kp fy dn
       have gp:=A0q gl fy (by omega)
       have gu:=A0q gq fy (by omega)
       replace dl:=dl.trans fy
       clear fh fd hs5 gl gq fy
       generalize hq6:B0h A5s t5=mq at gi ⊢
       obtain⟨ok,t6⟩:=mq
       cases ok with
       | true=>
        obtain⟨w7,g8⟩:∃ w7,w7=w6:=⟨_,rfl⟩
        obtain⟨t7,gz⟩:∃ t7,t7=t6:=⟨_,rfl⟩
        subst g8 gz
        have HP:Hid (A8m K ⟨nm,fs,bs⟩ ch t3=R.thn (A1w K (ch+1) t7) fun l u=>.ok ((⟨nm,fs++l,bs⟩,ch+1),u)):=by show _=_;rw[A8m,hq];show(match B0h A5s t5 with|(true,t)=>_|(false,t)=>_)=_;rw[hq6]
        have gg:A1w K (ch+1) t7≠.error none:=by intro hh;apply HN.out;rw[dm.out,HP.out,hh];rfl
        have d9:St w7 b txt t7 m e:=gi
        have dr:=fj
        have dp:=fe
        have eu:=gp
        have fq:=gu
        have ft:Gl B w7:=hg.kp hB dn dl
        have ip:t7.length≤3000:=by have:=d9.1;have:=d9.2.1;omega
        clear hq hq6 gi fj fe gp gu
        go_wp2_with fail
        obtain⟨c0,c1,c2⟩:=A5w eu
        refine wp_region_any (by kernel_rfl) ?_
        change wpAny _ _ _ _ _ _ _ (World.drew _)
        refine wpAny_take (i:=0) (v:=.pointer (some ⟨F,1,none⟩)) rfl (by kernel_rfl) (by kernel_rfl) (by kernel_rfl) (fun _ _ _ h=>h) (Or.inl ⟨by rfl,by intro w;go_simp⟩) ?_
        refine wpAny_take (i:=2) (v:=.pointer (some ⟨b,0,none⟩)) rfl (by kernel_rfl) (by kernel_rfl) (by kernel_rfl) (fun _ _ _ h=>h) (Or.inl ⟨by rfl,by intro w;go_simp⟩) ?_
        refine wpAny_take (i:=3) (v:=.int .i64 ((ch:Int)+1)) rfl (by kernel_rfl) (by kernel_rfl) (by kernel_rfl) (fun _ _ _ h=>h) (Or.inl ⟨by rfl,by intro w;go_simp⟩) ?_
        refine wpAny_ready (rs:=[1,4]) (by kernel_rfl) (by simp) ?_
        refine AllReady.cons rfl (fun Kc hK=>?_) (AllReady.cons rfl (fun Kc hK=>?_) AllReady.nil)
        ·go_simp
         refine hK _ _ ?_
         clear hK
         refine wpAny_ready (rs:=[4]) (by kernel_rfl) (by simp) ?_
         refine AllReady.cons rfl (fun Kc hK=>?_) AllReady.nil
         go_simp
         refine(B4n d9.drew ft.drew' hB K (ch+1) gg).mono ?_
         rintro en w8 ⟨br,hx⟩
         have dh:=(dr.drew').kp br dn
         have dg:=(dp.drew').kp br dn
         have di:=A0q (w:=w7.drew) eu br (by omega)
         have ej:=A0q (w:=w7.drew) fq br (by omega)
         have bg:=dl.drew.trans br
         cases hn:A1w K (ch+1) t7 with
         | error E=>
          rw[hn] at hx
          match E,hx with
          | none,hx=>exact hx.elim
          | some (c,t),hx=>
           obtain⟨ht,rfl⟩:=hx
           have HY:Hid (A0e K r = .error (some (c,t))):=by show _=_;rw[dm.out,HP.out,hn];rfl
           clear hn dm hK
           go_wp2
           exact⟨rfl,A0f bg HY.out ht⟩
         | ok p=>
          obtain⟨l,t8⟩:=p
          rw[hn] at hx
          obtain⟨eo,vl,rfl,fw⟩:=hx
          have gh:l.length≤3000:=by have:=B0k hn;omega
          have HI:Hid (A1w K (ch+1) t7 = .ok (l,t8)):=hn
          clear hn
          obtain⟨c0,c1,c2⟩:=A5w di
          have et:w.heap.size≤w8.heap.size:=bg.size
          have fk:F<w8.heap.size:=(Array.getElem?_eq_some_iff.1 di).1
          refine hK _ _ ?_
          clear hK
          refine wpAny_ready (rs:=[5]) (by kernel_rfl) (by simp) ?_
          refine AllReady.cons rfl (fun Kc hK=>?_) AllReady.nil
          simp only[Region.wanted]
          have df:=fw
          have ak:=dh
          have au:=dg
          have bv:=di
          have cj:=ej
          have ee:=eo
          have dz:=bg
          refine A3w A4q _ _ rfl w.heap.size _ fs l rfl ak _ _ rfl df (by(try simp);omega) et ?_
          intro vn eh ah hgr
          obtain⟨bh,nn,ac,rfl,dv⟩:=ah.shape'
          obtain⟨fx,no,dw,rfl,dt⟩:=au.shape'
          have hown:=ak.own
          have cw:=ee.grown hgr (fun k hk=>by have:=(hown k hk).1;omega)
          have cu:=dz.grown hgr (fun k hk=>(hown k hk).1)
          have ag:=(hgr.block F (Array.getElem?_eq_some_iff.1 bv).1 (fun hh=>ak.ne_blk bv (by decide) hh.symm)).trans bv
          have bw:=(hgr.block w.heap.size (Array.getElem?_eq_some_iff.1 cj).1 (fun hh=>ak.ne_blk cj (by decide) hh.symm)).trans cj
          have aw:=au.grown hgr (au.ne ak (by decide))
          obtain⟨_,k1,k2⟩:=A5w ag
          have g1:=A0b ag 1
          clear c0 c1 c2
          refine hK _ _ ?_
          clear hK
          refine wpAny_take (i:=6) (v:=.pointer (some ⟨F,1,none⟩)) rfl (by kernel_rfl) (by kernel_rfl) (by kernel_rfl) (fun _ _ _ h=>h) (Or.inl ⟨by rfl,by intro w;go_simp⟩) ?_
          refine wpAny_ready (rs:=[7]) (by kernel_rfl) (by simp) ?_
          refine AllReady.cons rfl (fun Kc hK=>?_) AllReady.nil
          go_simp
          refine hK _ _ ?_
          clear hK
          refine wpAny_done (by kernel_rfl) ?_ _
          have bk:=heap_setCell_same _ _ 1 _ _ (.slice bh nn ac) ag
          have cg:=(heap_setCell_other eh ⟨F,1,none⟩ w.heap.size (.slice bh nn ac) (by simp;omega)).trans bw
          have aj:=cw.other (F:=F) (by omega) 1 (.slice bh nn ac)
          have a8:=cu.setNew (F:=F) (by omega) 1 (.slice bh nn ac)
          have bq:=ah.other (ah.ne_blk ag (by decide)) 1 (.slice bh nn ac)
          have bp:=aw.other (aw.ne_blk ag (by decide)) 1 (.slice bh nn ac)
          have bu:Hid (nn=(fs++l).length):=dv
          have bt:Hid (no=(bs).length):=dt
          obtain⟨_,c1,c2⟩:=A5w bk
          have HQ:Hid (A0e K r=if 16<nn∨16<no then .error (some (5,t8)) else A3h K k ⟨nm,fs++l,bs⟩ (ch+1) t8):=by show _=_;rw[dm.out,HP.out,HI.out,bu.out,bt.out];rfl
          have f9:nn≤10000:=by rw[bu.out];(try simp);omega
          have f6:no≤10000:=by rw[bt.out];(try simp);omega
          by_cases h16:16<nn
          ·have HY:Hid (A0e K r = .error (some (5,t8))):=by show _=_;rw[HQ.out,if_pos (.inl h16)]
           go_wp2_with fail
           refine(A0n aj 5).mono ?_
           rintro en ei ⟨rfl,rfl⟩
           go_wp2
           exact⟨rfl,A0f a8 HY.out aj.2.1⟩
          ·have dx:¬ (16:Int)<(nn:Int):=by omega
           by_cases h17:16<no
           ·have HY:Hid (A0e K r = .error (some (5,t8))):=by show _=_;rw[HQ.out,if_pos (.inr h17)]
            go_wp2_with fail
            refine(A0n aj 5).mono ?_
            rintro en ei ⟨rfl,rfl⟩
            go_wp2
            exact⟨rfl,A0f a8 HY.out aj.2.1⟩
           ·have dy:¬ (16:Int)<(no:Int):=by omega
            have HY:Hid (A0e K r=A3h K k ⟨nm,fs++l,bs⟩ (ch+1) t8):=by show _=_;rw[HQ.out,if_neg (by omega)]
            go_wp2_with fail
            go_roundg k
            case measure=>omega
            case rel=>exact⟨fs++l,bs,(ch+1),t8,_,_,by push_cast;rfl,bq,bp,bk,cg,aj,a8,by rw[←bu.out];omega,by rw[←bt.out];omega,by omega,HY⟩
        ·go_simp
         refine(B4n d9.drew ft.drew' hB K (ch+1) gg).mono ?_
         rintro en w8 ⟨br,hx⟩
         have dh:=(dr.drew').kp br dn
         have dg:=(dp.drew').kp br dn
         have di:=A0q (w:=w7.drew) eu br (by omega)
         have ej:=A0q (w:=w7.drew) fq br (by omega)
         have bg:=dl.drew.trans br
         cases hn:A1w K (ch+1) t7 with
         | error E=>
          rw[hn] at hx
          match E,hx with
          | none,hx=>exact hx.elim
          | some (c,t),hx=>
           obtain⟨ht,rfl⟩:=hx
           have HY:Hid (A0e K r = .error (some (c,t))):=by show _=_;rw[dm.out,HP.out,hn];rfl
           clear hn dm hK
           go_wp2
           exact⟨rfl,A0f bg HY.out ht⟩
         | ok p=>
          obtain⟨l,t8⟩:=p
          rw[hn] at hx
          obtain⟨eo,vl,rfl,fw⟩:=hx
          have gh:l.length≤3000:=by have:=B0k hn;omega
          have HI:Hid (A1w K (ch+1) t7 = .ok (l,t8)):=hn
          clear hn
          obtain⟨c0,c1,c2⟩:=A5w di
          have et:w.heap.size≤w8.heap.size:=bg.size
          have fk:F<w8.heap.size:=(Array.getElem?_eq_some_iff.1 di).1
          refine hK _ _ ?_
          clear hK
          refine wpAny_ready (rs:=[1]) (by kernel_rfl) (by simp) ?_
          refine AllReady.cons rfl (fun Kc hK=>?_) AllReady.nil
          go_simp
          refine hK _ _ ?_
          clear hK
          refine wpAny_ready (rs:=[5]) (by kernel_rfl) (by simp) ?_
          refine AllReady.cons rfl (fun Kc hK=>?_) AllReady.nil
          simp only[Region.wanted]
          have df:=fw
          have ak:=dh
          have au:=dg
          have bv:=di
          have cj:=ej
          have ee:=eo
          have dz:=bg
          refine A3w A4q _ _ rfl w.heap.size _ fs l rfl ak _ _ rfl df (by(try simp);omega) et ?_
          intro vn eh ah hgr
          obtain⟨bh,nn,ac,rfl,dv⟩:=ah.shape'
          obtain⟨fx,no,dw,rfl,dt⟩:=au.shape'
          have hown:=ak.own
          have cw:=ee.grown hgr (fun k hk=>by have:=(hown k hk).1;omega)
          have cu:=dz.grown hgr (fun k hk=>(hown k hk).1)
          have ag:=(hgr.block F (Array.getElem?_eq_some_iff.1 bv).1 (fun hh=>ak.ne_blk bv (by decide) hh.symm)).trans bv
          have bw:=(hgr.block w.heap.size (Array.getElem?_eq_some_iff.1 cj).1 (fun hh=>ak.ne_blk cj (by decide) hh.symm)).trans cj
          have aw:=au.grown hgr (au.ne ak (by decide))
          obtain⟨_,k1,k2⟩:=A5w ag
          have g1:=A0b ag 1
          clear c0 c1 c2
          refine hK _ _ ?_
          clear hK
          refine wpAny_take (i:=6) (v:=.pointer (some ⟨F,1,none⟩)) rfl (by kernel_rfl) (by kernel_rfl) (by kernel_rfl) (fun _ _ _ h=>h) (Or.inl ⟨by rfl,by intro w;go_simp⟩) ?_
          refine wpAny_ready (rs:=[7]) (by kernel_rfl) (by simp) ?_
          refine AllReady.cons rfl (fun Kc hK=>?_) AllReady.nil
          go_simp
          refine hK _ _ ?_
          clear hK
          refine wpAny_done (by kernel_rfl) ?_ _
          have bk:=heap_setCell_same _ _ 1 _ _ (.slice bh nn ac) ag
          have cg:=(heap_setCell_other eh ⟨F,1,none⟩ w.heap.size (.slice bh nn ac) (by simp;omega)).trans bw
          have aj:=cw.other (F:=F) (by omega) 1 (.slice bh nn ac)
          have a8:=cu.setNew (F:=F) (by omega) 1 (.slice bh nn ac)
          have bq:=ah.other (ah.ne_blk ag (by decide)) 1 (.slice bh nn ac)
          have bp:=aw.other (aw.ne_blk ag (by decide)) 1 (.slice bh nn ac)
          have bu:Hid (nn=(fs++l).length):=dv
          have bt:Hid (no=(bs).length):=dt
          obtain⟨_,c1,c2⟩:=A5w bk
          have HQ:Hid (A0e K r=if 16<nn∨16<no then .error (some (5,t8)) else A3h K k ⟨nm,fs++l,bs⟩ (ch+1) t8):=by show _=_;rw[dm.out,HP.out,HI.out,bu.out,bt.out];rfl
          have f9:nn≤10000:=by rw[bu.out];(try simp);omega
          have f6:no≤10000:=by rw[bt.out];(try simp);omega
          by_cases h16:16<nn
          ·have HY:Hid (A0e K r = .error (some (5,t8))):=by show _=_;rw[HQ.out,if_pos (.inl h16)]
           go_wp2_with fail
           refine(A0n aj 5).mono ?_
           rintro en ei ⟨rfl,rfl⟩
           go_wp2
           exact⟨rfl,A0f a8 HY.out aj.2.1⟩
          ·have dx:¬ (16:Int)<(nn:Int):=by omega
           by_cases h17:16<no
           ·have HY:Hid (A0e K r = .error (some (5,t8))):=by show _=_;rw[HQ.out,if_pos (.inr h17)]
            go_wp2_with fail
            refine(A0n aj 5).mono ?_
            rintro en ei ⟨rfl,rfl⟩
            go_wp2
            exact⟨rfl,A0f a8 HY.out aj.2.1⟩
           ·have dy:¬ (16:Int)<(no:Int):=by omega
            have HY:Hid (A0e K r=A3h K k ⟨nm,fs++l,bs⟩ (ch+1) t8):=by show _=_;rw[HQ.out,if_neg (by omega)]
            go_wp2_with fail
            go_roundg k
            case measure=>omega
            case rel=>exact⟨fs++l,bs,(ch+1),t8,_,_,by push_cast;rfl,bq,bp,bk,cg,aj,a8,by rw[←bu.out];omega,by rw[←bt.out];omega,by omega,HY⟩
       | false=>
        go_wp2_with fail
        refine(A5f gi A2y (by decide)).mono ?_
        rintro en w7 ⟨rfl,d9,fz⟩
        have dr:=fj.kp fz dn
        have dp:=fe.kp fz dn
        have eu:=A0q gp fz (by omega)
        have fq:=A0q gu fz (by omega)
        replace dl:=dl.trans fz
        clear fj fe gi gp gu fz
        generalize hq7:B0h A2y t6=mq at d9 ⊢
        obtain⟨many,t7⟩:=mq
        have HP:Hid (A8m K ⟨nm,fs,bs⟩ ch t3=R.thn (A1v many 0 t7) fun f u=>.ok ((⟨nm,fs++[f],bs⟩,ch),u)):=by show _=_;rw[A8m,hq];show(match B0h A5s t5 with|(true,t)=>_|(false,t)=>_)=_;rw[hq6];show R.thn (A1v (B0h A2y t6).1 0 (B0h A2y t6).2) _=_;rw[hq7]
        have ft:Gl B w7:=hg.kp hB dn dl
        clear hq hq6 hq7
        go_wp2_with fail
        obtain⟨c0,c1,c2⟩:=A5w eu
        refine wp_region_any (by kernel_rfl) ?_
        change wpAny _ _ _ _ _ _ _ (World.drew _)
        refine wpAny_take (i:=0) (v:=.pointer (some ⟨F,1,none⟩)) rfl (by kernel_rfl) (by kernel_rfl) (by kernel_rfl) (fun _ _ _ h=>h) (Or.inl ⟨by rfl,by intro w;go_simp⟩) ?_
        refine wpAny_take (i:=2) (v:=.pointer (some ⟨b,0,none⟩)) rfl (by kernel_rfl) (by kernel_rfl) (by kernel_rfl) (fun _ _ _ h=>h) (Or.inl ⟨by rfl,by intro w;go_simp⟩) ?_
        refine wpAny_take (i:=3) (v:=.bool many) rfl (by kernel_rfl) (by kernel_rfl) (by kernel_rfl) (fun _ _ _ h=>h) (Or.inl ⟨by rfl,by intro w;go_simp⟩) ?_
        refine wpAny_ready (rs:=[1,4]) (by kernel_rfl) (by simp) ?_
        refine AllReady.cons rfl (fun Kc hK=>?_) (AllReady.cons rfl (fun Kc hK=>?_) AllReady.nil)
        ·go_simp
         refine hK _ _ ?_
         clear hK
         refine wpAny_ready (rs:=[4]) (by kernel_rfl) (by simp) ?_
         refine AllReady.cons rfl (fun Kc hK=>?_) AllReady.nil
         go_simp
         refine(A3g d9.drew ft.drew' hB many 0).mono ?_
         rintro en w8 ⟨br,hx⟩
         have dh:=(dr.drew').kp br dn
         have dg:=(dp.drew').kp br dn
         have di:=A0q (w:=w7.drew) eu br (by omega)
         have ej:=A0q (w:=w7.drew) fq br (by omega)
         have bg:=dl.drew.trans br
         cases hn:A1v many 0 t7 with
         | error E=>
          rw[hn] at hx
          match E,hx with
          | none,hx=>exact hx.elim
          | some (c,t),hx=>
           obtain⟨ht,rfl⟩:=hx
           have HY:Hid (A0e K r = .error (some (c,t))):=by show _=_;rw[dm.out,HP.out,hn];rfl
           clear hn dm hK
           go_wp2
           exact⟨rfl,A0f bg HY.out ht⟩
         | ok p=>
          obtain⟨l,t8⟩:=p
          rw[hn] at hx
          obtain⟨eo,_,rfl,rfl⟩:=hx
          have gh:1≤3000:=by omega
          have HI:Hid (A1v many 0 t7 = .ok (l,t8)):=hn
          clear hn
          obtain⟨c0,c1,c2⟩:=A5w di
          have et:w.heap.size≤w8.heap.size:=bg.size
          have fk:F<w8.heap.size:=(Array.getElem?_eq_some_iff.1 di).1
          refine hK _ _ ?_
          clear hK
          refine wpAny_ready (rs:=[5]) (by kernel_rfl) (by simp) ?_
          refine AllReady.cons rfl (fun Kc hK=>?_) AllReady.nil
          unfold A1r
          go_simp
          refine hK _ _ ?_
          clear hK
          refine wpAny_ready (rs:=[6]) (by kernel_rfl) (by simp) ?_
          refine AllReady.cons rfl (fun Kc hK=>?_) AllReady.nil
          simp only[Region.wanted]
          have df:Row A4q (w8.alloc (.cells (A1r l).toArray 40)) w.heap.size (.slice (some ⟨w8.heap.size,0,none⟩) 1 1) [l]:=Row.one A4q w8 l et
          have ak:Row A4q (w8.alloc (.cells (A1r l).toArray 40)) w.heap.size vf fs:=dh.below ((Below.refl _ _).alloc (Nat.le_refl _) _)
          have au:Row A7d (w8.alloc (.cells (A1r l).toArray 40)) w.heap.size vb bs:=dg.below ((Below.refl _ _).alloc (Nat.le_refl _) _)
          have bv:=(Below.heap_alloc w8 (.cells (A1r l).toArray 40) F fk).trans di
          have cj:=(Below.heap_alloc w8 (.cells (A1r l).toArray 40) w.heap.size (by omega)).trans ej
          have ee:=eo.alloc (.cells (A1r l).toArray 40)
          have dz:=bg.alloc (.cells (A1r l).toArray 40)
          refine A3w A4q _ _ rfl w.heap.size _ fs [l] rfl ak _ _ rfl df (by(try simp);omega) (by simp;omega) ?_
          intro vn eh ah hgr
          obtain⟨bh,nn,ac,rfl,dv⟩:=ah.shape'
          obtain⟨fx,no,dw,rfl,dt⟩:=au.shape'
          have hown:=ak.own
          have cw:=ee.grown hgr (fun k hk=>by have:=(hown k hk).1;omega)
          have cu:=dz.grown hgr (fun k hk=>(hown k hk).1)
          have ag:=(hgr.block F (Array.getElem?_eq_some_iff.1 bv).1 (fun hh=>ak.ne_blk bv (by decide) hh.symm)).trans bv
          have bw:=(hgr.block w.heap.size (Array.getElem?_eq_some_iff.1 cj).1 (fun hh=>ak.ne_blk cj (by decide) hh.symm)).trans cj
          have aw:=au.grown hgr (au.ne ak (by decide))
          obtain⟨_,k1,k2⟩:=A5w ag
          have g1:=A0b ag 1
          clear c0 c1 c2
          refine hK _ _ ?_
          clear hK
          refine wpAny_take (i:=7) (v:=.pointer (some ⟨F,1,none⟩)) rfl (by kernel_rfl) (by kernel_rfl) (by kernel_rfl) (fun _ _ _ h=>h) (Or.inl ⟨by rfl,by intro w;go_simp⟩) ?_
          refine wpAny_ready (rs:=[8]) (by kernel_rfl) (by simp) ?_
          refine AllReady.cons rfl (fun Kc hK=>?_) AllReady.nil
          go_simp
          refine hK _ _ ?_
          clear hK
          refine wpAny_done (by kernel_rfl) ?_ _
          have bk:=heap_setCell_same _ _ 1 _ _ (.slice bh nn ac) ag
          have cg:=(heap_setCell_other eh ⟨F,1,none⟩ w.heap.size (.slice bh nn ac) (by simp;omega)).trans bw
          have aj:=cw.other (F:=F) (by omega) 1 (.slice bh nn ac)
          have a8:=cu.setNew (F:=F) (by omega) 1 (.slice bh nn ac)
          have bq:=ah.other (ah.ne_blk ag (by decide)) 1 (.slice bh nn ac)
          have bp:=aw.other (aw.ne_blk ag (by decide)) 1 (.slice bh nn ac)
          have bu:Hid (nn=(fs++[l]).length):=dv
          have bt:Hid (no=(bs).length):=dt
          obtain⟨_,c1,c2⟩:=A5w bk
          have HQ:Hid (A0e K r=if 16<nn∨16<no then .error (some (5,t8)) else A3h K k ⟨nm,fs++[l],bs⟩ ch t8):=by show _=_;rw[dm.out,HP.out,HI.out,bu.out,bt.out];rfl
          have f9:nn≤10000:=by rw[bu.out];(try simp);omega
          have f6:no≤10000:=by rw[bt.out];(try simp);omega
          by_cases h16:16<nn
          ·have HY:Hid (A0e K r = .error (some (5,t8))):=by show _=_;rw[HQ.out,if_pos (.inl h16)]
           go_wp2_with fail
           refine(A0n aj 5).mono ?_
           rintro en ei ⟨rfl,rfl⟩
           go_wp2
           exact⟨rfl,A0f a8 HY.out aj.2.1⟩
          ·have dx:¬ (16:Int)<(nn:Int):=by omega
           by_cases h17:16<no
           ·have HY:Hid (A0e K r = .error (some (5,t8))):=by show _=_;rw[HQ.out,if_pos (.inr h17)]
            go_wp2_with fail
            refine(A0n aj 5).mono ?_
            rintro en ei ⟨rfl,rfl⟩
            go_wp2
            exact⟨rfl,A0f a8 HY.out aj.2.1⟩
           ·have dy:¬ (16:Int)<(no:Int):=by omega
            have HY:Hid (A0e K r=A3h K k ⟨nm,fs++[l],bs⟩ ch t8):=by show _=_;rw[HQ.out,if_neg (by omega)]
            go_wp2_with fail
            go_roundg k
            case measure=>omega
            case rel=>exact⟨fs++[l],bs,ch,t8,_,_,rfl,bq,bp,bk,cg,aj,a8,by rw[←bu.out];omega,by rw[←bt.out];omega,by omega,HY⟩
        ·go_simp
         refine(A3g d9.drew ft.drew' hB many 0).mono ?_
         rintro en w8 ⟨br,hx⟩
         have dh:=(dr.drew').kp br dn
         have dg:=(dp.drew').kp br dn
         have di:=A0q (w:=w7.drew) eu br (by omega)
         have ej:=A0q (w:=w7.drew) fq br (by omega)
         have bg:=dl.drew.trans br
         cases hn:A1v many 0 t7 with
         | error E=>
          rw[hn] at hx
          match E,hx with
          | none,hx=>exact hx.elim
          | some (c,t),hx=>
           obtain⟨ht,rfl⟩:=hx
           have HY:Hid (A0e K r = .error (some (c,t))):=by show _=_;rw[dm.out,HP.out,hn];rfl
           clear hn dm hK
           go_wp2
           exact⟨rfl,A0f bg HY.out ht⟩
         | ok p=>
          obtain⟨l,t8⟩:=p
          rw[hn] at hx
          obtain⟨eo,_,rfl,rfl⟩:=hx
          have gh:1≤3000:=by omega
          have HI:Hid (A1v many 0 t7 = .ok (l,t8)):=hn
          clear hn
          obtain⟨c0,c1,c2⟩:=A5w di
          have et:w.heap.size≤w8.heap.size:=bg.size
          have fk:F<w8.heap.size:=(Array.getElem?_eq_some_iff.1 di).1
          refine hK _ _ ?_
          clear hK
          refine wpAny_ready (rs:=[1,5]) (by kernel_rfl) (by simp) ?_
          refine AllReady.cons rfl (fun Kc hK=>?_) (AllReady.cons rfl (fun Kc hK=>?_) AllReady.nil)
          rotate_right
          focus
           unfold A1r
           go_simp
           refine hK _ _ ?_
           clear hK
           refine wpAny_ready (rs:=[1]) (by kernel_rfl) (by simp) ?_
           refine AllReady.cons rfl (fun Kc hK=>?_) AllReady.nil
          rotate_right
          focus
           go_simp
           refine hK _ _ ?_
           clear hK
           refine wpAny_ready (rs:=[5]) (by kernel_rfl) (by simp) ?_
           refine AllReady.cons rfl (fun Kc hK=>?_) AllReady.nil
           unfold A1r
          all_goals
           go_simp
           refine hK _ _ ?_
           clear hK
           refine wpAny_ready (rs:=[6]) (by kernel_rfl) (by simp) ?_
           refine AllReady.cons rfl (fun Kc hK=>?_) AllReady.nil
           simp only[Region.wanted]
           have df:Row A4q (w8.alloc (.cells (A1r l).toArray 40)) w.heap.size (.slice (some ⟨w8.heap.size,0,none⟩) 1 1) [l]:=Row.one A4q w8 l et
           have ak:Row A4q (w8.alloc (.cells (A1r l).toArray 40)) w.heap.size vf fs:=dh.below ((Below.refl _ _).alloc (Nat.le_refl _) _)
           have au:Row A7d (w8.alloc (.cells (A1r l).toArray 40)) w.heap.size vb bs:=dg.below ((Below.refl _ _).alloc (Nat.le_refl _) _)
           have bv:=(Below.heap_alloc w8 (.cells (A1r l).toArray 40) F fk).trans di
           have cj:=(Below.heap_alloc w8 (.cells (A1r l).toArray 40) w.heap.size (by omega)).trans ej
           have ee:=eo.alloc (.cells (A1r l).toArray 40)
           have dz:=bg.alloc (.cells (A1r l).toArray 40)
           refine A3w A4q _ _ rfl w.heap.size _ fs [l] rfl ak _ _ rfl df (by(try simp);omega) (by simp;omega) ?_
           intro vn eh ah hgr
           obtain⟨bh,nn,ac,rfl,dv⟩:=ah.shape'
           obtain⟨fx,no,dw,rfl,dt⟩:=au.shape'
           have hown:=ak.own
           have cw:=ee.grown hgr (fun k hk=>by have:=(hown k hk).1;omega)
           have cu:=dz.grown hgr (fun k hk=>(hown k hk).1)
           have ag:=(hgr.block F (Array.getElem?_eq_some_iff.1 bv).1 (fun hh=>ak.ne_blk bv (by decide) hh.symm)).trans bv
           have bw:=(hgr.block w.heap.size (Array.getElem?_eq_some_iff.1 cj).1 (fun hh=>ak.ne_blk cj (by decide) hh.symm)).trans cj
           have aw:=au.grown hgr (au.ne ak (by decide))
           obtain⟨_,k1,k2⟩:=A5w ag
           have g1:=A0b ag 1
           clear c0 c1 c2
           refine hK _ _ ?_
           clear hK
           refine wpAny_take (i:=7) (v:=.pointer (some ⟨F,1,none⟩)) rfl (by kernel_rfl) (by kernel_rfl) (by kernel_rfl) (fun _ _ _ h=>h) (Or.inl ⟨by rfl,by intro w;go_simp⟩) ?_
           refine wpAny_ready (rs:=[8]) (by kernel_rfl) (by simp) ?_
           refine AllReady.cons rfl (fun Kc hK=>?_) AllReady.nil
           go_simp
           refine hK _ _ ?_
           clear hK
           refine wpAny_done (by kernel_rfl) ?_ _
           have bk:=heap_setCell_same _ _ 1 _ _ (.slice bh nn ac) ag
           have cg:=(heap_setCell_other eh ⟨F,1,none⟩ w.heap.size (.slice bh nn ac) (by simp;omega)).trans bw
           have aj:=cw.other (F:=F) (by omega) 1 (.slice bh nn ac)
           have a8:=cu.setNew (F:=F) (by omega) 1 (.slice bh nn ac)
           have bq:=ah.other (ah.ne_blk ag (by decide)) 1 (.slice bh nn ac)
           have bp:=aw.other (aw.ne_blk ag (by decide)) 1 (.slice bh nn ac)
           have bu:Hid (nn=(fs++[l]).length):=dv
           have bt:Hid (no=(bs).length):=dt
           obtain⟨_,c1,c2⟩:=A5w bk
           have HQ:Hid (A0e K r=if 16<nn∨16<no then .error (some (5,t8)) else A3h K k ⟨nm,fs++[l],bs⟩ ch t8):=by show _=_;rw[dm.out,HP.out,HI.out,bu.out,bt.out];rfl
           have f9:nn≤10000:=by rw[bu.out];(try simp);omega
           have f6:no≤10000:=by rw[bt.out];(try simp);omega
           by_cases h16:16<nn
           ·have HY:Hid (A0e K r = .error (some (5,t8))):=by show _=_;rw[HQ.out,if_pos (.inl h16)]
            go_wp2_with fail
            refine(A0n aj 5).mono ?_
            rintro en ei ⟨rfl,rfl⟩
            go_wp2
            exact⟨rfl,A0f a8 HY.out aj.2.1⟩
           ·have dx:¬ (16:Int)<(nn:Int):=by omega
            by_cases h17:16<no
            ·have HY:Hid (A0e K r = .error (some (5,t8))):=by show _=_;rw[HQ.out,if_pos (.inr h17)]
             go_wp2_with fail
             refine(A0n aj 5).mono ?_
             rintro en ei ⟨rfl,rfl⟩
             go_wp2
             exact⟨rfl,A0f a8 HY.out aj.2.1⟩
            ·have dy:¬ (16:Int)<(no:Int):=by omega
             have HY:Hid (A0e K r=A3h K k ⟨nm,fs++[l],bs⟩ ch t8):=by show _=_;rw[HQ.out,if_neg (by omega)]
             go_wp2_with fail
             go_roundg k
             case measure=>omega
             case rel=>exact⟨fs++[l],bs,ch,t8,_,_,rfl,bq,bp,bk,cg,aj,a8,by rw[←bu.out];omega,by rw[←bt.out];omega,by omega,HY⟩
end Go.Proofs.YtgaoojpakjjdnaaGreatDoor
