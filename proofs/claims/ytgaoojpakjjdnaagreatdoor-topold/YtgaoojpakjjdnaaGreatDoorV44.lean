import Derived.Test.YtgaoojpakjjdnaaGreatDoorV43
set_option maxHeartbeats 32000000
set_option maxRecDepth 100000
namespace Go.Proofs.YtgaoojpakjjdnaaGreatDoor
open Go.RowKit
theorem A4p {w:World}{g:Nat}{a0 a1 a2:Value}{t:TypeId}(h:w.heap[g]?=some (.cells #[a0,a1,a2] t (0,0))) :
  w.cell? ⟨g,0,none⟩=some a0∧w.cell? ⟨g,1,none⟩=some a1∧w.cell? ⟨g,2,none⟩=some a2:=⟨A0a h 0 _ rfl,A0a h 1 _ rfl,A0a h 2 _ rfl⟩
def D9u (w:World)(base:Nat)(x:Msg)(v:Value):Prop:=∃ vf vb,v = .agg #[.string (S x.name),vf,vb]∧Row A4i w base vf x.fields∧Row A6x w base vb x.barred
theorem A2y {B b:Nat}{txt r:List UInt8}{m e:Value}{w:World}(h:St w b txt r m e)(hg:Gl B w)(hB:B≤b)(K:Nat)(io:K≤1000000)(hN:A0g K r≠.error none) :
  Calls Tryz.prog 191 #[.pointer (some ⟨b,0,none⟩)] w (C6j b txt m e w (fun x v w'=>D9u w' w.heap.size x v) (A0g K r)):=by
 have dl:=h.lt
 have HN:Hid (A0g K r≠.error none):=hN
 have HX:Hid (A0g K r=R.thn (A4f r) fun nm u=>R.thn (A1y 123 u) fun _ u=>A4z K K ⟨nm,[],[]⟩ 0 u):=rfl
 clear hN
 go_enter Tryz.func191,Tryz.ntmps191
 go_wp2_with fail
 refine(A9o (h.alloc _)).mono ?_
 rintro en w1 ⟨gq,hx⟩
 have hR:w1.heap[w.heap.size]?=some (.cells #[.string ⟨#[]⟩,.slice none 0 0,.slice none 0 0] 38 (0,0)):=A0w (heap_alloc_new w _) gq (by omega)
 have hz1:w.heap.size+1≤w1.heap.size:=by have:=gq.size;simpa using this
 have dh:Kp b w w1:=((Kp.refl b w).alloc _).trans gq
 clear gq
 cases hn:A4f r with
 | error E=>
  rw[hn] at hx
  match E,hx with
  | none,hx=>exact hx.elim
  | some (c,t),hx=>
   obtain⟨ht,rfl⟩:=hx
   have HY:Hid (A0g K r = .error (some (c,t))):=by show _=_;rw[HX.out,hn];rfl
   clear hn HX
   go_wp2
   exact⟨rfl,A0f dh HY.out ht⟩
 | ok p=>
  obtain⟨nm,t1⟩:=p
  rw[hn] at hx
  obtain⟨hs1,_,rfl,rfl⟩:=hx
  have gh:Hid (A0g K r=R.thn (A1y 123 t1) fun _ u=>A4z K K ⟨nm,[],[]⟩ 0 u):=by show _=_;rw[HX.out,hn];rfl
  clear hn HX
  have hF2:=heap_alloc_new w1 (.cells #[.string (S nm),.slice none 0 0,.slice none 0 0] 38)
  have ig:=(Below.heap_alloc w1 (.cells #[.string (S nm),.slice none 0 0,.slice none 0 0] 38) w.heap.size (by omega)).trans hR
  have hs2:=hs1.alloc (.cells #[.string (S nm),.slice none 0 0,.slice none 0 0] 38)
  have hk2:=dh.alloc (.cells #[.string (S nm),.slice none 0 0,.slice none 0 0] 38)
  clear dh hR hs1
  go_wp2_with fail
  generalize w1.alloc (.cells #[.string (S nm),.slice none 0 0,.slice none 0 0] 38)=W2 at *
  obtain⟨F,g7⟩:∃ F,Hid (F=w1.heap.size):=⟨_,rfl⟩
  have im:w.heap.size+1≤F:=by rw[g7.out];exact hz1
  rw[←g7.out] at hF2 ⊢
  clear hz1
  refine(A4k hs2 123).mono ?_
  rintro en w3 ⟨hk3,hx⟩
  have ie:=A0w hF2 hk3 (by omega)
  have ii:=A0w ig hk3 (by omega)
  have dh:=hk2.trans hk3
  clear hF2 ig hs2 hk2 hk3
  cases hn:A1y 123 t1 with
  | error E=>
   rw[hn] at hx
   match E,hx with
   | none,hx=>exact hx.elim
   | some (c,t),hx=>
    obtain⟨ht,rfl⟩:=hx
    have HY:Hid (A0g K r = .error (some (c,t))):=by show _=_;rw[gh.out,hn];rfl
    clear hn gh
    go_wp2
    exact⟨rfl,A0f dh HY.out ht⟩
  | ok p=>
   obtain⟨_,t2⟩:=p
   rw[hn] at hx
   obtain⟨hs3,_,rfl,rfl⟩:=hx
   have g8:Hid (A0g K r=A4z K K ⟨nm,[],[]⟩ 0 t2):=by show _=_;rw[gh.out,hn];rfl
   clear hn gh
   go_wp2_with fail
   go_loopg [4] K (fun k sc wr=>∃ fs bs ch q vf vb,sc = .int .i64 ((ch:Nat):Int)∧Row A4i wr w.heap.size vf fs∧Row A6x wr w.heap.size vb bs∧wr.heap[F]?=some (.cells #[.string (S nm),vf,vb] 38 (0,0))∧wr.heap[w.heap.size]?=some (.cells #[.string ⟨#[]⟩,.slice none 0 0,.slice none 0 0] 38 (0,0))∧St wr b txt q m e∧Kp b w wr∧fs.length≤16∧bs.length≤16∧ch+k≤K∧Hid (A0g K r=A4z K k ⟨nm,fs,bs⟩ ch q))
   case atStart=>exact⟨[],[],0,t2,.slice none 0 0,.slice none 0 0,rfl,Row.nil _ _ _,Row.nil _ _ _,ie,ii,hs3,dh,by simp,by simp,by omega,g8⟩
   case round=>
    clear ie ii hs3 dh g8
    obtain⟨fs,bs,ch,q,vf,vb,rfl,ik,ij,hF,hR,hs,hk,iq,ip,hch,HR⟩:=hrel
    cases gk with
    | zero=>exact absurd HR.out HN.out
    | succ k=>
     go_wp2_with fail
     refine(A7t hs 125).mono ?_
     rintro en w4 ⟨rfl,gu,hk4⟩
     have eu:=ik.kp hk4 dl
     have et:=ij.kp hk4 dl
     have gz:=A0w hF hk4 (by omega)
     have fj:=A0w hR hk4 (by omega)
     have dh:=hk.trans hk4
     clear ik ij hs hk hF hR hk4
     generalize hq:A3w 125 q=mq at gu ⊢
     obtain⟨ok,t3⟩:=mq
     cases ok with
     | true=>
      have di:Hid (A0g K r = .ok (⟨nm,fs,bs⟩,t3)):=by show _=_;rw[HR.out,A4z,hq]
      clear hq HR
      obtain⟨c0,c1,c2⟩:=A4p gz
      obtain⟨d0,d1,d2⟩:=A4p fj
      have g0:=A0b fj 0
      have g1:=A0b fj 1
      have g2:=A0b fj 2
      obtain⟨ao,nf,cap,rfl,_⟩:=eu.shape'
      obtain⟨g9,nb,f6,rfl,_⟩:=et.shape'
      go_wp2
      refine bodyPost_ret (v:=.agg #[.string (S nm),.slice ao nf cap,.slice g9 nb f6]) (by simp[results,Tryz.results191,go_sem, *]) rfl ?_
      have fq:=((dh.setNew (F:=w.heap.size) (by omega) 0 (.string (S nm))).setNew (F:=w.heap.size) (by omega) 1 (.slice ao nf cap)).setNew (F:=w.heap.size) (by omega) 2 (.slice g9 nb f6)
      refine A5b fq di.out (((gu.other (by omega) _ _).other (by omega) _ _).other (by omega) _ _) ⟨_,_,rfl,?_,?_⟩
      ·have hb:=eu.ne_blk fj (by decide)
       exact((eu.other hb _ _).other hb _ _).other hb _ _
      ·have hb:=et.ne_blk fj (by decide)
       exact((et.other hb _ _).other hb _ _).other hb _ _
     | false=>
      have di:Hid (A0g K r=R.thn (B8t K ⟨nm,fs,bs⟩ ch t3) fun p u=>if 16<p.1.fields.length∨16<p.1.barred.length then .error (some (5,u)) else A4z K k p.1 p.2 u):=by show _=_;rw[HR.out,A4z,hq]
      clear hq HR
      go_wp2_with fail
      refine(A4x gu A5w (by decide)).mono ?_
      rintro en w5 ⟨rfl,hs5,fq⟩
      have fd:=eu.kp fq dl
      have ew:=et.kp fq dl
      have gi:=A0w gz fq (by omega)
      have gl:=A0w fj fq (by omega)
      replace dh:=dh.trans fq
      clear eu et gu gz fj fq
      generalize hq:B2w A5w t3=mq at hs5 ⊢
      obtain⟨ok,t5⟩:=mq
      cases ok with
      | true=>
       obtain⟨w7,gy⟩:∃ w7,w7=w5:=⟨_,rfl⟩
       obtain⟨t7,gw⟩:∃ t7,t7=t5:=⟨_,rfl⟩
       subst gy gw
       have HP:Hid (B8t K ⟨nm,fs,bs⟩ ch t3=R.thn (A1k K t7) fun l u=>.ok ((⟨nm,fs,bs++l⟩,ch),u)):=by show _=_;rw[B8t,hq]
       have f9:A1k K t7≠.error none:=by intro hh;apply HN.out;rw[di.out,HP.out,hh];rfl
       have dy:St w7 b txt t7 m e:=hs5
       have dn:=fd
       have dm:=ew
       have eo:=gi
       have fk:=gl
       have fo:Gl B w7:=hg.kp hB dl dh
       have il:t7.length≤3000:=by have:=dy.1;have:=dy.2.1;omega
       clear hq hs5 fd ew gi gl
       go_wp2_with fail
       obtain⟨c0,c1,c2⟩:=A4p eo
       refine wp_region_any (by kernel_rfl) ?_
       change wpAny _ _ _ _ _ _ _ (World.drew _)
       refine wpAny_take (i:=0) (v:=.pointer (some ⟨F,2,none⟩)) rfl (by kernel_rfl) (by kernel_rfl) (by kernel_rfl) (fun _ _ _ h=>h) (Or.inl ⟨by rfl,by intro w;go_simp⟩) ?_
       refine wpAny_take (i:=2) (v:=.pointer (some ⟨b,0,none⟩)) rfl (by kernel_rfl) (by kernel_rfl) (by kernel_rfl) (fun _ _ _ h=>h) (Or.inl ⟨by rfl,by intro w;go_simp⟩) ?_
       refine wpAny_ready (rs:=[1,3]) (by kernel_rfl) (by simp) ?_
       refine AllReady.cons rfl (fun Kc hK=>?_) (AllReady.cons rfl (fun Kc hK=>?_) AllReady.nil)
       ·go_simp
        refine hK _ _ ?_
        clear hK
        refine wpAny_ready (rs:=[3]) (by kernel_rfl) (by simp) ?_
        refine AllReady.cons rfl (fun Kc hK=>?_) AllReady.nil
        go_simp
        refine(B1b dy.drew fo.drew' hB K f9).mono ?_
        rintro en w8 ⟨bp,hx⟩
        have df:=(dn.drew').kp bp dl
        have cw:=(dm.drew').kp bp dl
        have dg:=A0w (w:=w7.drew) eo bp (by omega)
        have eh:=A0w (w:=w7.drew) fk bp (by omega)
        have bc:=dh.drew.trans bp
        cases hn:A1k K t7 with
        | error E=>
         rw[hn] at hx
         match E,hx with
         | none,hx=>exact hx.elim
         | some (c,t),hx=>
          obtain⟨ht,rfl⟩:=hx
          have HY:Hid (A0g K r = .error (some (c,t))):=by show _=_;rw[di.out,HP.out,hn];rfl
          clear hn di hK
          go_wp2
          exact⟨rfl,A0f bc HY.out ht⟩
        | ok p=>
         obtain⟨l,t8⟩:=p
         rw[hn] at hx
         obtain⟨ei,vl,rfl,ft⟩:=hx
         have gc:l.length≤3000:=by have:=B1c hn;omega
         have HI:Hid (A1k K t7 = .ok (l,t8)):=hn
         clear hn
         obtain⟨c0,c1,c2⟩:=A4p dg
         have ej:w.heap.size≤w8.heap.size:=bc.size
         have fh:F<w8.heap.size:=(Array.getElem?_eq_some_iff.1 dg).1
         refine hK _ _ ?_
         clear hK
         refine wpAny_ready (rs:=[4]) (by kernel_rfl) (by simp) ?_
         refine AllReady.cons rfl (fun Kc hK=>?_) AllReady.nil
         simp only[Region.wanted]
         have cu:=ft
         have ak:=df
         have au:=cw
         have bt:=dg
         have bw:=eh
         have dz:=ei
         have dx:=bc
         refine A3r A6x _ _ rfl w.heap.size _ bs l rfl au _ _ rfl cu (by(try simp);omega) ej ?_
         intro vn d9 ah hgr
         obtain⟨bg,nn,ac,rfl,dr⟩:=ah.shape'
         obtain⟨fu,no,dt,rfl,dp⟩:=ak.shape'
         have hown:=au.own
         have cj:=dz.grown hgr (fun k hk=>by have:=(hown k hk).1;omega)
         have cg:=dx.grown hgr (fun k hk=>(hown k hk).1)
         have ag:=(hgr.block F (Array.getElem?_eq_some_iff.1 bt).1 (fun hh=>au.ne_blk bt (by decide) hh.symm)).trans bt
         have bu:=(hgr.block w.heap.size (Array.getElem?_eq_some_iff.1 bw).1 (fun hh=>au.ne_blk bw (by decide) hh.symm)).trans bw
         have aw:=ak.grown hgr (ak.ne au (by decide))
         obtain⟨_,k1,k2⟩:=A4p ag
         have g1:=A0b ag 2
         clear c0 c1 c2
         refine hK _ _ ?_
         clear hK
         refine wpAny_take (i:=5) (v:=.pointer (some ⟨F,2,none⟩)) rfl (by kernel_rfl) (by kernel_rfl) (by kernel_rfl) (fun _ _ _ h=>h) (Or.inl ⟨by rfl,by intro w;go_simp⟩) ?_
         refine wpAny_ready (rs:=[6]) (by kernel_rfl) (by simp) ?_
         refine AllReady.cons rfl (fun Kc hK=>?_) AllReady.nil
         go_simp
         refine hK _ _ ?_
         clear hK
         refine wpAny_done (by kernel_rfl) ?_ _
         have bh:=heap_setCell_same _ _ 2 _ _ (.slice bg nn ac) ag
         have bv:=(heap_setCell_other d9 ⟨F,2,none⟩ w.heap.size (.slice bg nn ac) (by simp;omega)).trans bu
         have aj:=cj.other (F:=F) (by omega) 2 (.slice bg nn ac)
         have ba:=cg.setNew (F:=F) (by omega) 2 (.slice bg nn ac)
         have bk:=ah.other (ah.ne_blk ag (by decide)) 2 (.slice bg nn ac)
         have bn:=aw.other (aw.ne_blk ag (by decide)) 2 (.slice bg nn ac)
         have br:Hid (no=(fs).length):=dp
         have bq:Hid (nn=(bs++l).length):=dr
         obtain⟨_,c1,c2⟩:=A4p bh
         have HQ:Hid (A0g K r=if 16<no∨16<nn then .error (some (5,t8)) else A4z K k ⟨nm,fs,bs++l⟩ ch t8):=by show _=_;rw[di.out,HP.out,HI.out,br.out,bq.out];rfl
         have fz:no≤10000:=by rw[br.out];(try simp);omega
         have fy:nn≤10000:=by rw[bq.out];(try simp);omega
         by_cases h16:16<no
         ·have HY:Hid (A0g K r = .error (some (5,t8))):=by show _=_;rw[HQ.out,if_pos (.inl h16)]
          go_wp2_with fail
          refine(A0s aj 5).mono ?_
          rintro en ee ⟨rfl,rfl⟩
          go_wp2
          exact⟨rfl,A0f ba HY.out aj.2.1⟩
         ·have dv:¬ (16:Int)<(no:Int):=by omega
          by_cases h17:16<nn
          ·have HY:Hid (A0g K r = .error (some (5,t8))):=by show _=_;rw[HQ.out,if_pos (.inr h17)]
           go_wp2_with fail
           refine(A0s aj 5).mono ?_
           rintro en ee ⟨rfl,rfl⟩
           go_wp2
           exact⟨rfl,A0f ba HY.out aj.2.1⟩
          ·have dw:¬ (16:Int)<(nn:Int):=by omega
           have HY:Hid (A0g K r=A4z K k ⟨nm,fs,bs++l⟩ ch t8):=by show _=_;rw[HQ.out,if_neg (by omega)]
           go_wp2_with fail
           go_roundg k
           case measure=>omega
           case rel=>exact⟨fs,bs++l,ch,t8,_,_,rfl,bn,bk,bh,bv,aj,ba,by rw[←br.out];omega,by rw[←bq.out];omega,by omega,HY⟩
       ·go_simp
        refine(B1b dy.drew fo.drew' hB K f9).mono ?_
        rintro en w8 ⟨bp,hx⟩
        have df:=(dn.drew').kp bp dl
        have cw:=(dm.drew').kp bp dl
        have dg:=A0w (w:=w7.drew) eo bp (by omega)
        have eh:=A0w (w:=w7.drew) fk bp (by omega)
        have bc:=dh.drew.trans bp
        cases hn:A1k K t7 with
        | error E=>
         rw[hn] at hx
         match E,hx with
         | none,hx=>exact hx.elim
         | some (c,t),hx=>
          obtain⟨ht,rfl⟩:=hx
          have HY:Hid (A0g K r = .error (some (c,t))):=by show _=_;rw[di.out,HP.out,hn];rfl
          clear hn di hK
          go_wp2
          exact⟨rfl,A0f bc HY.out ht⟩
        | ok p=>
         obtain⟨l,t8⟩:=p
         rw[hn] at hx
         obtain⟨ei,vl,rfl,ft⟩:=hx
         have gc:l.length≤3000:=by have:=B1c hn;omega
         have HI:Hid (A1k K t7 = .ok (l,t8)):=hn
         clear hn
         obtain⟨c0,c1,c2⟩:=A4p dg
         have ej:w.heap.size≤w8.heap.size:=bc.size
         have fh:F<w8.heap.size:=(Array.getElem?_eq_some_iff.1 dg).1
         refine hK _ _ ?_
         clear hK
         refine wpAny_ready (rs:=[1]) (by kernel_rfl) (by simp) ?_
         refine AllReady.cons rfl (fun Kc hK=>?_) AllReady.nil
         go_simp
         refine hK _ _ ?_
         clear hK
         refine wpAny_ready (rs:=[4]) (by kernel_rfl) (by simp) ?_
         refine AllReady.cons rfl (fun Kc hK=>?_) AllReady.nil
         simp only[Region.wanted]
         have cu:=ft
         have ak:=df
         have au:=cw
         have bt:=dg
         have bw:=eh
         have dz:=ei
         have dx:=bc
         refine A3r A6x _ _ rfl w.heap.size _ bs l rfl au _ _ rfl cu (by(try simp);omega) ej ?_
         intro vn d9 ah hgr
         obtain⟨bg,nn,ac,rfl,dr⟩:=ah.shape'
         obtain⟨fu,no,dt,rfl,dp⟩:=ak.shape'
         have hown:=au.own
         have cj:=dz.grown hgr (fun k hk=>by have:=(hown k hk).1;omega)
         have cg:=dx.grown hgr (fun k hk=>(hown k hk).1)
         have ag:=(hgr.block F (Array.getElem?_eq_some_iff.1 bt).1 (fun hh=>au.ne_blk bt (by decide) hh.symm)).trans bt
         have bu:=(hgr.block w.heap.size (Array.getElem?_eq_some_iff.1 bw).1 (fun hh=>au.ne_blk bw (by decide) hh.symm)).trans bw
         have aw:=ak.grown hgr (ak.ne au (by decide))
         obtain⟨_,k1,k2⟩:=A4p ag
         have g1:=A0b ag 2
         clear c0 c1 c2
         refine hK _ _ ?_
         clear hK
         refine wpAny_take (i:=5) (v:=.pointer (some ⟨F,2,none⟩)) rfl (by kernel_rfl) (by kernel_rfl) (by kernel_rfl) (fun _ _ _ h=>h) (Or.inl ⟨by rfl,by intro w;go_simp⟩) ?_
         refine wpAny_ready (rs:=[6]) (by kernel_rfl) (by simp) ?_
         refine AllReady.cons rfl (fun Kc hK=>?_) AllReady.nil
         go_simp
         refine hK _ _ ?_
         clear hK
         refine wpAny_done (by kernel_rfl) ?_ _
         have bh:=heap_setCell_same _ _ 2 _ _ (.slice bg nn ac) ag
         have bv:=(heap_setCell_other d9 ⟨F,2,none⟩ w.heap.size (.slice bg nn ac) (by simp;omega)).trans bu
         have aj:=cj.other (F:=F) (by omega) 2 (.slice bg nn ac)
         have ba:=cg.setNew (F:=F) (by omega) 2 (.slice bg nn ac)
         have bk:=ah.other (ah.ne_blk ag (by decide)) 2 (.slice bg nn ac)
         have bn:=aw.other (aw.ne_blk ag (by decide)) 2 (.slice bg nn ac)
         have br:Hid (no=(fs).length):=dp
         have bq:Hid (nn=(bs++l).length):=dr
         obtain⟨_,c1,c2⟩:=A4p bh
         have HQ:Hid (A0g K r=if 16<no∨16<nn then .error (some (5,t8)) else A4z K k ⟨nm,fs,bs++l⟩ ch t8):=by show _=_;rw[di.out,HP.out,HI.out,br.out,bq.out];rfl
         have fz:no≤10000:=by rw[br.out];(try simp);omega
         have fy:nn≤10000:=by rw[bq.out];(try simp);omega
         by_cases h16:16<no
         ·have HY:Hid (A0g K r = .error (some (5,t8))):=by show _=_;rw[HQ.out,if_pos (.inl h16)]
          go_wp2_with fail
          refine(A0s aj 5).mono ?_
          rintro en ee ⟨rfl,rfl⟩
          go_wp2
          exact⟨rfl,A0f ba HY.out aj.2.1⟩
         ·have dv:¬ (16:Int)<(no:Int):=by omega
          by_cases h17:16<nn
          ·have HY:Hid (A0g K r = .error (some (5,t8))):=by show _=_;rw[HQ.out,if_pos (.inr h17)]
           go_wp2_with fail
           refine(A0s aj 5).mono ?_
           rintro en ee ⟨rfl,rfl⟩
           go_wp2
           exact⟨rfl,A0f ba HY.out aj.2.1⟩
          ·have dw:¬ (16:Int)<(nn:Int):=by omega
           have HY:Hid (A0g K r=A4z K k ⟨nm,fs,bs++l⟩ ch t8):=by show _=_;rw[HQ.out,if_neg (by omega)]
           go_wp2_with fail
           go_roundg k
           case measure=>omega
           case rel=>exact⟨fs,bs++l,ch,t8,_,_,rfl,bn,bk,bh,bv,aj,ba,by rw[←br.out];omega,by rw[←bq.out];omega,by omega,HY⟩
      | false=>
       go_wp2_with fail
       refine(A4x hs5 A8i (by decide)).mono ?_
       rintro en w6 ⟨rfl,gg,fw⟩
       have fe:=fd.kp fw dl
       have fc:=ew.kp fw dl
       have gj:=A0w gi fw (by omega)
       have gp:=A0w gl fw (by omega)
       replace dh:=dh.trans fw
       clear fd ew hs5 gi gl fw
       generalize hq6:B2w A8i t5=mq at gg ⊢
       obtain⟨ok,t6⟩:=mq
       cases ok with
       | true=>
        obtain⟨w7,gy⟩:∃ w7,w7=w6:=⟨_,rfl⟩
        obtain⟨t7,gw⟩:∃ t7,t7=t6:=⟨_,rfl⟩
        subst gy gw
        have HP:Hid (B8t K ⟨nm,fs,bs⟩ ch t3=R.thn (A2l K (ch+1) t7) fun l u=>.ok ((⟨nm,fs++l,bs⟩,ch+1),u)):=by show _=_;rw[B8t,hq];show(match B2w A8i t5 with|(true,t)=>_|(false,t)=>_)=_;rw[hq6]
        have f9:A2l K (ch+1) t7≠.error none:=by intro hh;apply HN.out;rw[di.out,HP.out,hh];rfl
        have dy:St w7 b txt t7 m e:=gg
        have dn:=fe
        have dm:=fc
        have eo:=gj
        have fk:=gp
        have fo:Gl B w7:=hg.kp hB dl dh
        have il:t7.length≤3000:=by have:=dy.1;have:=dy.2.1;omega
        clear hq hq6 gg fe fc gj gp
        go_wp2_with fail
        obtain⟨c0,c1,c2⟩:=A4p eo
        refine wp_region_any (by kernel_rfl) ?_
        change wpAny _ _ _ _ _ _ _ (World.drew _)
        refine wpAny_take (i:=0) (v:=.pointer (some ⟨F,1,none⟩)) rfl (by kernel_rfl) (by kernel_rfl) (by kernel_rfl) (fun _ _ _ h=>h) (Or.inl ⟨by rfl,by intro w;go_simp⟩) ?_
        refine wpAny_take (i:=2) (v:=.pointer (some ⟨b,0,none⟩)) rfl (by kernel_rfl) (by kernel_rfl) (by kernel_rfl) (fun _ _ _ h=>h) (Or.inl ⟨by rfl,by intro w;go_simp⟩) ?_
        refine wpAny_take (i:=3) (v:=.int .i64 ((ch:Int)+1)) rfl (by kernel_rfl) (by kernel_rfl) (by kernel_rfl) (fun _ _ _ h=>h) (Or.inl ⟨by rfl,by intro w;go_simp⟩) ?_
        refine wpAny_ready (rs:=[1,4]) (by kernel_rfl) (by simp) ?_
        refine AllReady.cons rfl (fun Kc hK=>?_) (AllReady.cons rfl (fun Kc hK=>?_) AllReady.nil)
        ·go_simp
         refine hK _ _ ?_
         clear hK
         refine wpAny_ready (rs:=[4]) (by kernel_rfl) (by simp) ?_
         refine AllReady.cons rfl (fun Kc hK=>?_) AllReady.nil
         go_simp
         refine(B4l dy.drew fo.drew' hB K (ch+1) f9).mono ?_
         rintro en w8 ⟨bp,hx⟩
         have df:=(dn.drew').kp bp dl
         have cw:=(dm.drew').kp bp dl
         have dg:=A0w (w:=w7.drew) eo bp (by omega)
         have eh:=A0w (w:=w7.drew) fk bp (by omega)
         have bc:=dh.drew.trans bp
         cases hn:A2l K (ch+1) t7 with
         | error E=>
          rw[hn] at hx
          match E,hx with
          | none,hx=>exact hx.elim
          | some (c,t),hx=>
           obtain⟨ht,rfl⟩:=hx
           have HY:Hid (A0g K r = .error (some (c,t))):=by show _=_;rw[di.out,HP.out,hn];rfl
           clear hn di hK
           go_wp2
           exact⟨rfl,A0f bc HY.out ht⟩
         | ok p=>
          obtain⟨l,t8⟩:=p
          rw[hn] at hx
          obtain⟨ei,vl,rfl,ft⟩:=hx
          have gc:l.length≤3000:=by have:=B4m hn;omega
          have HI:Hid (A2l K (ch+1) t7 = .ok (l,t8)):=hn
          clear hn
          obtain⟨c0,c1,c2⟩:=A4p dg
          have ej:w.heap.size≤w8.heap.size:=bc.size
          have fh:F<w8.heap.size:=(Array.getElem?_eq_some_iff.1 dg).1
          refine hK _ _ ?_
          clear hK
          refine wpAny_ready (rs:=[5]) (by kernel_rfl) (by simp) ?_
          refine AllReady.cons rfl (fun Kc hK=>?_) AllReady.nil
          simp only[Region.wanted]
          have cu:=ft
          have ak:=df
          have au:=cw
          have bt:=dg
          have bw:=eh
          have dz:=ei
          have dx:=bc
          refine A3r A4i _ _ rfl w.heap.size _ fs l rfl ak _ _ rfl cu (by(try simp);omega) ej ?_
          intro vn d9 ah hgr
          obtain⟨bg,nn,ac,rfl,dr⟩:=ah.shape'
          obtain⟨fu,no,dt,rfl,dp⟩:=au.shape'
          have hown:=ak.own
          have cj:=dz.grown hgr (fun k hk=>by have:=(hown k hk).1;omega)
          have cg:=dx.grown hgr (fun k hk=>(hown k hk).1)
          have ag:=(hgr.block F (Array.getElem?_eq_some_iff.1 bt).1 (fun hh=>ak.ne_blk bt (by decide) hh.symm)).trans bt
          have bu:=(hgr.block w.heap.size (Array.getElem?_eq_some_iff.1 bw).1 (fun hh=>ak.ne_blk bw (by decide) hh.symm)).trans bw
          have aw:=au.grown hgr (au.ne ak (by decide))
          obtain⟨_,k1,k2⟩:=A4p ag
          have g1:=A0b ag 1
          clear c0 c1 c2
          refine hK _ _ ?_
          clear hK
          refine wpAny_take (i:=6) (v:=.pointer (some ⟨F,1,none⟩)) rfl (by kernel_rfl) (by kernel_rfl) (by kernel_rfl) (fun _ _ _ h=>h) (Or.inl ⟨by rfl,by intro w;go_simp⟩) ?_
          refine wpAny_ready (rs:=[7]) (by kernel_rfl) (by simp) ?_
          refine AllReady.cons rfl (fun Kc hK=>?_) AllReady.nil
          go_simp
          refine hK _ _ ?_
          clear hK
          refine wpAny_done (by kernel_rfl) ?_ _
          have bh:=heap_setCell_same _ _ 1 _ _ (.slice bg nn ac) ag
          have bv:=(heap_setCell_other d9 ⟨F,1,none⟩ w.heap.size (.slice bg nn ac) (by simp;omega)).trans bu
          have aj:=cj.other (F:=F) (by omega) 1 (.slice bg nn ac)
          have ba:=cg.setNew (F:=F) (by omega) 1 (.slice bg nn ac)
          have bn:=ah.other (ah.ne_blk ag (by decide)) 1 (.slice bg nn ac)
          have bk:=aw.other (aw.ne_blk ag (by decide)) 1 (.slice bg nn ac)
          have br:Hid (nn=(fs++l).length):=dr
          have bq:Hid (no=(bs).length):=dp
          obtain⟨_,c1,c2⟩:=A4p bh
          have HQ:Hid (A0g K r=if 16<nn∨16<no then .error (some (5,t8)) else A4z K k ⟨nm,fs++l,bs⟩ (ch+1) t8):=by show _=_;rw[di.out,HP.out,HI.out,br.out,bq.out];rfl
          have fz:nn≤10000:=by rw[br.out];(try simp);omega
          have fy:no≤10000:=by rw[bq.out];(try simp);omega
          by_cases h16:16<nn
          ·have HY:Hid (A0g K r = .error (some (5,t8))):=by show _=_;rw[HQ.out,if_pos (.inl h16)]
           go_wp2_with fail
           refine(A0s aj 5).mono ?_
           rintro en ee ⟨rfl,rfl⟩
           go_wp2
           exact⟨rfl,A0f ba HY.out aj.2.1⟩
          ·have dv:¬ (16:Int)<(nn:Int):=by omega
           by_cases h17:16<no
           ·have HY:Hid (A0g K r = .error (some (5,t8))):=by show _=_;rw[HQ.out,if_pos (.inr h17)]
            go_wp2_with fail
            refine(A0s aj 5).mono ?_
            rintro en ee ⟨rfl,rfl⟩
            go_wp2
            exact⟨rfl,A0f ba HY.out aj.2.1⟩
           ·have dw:¬ (16:Int)<(no:Int):=by omega
            have HY:Hid (A0g K r=A4z K k ⟨nm,fs++l,bs⟩ (ch+1) t8):=by show _=_;rw[HQ.out,if_neg (by omega)]
            go_wp2_with fail
            go_roundg k
            case measure=>omega
            case rel=>exact⟨fs++l,bs,(ch+1),t8,_,_,by push_cast;rfl,bn,bk,bh,bv,aj,ba,by rw[←br.out];omega,by rw[←bq.out];omega,by omega,HY⟩
        ·go_simp
         refine(B4l dy.drew fo.drew' hB K (ch+1) f9).mono ?_
         rintro en w8 ⟨bp,hx⟩
         have df:=(dn.drew').kp bp dl
         have cw:=(dm.drew').kp bp dl
         have dg:=A0w (w:=w7.drew) eo bp (by omega)
         have eh:=A0w (w:=w7.drew) fk bp (by omega)
         have bc:=dh.drew.trans bp
         cases hn:A2l K (ch+1) t7 with
         | error E=>
          rw[hn] at hx
          match E,hx with
          | none,hx=>exact hx.elim
          | some (c,t),hx=>
           obtain⟨ht,rfl⟩:=hx
           have HY:Hid (A0g K r = .error (some (c,t))):=by show _=_;rw[di.out,HP.out,hn];rfl
           clear hn di hK
           go_wp2
           exact⟨rfl,A0f bc HY.out ht⟩
         | ok p=>
          obtain⟨l,t8⟩:=p
          rw[hn] at hx
          obtain⟨ei,vl,rfl,ft⟩:=hx
          have gc:l.length≤3000:=by have:=B4m hn;omega
          have HI:Hid (A2l K (ch+1) t7 = .ok (l,t8)):=hn
          clear hn
          obtain⟨c0,c1,c2⟩:=A4p dg
          have ej:w.heap.size≤w8.heap.size:=bc.size
          have fh:F<w8.heap.size:=(Array.getElem?_eq_some_iff.1 dg).1
          refine hK _ _ ?_
          clear hK
          refine wpAny_ready (rs:=[1]) (by kernel_rfl) (by simp) ?_
          refine AllReady.cons rfl (fun Kc hK=>?_) AllReady.nil
          go_simp
          refine hK _ _ ?_
          clear hK
          refine wpAny_ready (rs:=[5]) (by kernel_rfl) (by simp) ?_
          refine AllReady.cons rfl (fun Kc hK=>?_) AllReady.nil
          simp only[Region.wanted]
          have cu:=ft
          have ak:=df
          have au:=cw
          have bt:=dg
          have bw:=eh
          have dz:=ei
          have dx:=bc
          refine A3r A4i _ _ rfl w.heap.size _ fs l rfl ak _ _ rfl cu (by(try simp);omega) ej ?_
          intro vn d9 ah hgr
          obtain⟨bg,nn,ac,rfl,dr⟩:=ah.shape'
          obtain⟨fu,no,dt,rfl,dp⟩:=au.shape'
          have hown:=ak.own
          have cj:=dz.grown hgr (fun k hk=>by have:=(hown k hk).1;omega)
          have cg:=dx.grown hgr (fun k hk=>(hown k hk).1)
          have ag:=(hgr.block F (Array.getElem?_eq_some_iff.1 bt).1 (fun hh=>ak.ne_blk bt (by decide) hh.symm)).trans bt
          have bu:=(hgr.block w.heap.size (Array.getElem?_eq_some_iff.1 bw).1 (fun hh=>ak.ne_blk bw (by decide) hh.symm)).trans bw
          have aw:=au.grown hgr (au.ne ak (by decide))
          obtain⟨_,k1,k2⟩:=A4p ag
          have g1:=A0b ag 1
          clear c0 c1 c2
          refine hK _ _ ?_
          clear hK
          refine wpAny_take (i:=6) (v:=.pointer (some ⟨F,1,none⟩)) rfl (by kernel_rfl) (by kernel_rfl) (by kernel_rfl) (fun _ _ _ h=>h) (Or.inl ⟨by rfl,by intro w;go_simp⟩) ?_
          refine wpAny_ready (rs:=[7]) (by kernel_rfl) (by simp) ?_
          refine AllReady.cons rfl (fun Kc hK=>?_) AllReady.nil
          go_simp
          refine hK _ _ ?_
          clear hK
          refine wpAny_done (by kernel_rfl) ?_ _
          have bh:=heap_setCell_same _ _ 1 _ _ (.slice bg nn ac) ag
          have bv:=(heap_setCell_other d9 ⟨F,1,none⟩ w.heap.size (.slice bg nn ac) (by simp;omega)).trans bu
          have aj:=cj.other (F:=F) (by omega) 1 (.slice bg nn ac)
          have ba:=cg.setNew (F:=F) (by omega) 1 (.slice bg nn ac)
          have bn:=ah.other (ah.ne_blk ag (by decide)) 1 (.slice bg nn ac)
          have bk:=aw.other (aw.ne_blk ag (by decide)) 1 (.slice bg nn ac)
          have br:Hid (nn=(fs++l).length):=dr
          have bq:Hid (no=(bs).length):=dp
          obtain⟨_,c1,c2⟩:=A4p bh
          have HQ:Hid (A0g K r=if 16<nn∨16<no then .error (some (5,t8)) else A4z K k ⟨nm,fs++l,bs⟩ (ch+1) t8):=by show _=_;rw[di.out,HP.out,HI.out,br.out,bq.out];rfl
          have fz:nn≤10000:=by rw[br.out];(try simp);omega
          have fy:no≤10000:=by rw[bq.out];(try simp);omega
          by_cases h16:16<nn
          ·have HY:Hid (A0g K r = .error (some (5,t8))):=by show _=_;rw[HQ.out,if_pos (.inl h16)]
           go_wp2_with fail
           refine(A0s aj 5).mono ?_
           rintro en ee ⟨rfl,rfl⟩
           go_wp2
           exact⟨rfl,A0f ba HY.out aj.2.1⟩
          ·have dv:¬ (16:Int)<(nn:Int):=by omega
           by_cases h17:16<no
           ·have HY:Hid (A0g K r = .error (some (5,t8))):=by show _=_;rw[HQ.out,if_pos (.inr h17)]
            go_wp2_with fail
            refine(A0s aj 5).mono ?_
            rintro en ee ⟨rfl,rfl⟩
            go_wp2
            exact⟨rfl,A0f ba HY.out aj.2.1⟩
           ·have dw:¬ (16:Int)<(no:Int):=by omega
            have HY:Hid (A0g K r=A4z K k ⟨nm,fs++l,bs⟩ (ch+1) t8):=by show _=_;rw[HQ.out,if_neg (by omega)]
            go_wp2_with fail
            go_roundg k
            case measure=>omega
            case rel=>exact⟨fs++l,bs,(ch+1),t8,_,_,by push_cast;rfl,bn,bk,bh,bv,aj,ba,by rw[←br.out];omega,by rw[←bq.out];omega,by omega,HY⟩
       | false=>
        go_wp2_with fail
        refine(A4x gg A3m (by decide)).mono ?_
        rintro en w7 ⟨rfl,dy,fx⟩
        have dn:=fe.kp fx dl
        have dm:=fc.kp fx dl
        have eo:=A0w gj fx (by omega)
        have fk:=A0w gp fx (by omega)
        replace dh:=dh.trans fx
        clear fe fc gg gj gp fx
        generalize hq7:B2w A3m t6=mq at dy ⊢
        obtain⟨many,t7⟩:=mq
        have HP:Hid (B8t K ⟨nm,fs,bs⟩ ch t3=R.thn (A2m many 0 t7) fun f u=>.ok ((⟨nm,fs++[f],bs⟩,ch),u)):=by show _=_;rw[B8t,hq];show(match B2w A8i t5 with|(true,t)=>_|(false,t)=>_)=_;rw[hq6];show R.thn (A2m (B2w A3m t6).1 0 (B2w A3m t6).2) _=_;rw[hq7]
        have fo:Gl B w7:=hg.kp hB dl dh
        clear hq hq6 hq7
        go_wp2_with fail
        obtain⟨c0,c1,c2⟩:=A4p eo
        refine wp_region_any (by kernel_rfl) ?_
        change wpAny _ _ _ _ _ _ _ (World.drew _)
        refine wpAny_take (i:=0) (v:=.pointer (some ⟨F,1,none⟩)) rfl (by kernel_rfl) (by kernel_rfl) (by kernel_rfl) (fun _ _ _ h=>h) (Or.inl ⟨by rfl,by intro w;go_simp⟩) ?_
        refine wpAny_take (i:=2) (v:=.pointer (some ⟨b,0,none⟩)) rfl (by kernel_rfl) (by kernel_rfl) (by kernel_rfl) (fun _ _ _ h=>h) (Or.inl ⟨by rfl,by intro w;go_simp⟩) ?_
        refine wpAny_take (i:=3) (v:=.bool many) rfl (by kernel_rfl) (by kernel_rfl) (by kernel_rfl) (fun _ _ _ h=>h) (Or.inl ⟨by rfl,by intro w;go_simp⟩) ?_
        refine wpAny_ready (rs:=[1,4]) (by kernel_rfl) (by simp) ?_
        refine AllReady.cons rfl (fun Kc hK=>?_) (AllReady.cons rfl (fun Kc hK=>?_) AllReady.nil)
        ·go_simp
         refine hK _ _ ?_
         clear hK
         refine wpAny_ready (rs:=[4]) (by kernel_rfl) (by simp) ?_
         refine AllReady.cons rfl (fun Kc hK=>?_) AllReady.nil
         go_simp
         refine(A3e dy.drew fo.drew' hB many 0).mono ?_
         rintro en w8 ⟨bp,hx⟩
         have df:=(dn.drew').kp bp dl
         have cw:=(dm.drew').kp bp dl
         have dg:=A0w (w:=w7.drew) eo bp (by omega)
         have eh:=A0w (w:=w7.drew) fk bp (by omega)
         have bc:=dh.drew.trans bp
         cases hn:A2m many 0 t7 with
         | error E=>
          rw[hn] at hx
          match E,hx with
          | none,hx=>exact hx.elim
          | some (c,t),hx=>
           obtain⟨ht,rfl⟩:=hx
           have HY:Hid (A0g K r = .error (some (c,t))):=by show _=_;rw[di.out,HP.out,hn];rfl
           clear hn di hK
           go_wp2
           exact⟨rfl,A0f bc HY.out ht⟩
         | ok p=>
          obtain⟨l,t8⟩:=p
          rw[hn] at hx
          obtain⟨ei,_,rfl,rfl⟩:=hx
          have gc:1≤3000:=by omega
          have HI:Hid (A2m many 0 t7 = .ok (l,t8)):=hn
          clear hn
          obtain⟨c0,c1,c2⟩:=A4p dg
          have ej:w.heap.size≤w8.heap.size:=bc.size
          have fh:F<w8.heap.size:=(Array.getElem?_eq_some_iff.1 dg).1
          refine hK _ _ ?_
          clear hK
          refine wpAny_ready (rs:=[5]) (by kernel_rfl) (by simp) ?_
          refine AllReady.cons rfl (fun Kc hK=>?_) AllReady.nil
          unfold A1t
          go_simp
          refine hK _ _ ?_
          clear hK
          refine wpAny_ready (rs:=[6]) (by kernel_rfl) (by simp) ?_
          refine AllReady.cons rfl (fun Kc hK=>?_) AllReady.nil
          simp only[Region.wanted]
          have cu:Row A4i (w8.alloc (.cells (A1t l).toArray 40)) w.heap.size (.slice (some ⟨w8.heap.size,0,none⟩) 1 1) [l]:=Row.one A4i w8 l ej
          have ak:Row A4i (w8.alloc (.cells (A1t l).toArray 40)) w.heap.size vf fs:=df.below ((Below.refl _ _).alloc (Nat.le_refl _) _)
          have au:Row A6x (w8.alloc (.cells (A1t l).toArray 40)) w.heap.size vb bs:=cw.below ((Below.refl _ _).alloc (Nat.le_refl _) _)
          have bt:=(Below.heap_alloc w8 (.cells (A1t l).toArray 40) F fh).trans dg
          have bw:=(Below.heap_alloc w8 (.cells (A1t l).toArray 40) w.heap.size (by omega)).trans eh
          have dz:=ei.alloc (.cells (A1t l).toArray 40)
          have dx:=bc.alloc (.cells (A1t l).toArray 40)
          refine A3r A4i _ _ rfl w.heap.size _ fs [l] rfl ak _ _ rfl cu (by(try simp);omega) (by simp;omega) ?_
          intro vn d9 ah hgr
          obtain⟨bg,nn,ac,rfl,dr⟩:=ah.shape'
          obtain⟨fu,no,dt,rfl,dp⟩:=au.shape'
          have hown:=ak.own
          have cj:=dz.grown hgr (fun k hk=>by have:=(hown k hk).1;omega)
          have cg:=dx.grown hgr (fun k hk=>(hown k hk).1)
          have ag:=(hgr.block F (Array.getElem?_eq_some_iff.1 bt).1 (fun hh=>ak.ne_blk bt (by decide) hh.symm)).trans bt
          have bu:=(hgr.block w.heap.size (Array.getElem?_eq_some_iff.1 bw).1 (fun hh=>ak.ne_blk bw (by decide) hh.symm)).trans bw
          have aw:=au.grown hgr (au.ne ak (by decide))
          obtain⟨_,k1,k2⟩:=A4p ag
          have g1:=A0b ag 1
          clear c0 c1 c2
          refine hK _ _ ?_
          clear hK
          refine wpAny_take (i:=7) (v:=.pointer (some ⟨F,1,none⟩)) rfl (by kernel_rfl) (by kernel_rfl) (by kernel_rfl) (fun _ _ _ h=>h) (Or.inl ⟨by rfl,by intro w;go_simp⟩) ?_
          refine wpAny_ready (rs:=[8]) (by kernel_rfl) (by simp) ?_
          refine AllReady.cons rfl (fun Kc hK=>?_) AllReady.nil
          go_simp
          refine hK _ _ ?_
          clear hK
          refine wpAny_done (by kernel_rfl) ?_ _
          have bh:=heap_setCell_same _ _ 1 _ _ (.slice bg nn ac) ag
          have bv:=(heap_setCell_other d9 ⟨F,1,none⟩ w.heap.size (.slice bg nn ac) (by simp;omega)).trans bu
          have aj:=cj.other (F:=F) (by omega) 1 (.slice bg nn ac)
          have ba:=cg.setNew (F:=F) (by omega) 1 (.slice bg nn ac)
          have bn:=ah.other (ah.ne_blk ag (by decide)) 1 (.slice bg nn ac)
          have bk:=aw.other (aw.ne_blk ag (by decide)) 1 (.slice bg nn ac)
          have br:Hid (nn=(fs++[l]).length):=dr
          have bq:Hid (no=(bs).length):=dp
          obtain⟨_,c1,c2⟩:=A4p bh
          have HQ:Hid (A0g K r=if 16<nn∨16<no then .error (some (5,t8)) else A4z K k ⟨nm,fs++[l],bs⟩ ch t8):=by show _=_;rw[di.out,HP.out,HI.out,br.out,bq.out];rfl
          have fz:nn≤10000:=by rw[br.out];(try simp);omega
          have fy:no≤10000:=by rw[bq.out];(try simp);omega
          by_cases h16:16<nn
          ·have HY:Hid (A0g K r = .error (some (5,t8))):=by show _=_;rw[HQ.out,if_pos (.inl h16)]
           go_wp2_with fail
           refine(A0s aj 5).mono ?_
           rintro en ee ⟨rfl,rfl⟩
           go_wp2
           exact⟨rfl,A0f ba HY.out aj.2.1⟩
          ·have dv:¬ (16:Int)<(nn:Int):=by omega
           by_cases h17:16<no
           ·have HY:Hid (A0g K r = .error (some (5,t8))):=by show _=_;rw[HQ.out,if_pos (.inr h17)]
            go_wp2_with fail
            refine(A0s aj 5).mono ?_
            rintro en ee ⟨rfl,rfl⟩
            go_wp2
            exact⟨rfl,A0f ba HY.out aj.2.1⟩
           ·have dw:¬ (16:Int)<(no:Int):=by omega
            have HY:Hid (A0g K r=A4z K k ⟨nm,fs++[l],bs⟩ ch t8):=by show _=_;rw[HQ.out,if_neg (by omega)]
            go_wp2_with fail
            go_roundg k
            case measure=>omega
            case rel=>exact⟨fs++[l],bs,ch,t8,_,_,rfl,bn,bk,bh,bv,aj,ba,by rw[←br.out];omega,by rw[←bq.out];omega,by omega,HY⟩
        ·go_simp
         refine(A3e dy.drew fo.drew' hB many 0).mono ?_
         rintro en w8 ⟨bp,hx⟩
         have df:=(dn.drew').kp bp dl
         have cw:=(dm.drew').kp bp dl
         have dg:=A0w (w:=w7.drew) eo bp (by omega)
         have eh:=A0w (w:=w7.drew) fk bp (by omega)
         have bc:=dh.drew.trans bp
         cases hn:A2m many 0 t7 with
         | error E=>
          rw[hn] at hx
          match E,hx with
          | none,hx=>exact hx.elim
          | some (c,t),hx=>
           obtain⟨ht,rfl⟩:=hx
           have HY:Hid (A0g K r = .error (some (c,t))):=by show _=_;rw[di.out,HP.out,hn];rfl
           clear hn di hK
           go_wp2
           exact⟨rfl,A0f bc HY.out ht⟩
         | ok p=>
          obtain⟨l,t8⟩:=p
          rw[hn] at hx
          obtain⟨ei,_,rfl,rfl⟩:=hx
          have gc:1≤3000:=by omega
          have HI:Hid (A2m many 0 t7 = .ok (l,t8)):=hn
          clear hn
          obtain⟨c0,c1,c2⟩:=A4p dg
          have ej:w.heap.size≤w8.heap.size:=bc.size
          have fh:F<w8.heap.size:=(Array.getElem?_eq_some_iff.1 dg).1
          refine hK _ _ ?_
          clear hK
          refine wpAny_ready (rs:=[1,5]) (by kernel_rfl) (by simp) ?_
          refine AllReady.cons rfl (fun Kc hK=>?_) (AllReady.cons rfl (fun Kc hK=>?_) AllReady.nil)
          rotate_right
          focus
           unfold A1t
           go_simp
           refine hK _ _ ?_
           clear hK
           refine wpAny_ready (rs:=[1]) (by kernel_rfl) (by simp) ?_
           refine AllReady.cons rfl (fun Kc hK=>?_) AllReady.nil
          rotate_right
          focus
           go_simp
           refine hK _ _ ?_
           clear hK
           refine wpAny_ready (rs:=[5]) (by kernel_rfl) (by simp) ?_
           refine AllReady.cons rfl (fun Kc hK=>?_) AllReady.nil
           unfold A1t
          all_goals
           go_simp
           refine hK _ _ ?_
           clear hK
           refine wpAny_ready (rs:=[6]) (by kernel_rfl) (by simp) ?_
           refine AllReady.cons rfl (fun Kc hK=>?_) AllReady.nil
           simp only[Region.wanted]
           have cu:Row A4i (w8.alloc (.cells (A1t l).toArray 40)) w.heap.size (.slice (some ⟨w8.heap.size,0,none⟩) 1 1) [l]:=Row.one A4i w8 l ej
           have ak:Row A4i (w8.alloc (.cells (A1t l).toArray 40)) w.heap.size vf fs:=df.below ((Below.refl _ _).alloc (Nat.le_refl _) _)
           have au:Row A6x (w8.alloc (.cells (A1t l).toArray 40)) w.heap.size vb bs:=cw.below ((Below.refl _ _).alloc (Nat.le_refl _) _)
           have bt:=(Below.heap_alloc w8 (.cells (A1t l).toArray 40) F fh).trans dg
           have bw:=(Below.heap_alloc w8 (.cells (A1t l).toArray 40) w.heap.size (by omega)).trans eh
           have dz:=ei.alloc (.cells (A1t l).toArray 40)
           have dx:=bc.alloc (.cells (A1t l).toArray 40)
           refine A3r A4i _ _ rfl w.heap.size _ fs [l] rfl ak _ _ rfl cu (by(try simp);omega) (by simp;omega) ?_
           intro vn d9 ah hgr
           obtain⟨bg,nn,ac,rfl,dr⟩:=ah.shape'
           obtain⟨fu,no,dt,rfl,dp⟩:=au.shape'
           have hown:=ak.own
           have cj:=dz.grown hgr (fun k hk=>by have:=(hown k hk).1;omega)
           have cg:=dx.grown hgr (fun k hk=>(hown k hk).1)
           have ag:=(hgr.block F (Array.getElem?_eq_some_iff.1 bt).1 (fun hh=>ak.ne_blk bt (by decide) hh.symm)).trans bt
           have bu:=(hgr.block w.heap.size (Array.getElem?_eq_some_iff.1 bw).1 (fun hh=>ak.ne_blk bw (by decide) hh.symm)).trans bw
           have aw:=au.grown hgr (au.ne ak (by decide))
           obtain⟨_,k1,k2⟩:=A4p ag
           have g1:=A0b ag 1
           clear c0 c1 c2
           refine hK _ _ ?_
           clear hK
           refine wpAny_take (i:=7) (v:=.pointer (some ⟨F,1,none⟩)) rfl (by kernel_rfl) (by kernel_rfl) (by kernel_rfl) (fun _ _ _ h=>h) (Or.inl ⟨by rfl,by intro w;go_simp⟩) ?_
           refine wpAny_ready (rs:=[8]) (by kernel_rfl) (by simp) ?_
           refine AllReady.cons rfl (fun Kc hK=>?_) AllReady.nil
           go_simp
           refine hK _ _ ?_
           clear hK
           refine wpAny_done (by kernel_rfl) ?_ _
           have bh:=heap_setCell_same _ _ 1 _ _ (.slice bg nn ac) ag
           have bv:=(heap_setCell_other d9 ⟨F,1,none⟩ w.heap.size (.slice bg nn ac) (by simp;omega)).trans bu
           have aj:=cj.other (F:=F) (by omega) 1 (.slice bg nn ac)
           have ba:=cg.setNew (F:=F) (by omega) 1 (.slice bg nn ac)
           have bn:=ah.other (ah.ne_blk ag (by decide)) 1 (.slice bg nn ac)
           have bk:=aw.other (aw.ne_blk ag (by decide)) 1 (.slice bg nn ac)
           have br:Hid (nn=(fs++[l]).length):=dr
           have bq:Hid (no=(bs).length):=dp
           obtain⟨_,c1,c2⟩:=A4p bh
           have HQ:Hid (A0g K r=if 16<nn∨16<no then .error (some (5,t8)) else A4z K k ⟨nm,fs++[l],bs⟩ ch t8):=by show _=_;rw[di.out,HP.out,HI.out,br.out,bq.out];rfl
           have fz:nn≤10000:=by rw[br.out];(try simp);omega
           have fy:no≤10000:=by rw[bq.out];(try simp);omega
           by_cases h16:16<nn
           ·have HY:Hid (A0g K r = .error (some (5,t8))):=by show _=_;rw[HQ.out,if_pos (.inl h16)]
            go_wp2_with fail
            refine(A0s aj 5).mono ?_
            rintro en ee ⟨rfl,rfl⟩
            go_wp2
            exact⟨rfl,A0f ba HY.out aj.2.1⟩
           ·have dv:¬ (16:Int)<(nn:Int):=by omega
            by_cases h17:16<no
            ·have HY:Hid (A0g K r = .error (some (5,t8))):=by show _=_;rw[HQ.out,if_pos (.inr h17)]
             go_wp2_with fail
             refine(A0s aj 5).mono ?_
             rintro en ee ⟨rfl,rfl⟩
             go_wp2
             exact⟨rfl,A0f ba HY.out aj.2.1⟩
            ·have dw:¬ (16:Int)<(no:Int):=by omega
             have HY:Hid (A0g K r=A4z K k ⟨nm,fs++[l],bs⟩ ch t8):=by show _=_;rw[HQ.out,if_neg (by omega)]
             go_wp2_with fail
             go_roundg k
             case measure=>omega
             case rel=>exact⟨fs++[l],bs,ch,t8,_,_,rfl,bn,bk,bh,bv,aj,ba,by rw[←br.out];omega,by rw[←bq.out];omega,by omega,HY⟩
end Go.Proofs.YtgaoojpakjjdnaaGreatDoor
