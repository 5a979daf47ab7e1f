import Derived.Test.YtgaoojpakjjdnaaGreatDoorV41
set_option maxHeartbeats 32000000
set_option maxRecDepth 100000
namespace Go.Proofs.YtgaoojpakjjdnaaGreatDoor
open Go.RowKit
theorem A4s {w:World}{g:Nat}{a0 a1 a2:Value}{t:TypeId}(h:w.heap[g]?=some (.cells #[a0,a1,a2] t (0,0))) :
  w.cell? ⟨g,0,none⟩=some a0∧w.cell? ⟨g,1,none⟩=some a1∧w.cell? ⟨g,2,none⟩=some a2:=⟨A0a h 0 _ rfl,A0a h 1 _ rfl,A0a h 2 _ rfl⟩
def D7k (w:World) (base:Nat) (x:Msg) (v:Value):Prop:=∃ vf vb,v = .agg #[.string (S x.name),vf,vb]∧Row A3s w base vf x.fields∧Row A5x w base vb x.barred
theorem A2q {B b:Nat}{txt r:List UInt8}{m e:Value}{w:World}(h:St w b txt r m e) (hg:Gl B w) (hB:B≤b) (K:Nat) (il:K≤1000000) (hN:A0g K r≠.error none) :
  Calls Tryz.prog 191 #[.pointer (some ⟨b,0,none⟩)] w (C3w b txt m e w (fun x v w'=>D7k w' w.heap.size x v) (A0g K r)):=by
 have dh:=h.lt
 have HN:Hid (A0g K r≠.error none):=hN
 have HX:Hid (A0g K r=R.thn (A3r r) fun nm u=>R.thn (A1p 123 u) fun _ u=>A4h K K ⟨nm,[],[]⟩ 0 u):=rfl
 clear hN
 go_enter Tryz.func191,Tryz.ntmps191
 go_wp2_with fail
 refine(A8h (h.alloc _)).mono ?_
 rintro en w1 ⟨gl,hx⟩
 have hR:w1.heap[w.heap.size]?=some (.cells #[.string ⟨#[]⟩,.slice none 0 0,.slice none 0 0] 38 (0,0)):=A0s (heap_alloc_new w _) gl (by omega)
 have hz1:w.heap.size+1≤w1.heap.size:=by have:=gl.size;simpa using this
 have df:Kp b w w1:=((Kp.refl b w).alloc _).trans gl
 clear gl
 cases hn:A3r r with
 | error E=>
  rw[hn] at hx
  match E,hx with
  | none,hx=>exact hx.elim
  | some (c,t),hx=>
   obtain⟨ht,rfl⟩:=hx
   have HY:Hid (A0g K r = .error (some (c,t))):=by show _=_;rw[HX.out,hn];rfl
   clear hn HX
   go_wp2
   exact⟨rfl,A0f df HY.out ht⟩
 | ok p=>
  obtain⟨nm,t1⟩:=p
  rw[hn] at hx
  obtain⟨hs1,_,rfl,rfl⟩:=hx
  have gc:Hid (A0g K r=R.thn (A1p 123 t1) fun _ u=>A4h K K ⟨nm,[],[]⟩ 0 u):=by show _=_;rw[HX.out,hn];rfl
  clear hn HX
  have hF2:=heap_alloc_new w1 (.cells #[.string (S nm),.slice none 0 0,.slice none 0 0] 38)
  have g9:=(Below.heap_alloc w1 (.cells #[.string (S nm),.slice none 0 0,.slice none 0 0] 38) w.heap.size (by omega)).trans hR
  have hs2:=hs1.alloc (.cells #[.string (S nm),.slice none 0 0,.slice none 0 0] 38)
  have hk2:=df.alloc (.cells #[.string (S nm),.slice none 0 0,.slice none 0 0] 38)
  clear df hR hs1
  go_wp2_with fail
  generalize w1.alloc (.cells #[.string (S nm),.slice none 0 0,.slice none 0 0] 38)=W2 at *
  obtain⟨F,gy⟩:∃ F,Hid (F=w1.heap.size):=⟨_,rfl⟩
  have ik:w.heap.size+1≤F:=by rw[gy.out];exact hz1
  rw[←gy.out] at hF2 ⊢
  clear hz1
  refine(A3u hs2 123).mono ?_
  rintro en w3 ⟨hk3,hx⟩
  have g8:=A0s hF2 hk3 (by omega)
  have ie:=A0s g9 hk3 (by omega)
  have df:=hk2.trans hk3
  clear hF2 g9 hs2 hk2 hk3
  cases hn:A1p 123 t1 with
  | error E=>
   rw[hn] at hx
   match E,hx with
   | none,hx=>exact hx.elim
   | some (c,t),hx=>
    obtain⟨ht,rfl⟩:=hx
    have HY:Hid (A0g K r = .error (some (c,t))):=by show _=_;rw[gc.out,hn];rfl
    clear hn gc
    go_wp2
    exact⟨rfl,A0f df HY.out ht⟩
  | ok p=>
   obtain⟨_,t2⟩:=p
   rw[hn] at hx
   obtain⟨hs3,_,rfl,rfl⟩:=hx
   have gz:Hid (A0g K r=A4h K K ⟨nm,[],[]⟩ 0 t2):=by show _=_;rw[gc.out,hn];rfl
   clear hn gc
   go_wp2_with fail
   go_loopg [4] K (fun k sc wr=>∃ fs bs ch q vf vb,sc = .int .i64 ((ch:Nat):Int)∧Row A3s wr w.heap.size vf fs∧Row A5x wr w.heap.size vb bs∧wr.heap[F]?=some (.cells #[.string (S nm),vf,vb] 38 (0,0))∧wr.heap[w.heap.size]?=some (.cells #[.string ⟨#[]⟩,.slice none 0 0,.slice none 0 0] 38 (0,0))∧St wr b txt q m e∧Kp b w wr∧fs.length≤16∧bs.length≤16∧ch+k≤K∧Hid (A0g K r=A4h K k ⟨nm,fs,bs⟩ ch q))
   case atStart=>exact⟨[],[],0,t2,.slice none 0 0,.slice none 0 0,rfl,Row.nil _ _ _,Row.nil _ _ _,g8,ie,hs3,df,by simp,by simp,by omega,gz⟩
   case round=>
    clear g8 ie hs3 df gz
    obtain⟨fs,bs,ch,q,vf,vb,rfl,ii,ig,hF,hR,hs,hk,io,im,hch,HR⟩:=hrel
    cases gk with
    | zero=>exact absurd HR.out HN.out
    | succ k=>
     go_wp2_with fail
     refine(A6u hs 125).mono ?_
     rintro en w4 ⟨rfl,gp,hk4⟩
     have eo:=ii.kp hk4 dh
     have ej:=ig.kp hk4 dh
     have gw:=A0s hF hk4 (by omega)
     have fe:=A0s hR hk4 (by omega)
     have df:=hk.trans hk4
     clear ii ig hs hk hF hR hk4
     generalize hq:A3k 125 q=mq at gp ⊢
     obtain⟨ok,t3⟩:=mq
     cases ok with
     | true=>
      have dg:Hid (A0g K r = .ok (⟨nm,fs,bs⟩,t3)):=by show _=_;rw[HR.out,A4h,hq]
      clear hq HR
      obtain⟨c0,c1,c2⟩:=A4s gw
      obtain⟨d0,d1,d2⟩:=A4s fe
      have g0:=A0b fe 0
      have g1:=A0b fe 1
      have g2:=A0b fe 2
      obtain⟨ao,nf,cap,rfl,_⟩:=eo.shape'
      obtain⟨g7,nb,fy,rfl,_⟩:=ej.shape'
      go_wp2
      refine bodyPost_ret (v:=.agg #[.string (S nm),.slice ao nf cap,.slice g7 nb fy]) (by simp[results,Tryz.results191,go_sem, *]) rfl ?_
      have fk:=((df.setNew (F:=w.heap.size) (by omega) 0 (.string (S nm))).setNew (F:=w.heap.size) (by omega) 1 (.slice ao nf cap)).setNew (F:=w.heap.size) (by omega) 2 (.slice g7 nb fy)
      refine A4j fk dg.out (((gp.other (by omega) _ _).other (by omega) _ _).other (by omega) _ _) ⟨_,_,rfl,?_,?_⟩
      ·have hb:=eo.ne_blk fe (by decide)
       exact((eo.other hb _ _).other hb _ _).other hb _ _
      ·have hb:=ej.ne_blk fe (by decide)
       exact((ej.other hb _ _).other hb _ _).other hb _ _
     | false=>
      have dg:Hid (A0g K r=R.thn (B6v K ⟨nm,fs,bs⟩ ch t3) fun p u=>if 16 < p.1.fields.length∨16 < p.1.barred.length then .error (some (5,u)) else A4h K k p.1 p.2 u):=by show _=_;rw[HR.out,A4h,hq]
      clear hq HR
      go_wp2_with fail
      refine(A4g gp A5d (by decide)).mono ?_
      rintro en w5 ⟨rfl,hs5,fk⟩
      have ew:=eo.kp fk dh
      have et:=ej.kp fk dh
      have gg:=A0s gw fk (by omega)
      have gi:=A0s fe fk (by omega)
      replace df:=df.trans fk
      clear eo ej gp gw fe fk
      generalize hq:B1b A5d t3=mq at hs5 ⊢
      obtain⟨ok,t5⟩:=mq
      cases ok with
      | true=>
       obtain⟨w7,gu⟩:∃ w7,w7=w5:=⟨_,rfl⟩
       obtain⟨t7,gq⟩:∃ t7,t7=t5:=⟨_,rfl⟩
       subst gu gq
       have HP:Hid (B6v K ⟨nm,fs,bs⟩ ch t3=R.thn (A1a K t7) fun l u=>.ok ((⟨nm,fs,bs++l⟩,ch),u)):=by show _=_;rw[B6v,hq]
       have fz:A1a K t7≠.error none:=by intro hh;apply HN.out;rw[dg.out,HP.out,hh];rfl
       have dw:St w7 b txt t7 m e:=hs5
       have dl:=ew
       have di:=et
       have ei:=gg
       have fh:=gi
       have fj:Gl B w7:=hg.kp hB dh df
       have ij:t7.length≤3000:=by have:=dw.1;have:=dw.2.1;omega
       clear hq hs5 ew et gg gi
       go_wp2_with fail
       obtain⟨c0,c1,c2⟩:=A4s ei
       refine wp_region_any (by kernel_rfl) ?_
       change wpAny _ _ _ _ _ _ _ (World.drew _)
       refine wpAny_take (i:=0) (v:=.pointer (some ⟨F,2,none⟩)) rfl (by kernel_rfl) (by kernel_rfl) (by kernel_rfl) (fun _ _ _ h=>h) (Or.inl ⟨by rfl,by intro w;go_simp⟩) ?_
       refine wpAny_take (i:=2) (v:=.pointer (some ⟨b,0,none⟩)) rfl (by kernel_rfl) (by kernel_rfl) (by kernel_rfl) (fun _ _ _ h=>h) (Or.inl ⟨by rfl,by intro w;go_simp⟩) ?_
       refine wpAny_ready (rs:=[1,3]) (by kernel_rfl) (by simp) ?_
       refine AllReady.cons rfl (fun Kc hK=>?_) (AllReady.cons rfl (fun Kc hK=>?_) AllReady.nil)
       ·go_simp
        refine hK _ _ ?_
        clear hK
        refine wpAny_ready (rs:=[3]) (by kernel_rfl) (by simp) ?_
        refine AllReady.cons rfl (fun Kc hK=>?_) AllReady.nil
        go_simp
        refine(A9q dw.drew fj.drew' hB K fz).mono ?_
        rintro en w8 ⟨bl,hx⟩
        have cu:=(dl.drew').kp bl dh
        have cj:=(di.drew').kp bl dh
        have cw:=A0s (w:=w7.drew) ei bl (by omega)
        have d9:=A0s (w:=w7.drew) fh bl (by omega)
        have ba:=df.drew.trans bl
        cases hn:A1a K t7 with
        | error E=>
         rw[hn] at hx
         match E,hx with
         | none,hx=>exact hx.elim
         | some (c,t),hx=>
          obtain⟨ht,rfl⟩:=hx
          have HY:Hid (A0g K r = .error (some (c,t))):=by show _=_;rw[dg.out,HP.out,hn];rfl
          clear hn dg hK
          go_wp2
          exact⟨rfl,A0f ba HY.out ht⟩
        | ok p=>
         obtain⟨l,t8⟩:=p
         rw[hn] at hx
         obtain⟨ee,vl,rfl,fo⟩:=hx
         have f6:l.length≤3000:=by have:=A9r hn;omega
         have HI:Hid (A1a K t7 = .ok (l,t8)):=hn
         clear hn
         obtain⟨c0,c1,c2⟩:=A4s cw
         have eh:w.heap.size≤w8.heap.size:=ba.size
         have fd:F < w8.heap.size:=(Array.getElem?_eq_some_iff.1 cw).1
         refine hK _ _ ?_
         clear hK
         refine wpAny_ready (rs:=[4]) (by kernel_rfl) (by simp) ?_
         refine AllReady.cons rfl (fun Kc hK=>?_) AllReady.nil
         simp only[Region.wanted]
         have cg:=fo
         have ak:=cu
         have au:=cj
         have bq:=cw
         have bu:=d9
         have dx:=ee
         have dv:=ba
         refine A3f A5x _ _ rfl w.heap.size _ bs l rfl au _ _ rfl cg (by(try simp);omega) eh ?_
         intro vn dy ah hgr
         obtain⟨bc,nn,ac,rfl,dn⟩:=ah.shape'
         obtain⟨fq,no,dp,rfl,dm⟩:=ak.shape'
         have hown:=au.own
         have bw:=dx.grown hgr (fun k hk=>by have:=(hown k hk).1;omega)
         have bv:=dv.grown hgr (fun k hk=>(hown k hk).1)
         have ag:=(hgr.block F (Array.getElem?_eq_some_iff.1 bq).1 (fun hh=>au.ne_blk bq (by decide) hh.symm)).trans bq
         have br:=(hgr.block w.heap.size (Array.getElem?_eq_some_iff.1 bu).1 (fun hh=>au.ne_blk bu (by decide) hh.symm)).trans bu
         have aw:=ak.grown hgr (ak.ne au (by decide))
         obtain⟨_,k1,k2⟩:=A4s ag
         have g1:=A0b ag 2
         clear c0 c1 c2
         refine hK _ _ ?_
         clear hK
         refine wpAny_take (i:=5) (v:=.pointer (some ⟨F,2,none⟩)) rfl (by kernel_rfl) (by kernel_rfl) (by kernel_rfl) (fun _ _ _ h=>h) (Or.inl ⟨by rfl,by intro w;go_simp⟩) ?_
         refine wpAny_ready (rs:=[6]) (by kernel_rfl) (by simp) ?_
         refine AllReady.cons rfl (fun Kc hK=>?_) AllReady.nil
         go_simp
         refine hK _ _ ?_
         clear hK
         refine wpAny_done (by kernel_rfl) ?_ _
         have bg:=heap_setCell_same _ _ 2 _ _ (.slice bc nn ac) ag
         have bt:=(heap_setCell_other dy ⟨F,2,none⟩ w.heap.size (.slice bc nn ac) (by simp;omega)).trans br
         have aj:=bw.other (F:=F) (by omega) 2 (.slice bc nn ac)
         have a8:=bv.setNew (F:=F) (by omega) 2 (.slice bc nn ac)
         have bh:=ah.other (ah.ne_blk ag (by decide)) 2 (.slice bc nn ac)
         have bk:=aw.other (aw.ne_blk ag (by decide)) 2 (.slice bc nn ac)
         have bp:Hid (no=(fs).length):=dm
         have bn:Hid (nn=(bs++l).length):=dn
         obtain⟨_,c1,c2⟩:=A4s bg
         have HQ:Hid (A0g K r=if 16 < no∨16 < nn then .error (some (5,t8)) else A4h K k ⟨nm,fs,bs++l⟩ ch t8):=by show _=_;rw[dg.out,HP.out,HI.out,bp.out,bn.out];rfl
         have fx:no≤10000:=by rw[bp.out];(try simp);omega
         have fw:nn≤10000:=by rw[bn.out];(try simp);omega
         by_cases h16:16 < no
         ·have HY:Hid (A0g K r = .error (some (5,t8))):=by show _=_;rw[HQ.out,if_pos (.inl h16)]
          go_wp2_with fail
          refine(A0o aj 5).mono ?_
          rintro en dz ⟨rfl,rfl⟩
          go_wp2
          exact⟨rfl,A0f a8 HY.out aj.2.1⟩
         ·have dr:¬ (16:Int) < (no:Int):=by omega
          by_cases h17:16 < nn
          ·have HY:Hid (A0g K r = .error (some (5,t8))):=by show _=_;rw[HQ.out,if_pos (.inr h17)]
           go_wp2_with fail
           refine(A0o aj 5).mono ?_
           rintro en dz ⟨rfl,rfl⟩
           go_wp2
           exact⟨rfl,A0f a8 HY.out aj.2.1⟩
          ·have dt:¬ (16:Int) < (nn:Int):=by omega
           have HY:Hid (A0g K r=A4h K k ⟨nm,fs,bs++l⟩ ch t8):=by show _=_;rw[HQ.out,if_neg (by omega)]
           go_wp2_with fail
           go_roundg k
           case measure=>omega
           case rel=>exact⟨fs,bs++l,ch,t8,_,_,rfl,bk,bh,bg,bt,aj,a8,by rw[←bp.out];omega,by rw[←bn.out];omega,by omega,HY⟩
       ·go_simp
        refine(A9q dw.drew fj.drew' hB K fz).mono ?_
        rintro en w8 ⟨bl,hx⟩
        have cu:=(dl.drew').kp bl dh
        have cj:=(di.drew').kp bl dh
        have cw:=A0s (w:=w7.drew) ei bl (by omega)
        have d9:=A0s (w:=w7.drew) fh bl (by omega)
        have ba:=df.drew.trans bl
        cases hn:A1a K t7 with
        | error E=>
         rw[hn] at hx
         match E,hx with
         | none,hx=>exact hx.elim
         | some (c,t),hx=>
          obtain⟨ht,rfl⟩:=hx
          have HY:Hid (A0g K r = .error (some (c,t))):=by show _=_;rw[dg.out,HP.out,hn];rfl
          clear hn dg hK
          go_wp2
          exact⟨rfl,A0f ba HY.out ht⟩
        | ok p=>
         obtain⟨l,t8⟩:=p
         rw[hn] at hx
         obtain⟨ee,vl,rfl,fo⟩:=hx
         have f6:l.length≤3000:=by have:=A9r hn;omega
         have HI:Hid (A1a K t7 = .ok (l,t8)):=hn
         clear hn
         obtain⟨c0,c1,c2⟩:=A4s cw
         have eh:w.heap.size≤w8.heap.size:=ba.size
         have fd:F < w8.heap.size:=(Array.getElem?_eq_some_iff.1 cw).1
         refine hK _ _ ?_
         clear hK
         refine wpAny_ready (rs:=[1]) (by kernel_rfl) (by simp) ?_
         refine AllReady.cons rfl (fun Kc hK=>?_) AllReady.nil
         go_simp
         refine hK _ _ ?_
         clear hK
         refine wpAny_ready (rs:=[4]) (by kernel_rfl) (by simp) ?_
         refine AllReady.cons rfl (fun Kc hK=>?_) AllReady.nil
         simp only[Region.wanted]
         have cg:=fo
         have ak:=cu
         have au:=cj
         have bq:=cw
         have bu:=d9
         have dx:=ee
         have dv:=ba
         refine A3f A5x _ _ rfl w.heap.size _ bs l rfl au _ _ rfl cg (by(try simp);omega) eh ?_
         intro vn dy ah hgr
         obtain⟨bc,nn,ac,rfl,dn⟩:=ah.shape'
         obtain⟨fq,no,dp,rfl,dm⟩:=ak.shape'
         have hown:=au.own
         have bw:=dx.grown hgr (fun k hk=>by have:=(hown k hk).1;omega)
         have bv:=dv.grown hgr (fun k hk=>(hown k hk).1)
         have ag:=(hgr.block F (Array.getElem?_eq_some_iff.1 bq).1 (fun hh=>au.ne_blk bq (by decide) hh.symm)).trans bq
         have br:=(hgr.block w.heap.size (Array.getElem?_eq_some_iff.1 bu).1 (fun hh=>au.ne_blk bu (by decide) hh.symm)).trans bu
         have aw:=ak.grown hgr (ak.ne au (by decide))
         obtain⟨_,k1,k2⟩:=A4s ag
         have g1:=A0b ag 2
         clear c0 c1 c2
         refine hK _ _ ?_
         clear hK
         refine wpAny_take (i:=5) (v:=.pointer (some ⟨F,2,none⟩)) rfl (by kernel_rfl) (by kernel_rfl) (by kernel_rfl) (fun _ _ _ h=>h) (Or.inl ⟨by rfl,by intro w;go_simp⟩) ?_
         refine wpAny_ready (rs:=[6]) (by kernel_rfl) (by simp) ?_
         refine AllReady.cons rfl (fun Kc hK=>?_) AllReady.nil
         go_simp
         refine hK _ _ ?_
         clear hK
         refine wpAny_done (by kernel_rfl) ?_ _
         have bg:=heap_setCell_same _ _ 2 _ _ (.slice bc nn ac) ag
         have bt:=(heap_setCell_other dy ⟨F,2,none⟩ w.heap.size (.slice bc nn ac) (by simp;omega)).trans br
         have aj:=bw.other (F:=F) (by omega) 2 (.slice bc nn ac)
         have a8:=bv.setNew (F:=F) (by omega) 2 (.slice bc nn ac)
         have bh:=ah.other (ah.ne_blk ag (by decide)) 2 (.slice bc nn ac)
         have bk:=aw.other (aw.ne_blk ag (by decide)) 2 (.slice bc nn ac)
         have bp:Hid (no=(fs).length):=dm
         have bn:Hid (nn=(bs++l).length):=dn
         obtain⟨_,c1,c2⟩:=A4s bg
         have HQ:Hid (A0g K r=if 16 < no∨16 < nn then .error (some (5,t8)) else A4h K k ⟨nm,fs,bs++l⟩ ch t8):=by show _=_;rw[dg.out,HP.out,HI.out,bp.out,bn.out];rfl
         have fx:no≤10000:=by rw[bp.out];(try simp);omega
         have fw:nn≤10000:=by rw[bn.out];(try simp);omega
         by_cases h16:16 < no
         ·have HY:Hid (A0g K r = .error (some (5,t8))):=by show _=_;rw[HQ.out,if_pos (.inl h16)]
          go_wp2_with fail
          refine(A0o aj 5).mono ?_
          rintro en dz ⟨rfl,rfl⟩
          go_wp2
          exact⟨rfl,A0f a8 HY.out aj.2.1⟩
         ·have dr:¬ (16:Int) < (no:Int):=by omega
          by_cases h17:16 < nn
          ·have HY:Hid (A0g K r = .error (some (5,t8))):=by show _=_;rw[HQ.out,if_pos (.inr h17)]
           go_wp2_with fail
           refine(A0o aj 5).mono ?_
           rintro en dz ⟨rfl,rfl⟩
           go_wp2
           exact⟨rfl,A0f a8 HY.out aj.2.1⟩
          ·have dt:¬ (16:Int) < (nn:Int):=by omega
           have HY:Hid (A0g K r=A4h K k ⟨nm,fs,bs++l⟩ ch t8):=by show _=_;rw[HQ.out,if_neg (by omega)]
           go_wp2_with fail
           go_roundg k
           case measure=>omega
           case rel=>exact⟨fs,bs++l,ch,t8,_,_,rfl,bk,bh,bg,bt,aj,a8,by rw[←bp.out];omega,by rw[←bn.out];omega,by omega,HY⟩
      | false=>
       go_wp2_with fail
       refine(A4g hs5 A7g (by decide)).mono ?_
       rintro en w6 ⟨rfl,f9,ft⟩
       have fc:=ew.kp ft dh
       have eu:=et.kp ft dh
       have gh:=A0s gg ft (by omega)
       have gj:=A0s gi ft (by omega)
       replace df:=df.trans ft
       clear ew et hs5 gg gi ft
       generalize hq6:B1b A7g t5=mq at f9 ⊢
       obtain⟨ok,t6⟩:=mq
       cases ok with
       | true=>
        obtain⟨w7,gu⟩:∃ w7,w7=w6:=⟨_,rfl⟩
        obtain⟨t7,gq⟩:∃ t7,t7=t6:=⟨_,rfl⟩
        subst gu gq
        have HP:Hid (B6v K ⟨nm,fs,bs⟩ ch t3=R.thn (A1z K (ch+1) t7) fun l u=>.ok ((⟨nm,fs++l,bs⟩,ch+1),u)):=by show _=_;rw[B6v,hq];show(match B1b A7g t5 with|(true,t)=>_|(false,t)=>_)=_;rw[hq6]
        have fz:A1z K (ch+1) t7≠.error none:=by intro hh;apply HN.out;rw[dg.out,HP.out,hh];rfl
        have dw:St w7 b txt t7 m e:=f9
        have dl:=fc
        have di:=eu
        have ei:=gh
        have fh:=gj
        have fj:Gl B w7:=hg.kp hB dh df
        have ij:t7.length≤3000:=by have:=dw.1;have:=dw.2.1;omega
        clear hq hq6 f9 fc eu gh gj
        go_wp2_with fail
        obtain⟨c0,c1,c2⟩:=A4s ei
        refine wp_region_any (by kernel_rfl) ?_
        change wpAny _ _ _ _ _ _ _ (World.drew _)
        refine wpAny_take (i:=0) (v:=.pointer (some ⟨F,1,none⟩)) rfl (by kernel_rfl) (by kernel_rfl) (by kernel_rfl) (fun _ _ _ h=>h) (Or.inl ⟨by rfl,by intro w;go_simp⟩) ?_
        refine wpAny_take (i:=2) (v:=.pointer (some ⟨b,0,none⟩)) rfl (by kernel_rfl) (by kernel_rfl) (by kernel_rfl) (fun _ _ _ h=>h) (Or.inl ⟨by rfl,by intro w;go_simp⟩) ?_
        refine wpAny_take (i:=3) (v:=.int .i64 ((ch:Int)+1)) rfl (by kernel_rfl) (by kernel_rfl) (by kernel_rfl) (fun _ _ _ h=>h) (Or.inl ⟨by rfl,by intro w;go_simp⟩) ?_
        refine wpAny_ready (rs:=[1,4]) (by kernel_rfl) (by simp) ?_
        refine AllReady.cons rfl (fun Kc hK=>?_) (AllReady.cons rfl (fun Kc hK=>?_) AllReady.nil)
        ·go_simp
         refine hK _ _ ?_
         clear hK
         refine wpAny_ready (rs:=[4]) (by kernel_rfl) (by simp) ?_
         refine AllReady.cons rfl (fun Kc hK=>?_) AllReady.nil
         go_simp
         refine(B2q dw.drew fj.drew' hB K (ch+1) fz).mono ?_
         rintro en w8 ⟨bl,hx⟩
         have cu:=(dl.drew').kp bl dh
         have cj:=(di.drew').kp bl dh
         have cw:=A0s (w:=w7.drew) ei bl (by omega)
         have d9:=A0s (w:=w7.drew) fh bl (by omega)
         have ba:=df.drew.trans bl
         cases hn:A1z K (ch+1) t7 with
         | error E=>
          rw[hn] at hx
          match E,hx with
          | none,hx=>exact hx.elim
          | some (c,t),hx=>
           obtain⟨ht,rfl⟩:=hx
           have HY:Hid (A0g K r = .error (some (c,t))):=by show _=_;rw[dg.out,HP.out,hn];rfl
           clear hn dg hK
           go_wp2
           exact⟨rfl,A0f ba HY.out ht⟩
         | ok p=>
          obtain⟨l,t8⟩:=p
          rw[hn] at hx
          obtain⟨ee,vl,rfl,fo⟩:=hx
          have f6:l.length≤3000:=by have:=B2r hn;omega
          have HI:Hid (A1z K (ch+1) t7 = .ok (l,t8)):=hn
          clear hn
          obtain⟨c0,c1,c2⟩:=A4s cw
          have eh:w.heap.size≤w8.heap.size:=ba.size
          have fd:F < w8.heap.size:=(Array.getElem?_eq_some_iff.1 cw).1
          refine hK _ _ ?_
          clear hK
          refine wpAny_ready (rs:=[5]) (by kernel_rfl) (by simp) ?_
          refine AllReady.cons rfl (fun Kc hK=>?_) AllReady.nil
          simp only[Region.wanted]
          have cg:=fo
          have ak:=cu
          have au:=cj
          have bq:=cw
          have bu:=d9
          have dx:=ee
          have dv:=ba
          refine A3f A3s _ _ rfl w.heap.size _ fs l rfl ak _ _ rfl cg (by(try simp);omega) eh ?_
          intro vn dy ah hgr
          obtain⟨bc,nn,ac,rfl,dn⟩:=ah.shape'
          obtain⟨fq,no,dp,rfl,dm⟩:=au.shape'
          have hown:=ak.own
          have bw:=dx.grown hgr (fun k hk=>by have:=(hown k hk).1;omega)
          have bv:=dv.grown hgr (fun k hk=>(hown k hk).1)
          have ag:=(hgr.block F (Array.getElem?_eq_some_iff.1 bq).1 (fun hh=>ak.ne_blk bq (by decide) hh.symm)).trans bq
          have br:=(hgr.block w.heap.size (Array.getElem?_eq_some_iff.1 bu).1 (fun hh=>ak.ne_blk bu (by decide) hh.symm)).trans bu
          have aw:=au.grown hgr (au.ne ak (by decide))
          obtain⟨_,k1,k2⟩:=A4s ag
          have g1:=A0b ag 1
          clear c0 c1 c2
          refine hK _ _ ?_
          clear hK
          refine wpAny_take (i:=6) (v:=.pointer (some ⟨F,1,none⟩)) rfl (by kernel_rfl) (by kernel_rfl) (by kernel_rfl) (fun _ _ _ h=>h) (Or.inl ⟨by rfl,by intro w;go_simp⟩) ?_
          refine wpAny_ready (rs:=[7]) (by kernel_rfl) (by simp) ?_
          refine AllReady.cons rfl (fun Kc hK=>?_) AllReady.nil
          go_simp
          refine hK _ _ ?_
          clear hK
          refine wpAny_done (by kernel_rfl) ?_ _
          have bg:=heap_setCell_same _ _ 1 _ _ (.slice bc nn ac) ag
          have bt:=(heap_setCell_other dy ⟨F,1,none⟩ w.heap.size (.slice bc nn ac) (by simp;omega)).trans br
          have aj:=bw.other (F:=F) (by omega) 1 (.slice bc nn ac)
          have a8:=bv.setNew (F:=F) (by omega) 1 (.slice bc nn ac)
          have bk:=ah.other (ah.ne_blk ag (by decide)) 1 (.slice bc nn ac)
          have bh:=aw.other (aw.ne_blk ag (by decide)) 1 (.slice bc nn ac)
          have bp:Hid (nn=(fs++l).length):=dn
          have bn:Hid (no=(bs).length):=dm
          obtain⟨_,c1,c2⟩:=A4s bg
          have HQ:Hid (A0g K r=if 16 < nn∨16 < no then .error (some (5,t8)) else A4h K k ⟨nm,fs++l,bs⟩ (ch+1) t8):=by show _=_;rw[dg.out,HP.out,HI.out,bp.out,bn.out];rfl
          have fx:nn≤10000:=by rw[bp.out];(try simp);omega
          have fw:no≤10000:=by rw[bn.out];(try simp);omega
          by_cases h16:16 < nn
          ·have HY:Hid (A0g K r = .error (some (5,t8))):=by show _=_;rw[HQ.out,if_pos (.inl h16)]
           go_wp2_with fail
           refine(A0o aj 5).mono ?_
           rintro en dz ⟨rfl,rfl⟩
           go_wp2
           exact⟨rfl,A0f a8 HY.out aj.2.1⟩
          ·have dr:¬ (16:Int) < (nn:Int):=by omega
           by_cases h17:16 < no
           ·have HY:Hid (A0g K r = .error (some (5,t8))):=by show _=_;rw[HQ.out,if_pos (.inr h17)]
            go_wp2_with fail
            refine(A0o aj 5).mono ?_
            rintro en dz ⟨rfl,rfl⟩
            go_wp2
            exact⟨rfl,A0f a8 HY.out aj.2.1⟩
           ·have dt:¬ (16:Int) < (no:Int):=by omega
            have HY:Hid (A0g K r=A4h K k ⟨nm,fs++l,bs⟩ (ch+1) t8):=by show _=_;rw[HQ.out,if_neg (by omega)]
            go_wp2_with fail
            go_roundg k
            case measure=>omega
            case rel=>exact⟨fs++l,bs,(ch+1),t8,_,_,by push_cast;rfl,bk,bh,bg,bt,aj,a8,by rw[←bp.out];omega,by rw[←bn.out];omega,by omega,HY⟩
        ·go_simp
         refine(B2q dw.drew fj.drew' hB K (ch+1) fz).mono ?_
         rintro en w8 ⟨bl,hx⟩
         have cu:=(dl.drew').kp bl dh
         have cj:=(di.drew').kp bl dh
         have cw:=A0s (w:=w7.drew) ei bl (by omega)
         have d9:=A0s (w:=w7.drew) fh bl (by omega)
         have ba:=df.drew.trans bl
         cases hn:A1z K (ch+1) t7 with
         | error E=>
          rw[hn] at hx
          match E,hx with
          | none,hx=>exact hx.elim
          | some (c,t),hx=>
           obtain⟨ht,rfl⟩:=hx
           have HY:Hid (A0g K r = .error (some (c,t))):=by show _=_;rw[dg.out,HP.out,hn];rfl
           clear hn dg hK
           go_wp2
           exact⟨rfl,A0f ba HY.out ht⟩
         | ok p=>
          obtain⟨l,t8⟩:=p
          rw[hn] at hx
          obtain⟨ee,vl,rfl,fo⟩:=hx
          have f6:l.length≤3000:=by have:=B2r hn;omega
          have HI:Hid (A1z K (ch+1) t7 = .ok (l,t8)):=hn
          clear hn
          obtain⟨c0,c1,c2⟩:=A4s cw
          have eh:w.heap.size≤w8.heap.size:=ba.size
          have fd:F < w8.heap.size:=(Array.getElem?_eq_some_iff.1 cw).1
          refine hK _ _ ?_
          clear hK
          refine wpAny_ready (rs:=[1]) (by kernel_rfl) (by simp) ?_
          refine AllReady.cons rfl (fun Kc hK=>?_) AllReady.nil
          go_simp
          refine hK _ _ ?_
          clear hK
          refine wpAny_ready (rs:=[5]) (by kernel_rfl) (by simp) ?_
          refine AllReady.cons rfl (fun Kc hK=>?_) AllReady.nil
          simp only[Region.wanted]
          have cg:=fo
          have ak:=cu
          have au:=cj
          have bq:=cw
          have bu:=d9
          have dx:=ee
          have dv:=ba
          refine A3f A3s _ _ rfl w.heap.size _ fs l rfl ak _ _ rfl cg (by(try simp);omega) eh ?_
          intro vn dy ah hgr
          obtain⟨bc,nn,ac,rfl,dn⟩:=ah.shape'
          obtain⟨fq,no,dp,rfl,dm⟩:=au.shape'
          have hown:=ak.own
          have bw:=dx.grown hgr (fun k hk=>by have:=(hown k hk).1;omega)
          have bv:=dv.grown hgr (fun k hk=>(hown k hk).1)
          have ag:=(hgr.block F (Array.getElem?_eq_some_iff.1 bq).1 (fun hh=>ak.ne_blk bq (by decide) hh.symm)).trans bq
          have br:=(hgr.block w.heap.size (Array.getElem?_eq_some_iff.1 bu).1 (fun hh=>ak.ne_blk bu (by decide) hh.symm)).trans bu
          have aw:=au.grown hgr (au.ne ak (by decide))
          obtain⟨_,k1,k2⟩:=A4s ag
          have g1:=A0b ag 1
          clear c0 c1 c2
          refine hK _ _ ?_
          clear hK
          refine wpAny_take (i:=6) (v:=.pointer (some ⟨F,1,none⟩)) rfl (by kernel_rfl) (by kernel_rfl) (by kernel_rfl) (fun _ _ _ h=>h) (Or.inl ⟨by rfl,by intro w;go_simp⟩) ?_
          refine wpAny_ready (rs:=[7]) (by kernel_rfl) (by simp) ?_
          refine AllReady.cons rfl (fun Kc hK=>?_) AllReady.nil
          go_simp
          refine hK _ _ ?_
          clear hK
          refine wpAny_done (by kernel_rfl) ?_ _
          have bg:=heap_setCell_same _ _ 1 _ _ (.slice bc nn ac) ag
          have bt:=(heap_setCell_other dy ⟨F,1,none⟩ w.heap.size (.slice bc nn ac) (by simp;omega)).trans br
          have aj:=bw.other (F:=F) (by omega) 1 (.slice bc nn ac)
          have a8:=bv.setNew (F:=F) (by omega) 1 (.slice bc nn ac)
          have bk:=ah.other (ah.ne_blk ag (by decide)) 1 (.slice bc nn ac)
          have bh:=aw.other (aw.ne_blk ag (by decide)) 1 (.slice bc nn ac)
          have bp:Hid (nn=(fs++l).length):=dn
          have bn:Hid (no=(bs).length):=dm
          obtain⟨_,c1,c2⟩:=A4s bg
          have HQ:Hid (A0g K r=if 16 < nn∨16 < no then .error (some (5,t8)) else A4h K k ⟨nm,fs++l,bs⟩ (ch+1) t8):=by show _=_;rw[dg.out,HP.out,HI.out,bp.out,bn.out];rfl
          have fx:nn≤10000:=by rw[bp.out];(try simp);omega
          have fw:no≤10000:=by rw[bn.out];(try simp);omega
          by_cases h16:16 < nn
          ·have HY:Hid (A0g K r = .error (some (5,t8))):=by show _=_;rw[HQ.out,if_pos (.inl h16)]
           go_wp2_with fail
           refine(A0o aj 5).mono ?_
           rintro en dz ⟨rfl,rfl⟩
           go_wp2
           exact⟨rfl,A0f a8 HY.out aj.2.1⟩
          ·have dr:¬ (16:Int) < (nn:Int):=by omega
           by_cases h17:16 < no
           ·have HY:Hid (A0g K r = .error (some (5,t8))):=by show _=_;rw[HQ.out,if_pos (.inr h17)]
            go_wp2_with fail
            refine(A0o aj 5).mono ?_
            rintro en dz ⟨rfl,rfl⟩
            go_wp2
            exact⟨rfl,A0f a8 HY.out aj.2.1⟩
           ·have dt:¬ (16:Int) < (no:Int):=by omega
            have HY:Hid (A0g K r=A4h K k ⟨nm,fs++l,bs⟩ (ch+1) t8):=by show _=_;rw[HQ.out,if_neg (by omega)]
            go_wp2_with fail
            go_roundg k
            case measure=>omega
            case rel=>exact⟨fs++l,bs,(ch+1),t8,_,_,by push_cast;rfl,bk,bh,bg,bt,aj,a8,by rw[←bp.out];omega,by rw[←bn.out];omega,by omega,HY⟩
       | false=>
        go_wp2_with fail
        refine(A4g f9 A3a (by decide)).mono ?_
        rintro en w7 ⟨rfl,dw,fu⟩
        have dl:=fc.kp fu dh
        have di:=eu.kp fu dh
        have ei:=A0s gh fu (by omega)
        have fh:=A0s gj fu (by omega)
        replace df:=df.trans fu
        clear fc eu f9 gh gj fu
        generalize hq7:B1b A3a t6=mq at dw ⊢
        obtain⟨many,t7⟩:=mq
        have HP:Hid (B6v K ⟨nm,fs,bs⟩ ch t3=R.thn (A2c many 0 t7) fun f u=>.ok ((⟨nm,fs++[f],bs⟩,ch),u)):=by show _=_;rw[B6v,hq];show(match B1b A7g t5 with|(true,t)=>_|(false,t)=>_)=_;rw[hq6];show R.thn (A2c (B1b A3a t6).1 0 (B1b A3a t6).2) _=_;rw[hq7]
        have fj:Gl B w7:=hg.kp hB dh df
        clear hq hq6 hq7
        go_wp2_with fail
        obtain⟨c0,c1,c2⟩:=A4s ei
        refine wp_region_any (by kernel_rfl) ?_
        change wpAny _ _ _ _ _ _ _ (World.drew _)
        refine wpAny_take (i:=0) (v:=.pointer (some ⟨F,1,none⟩)) rfl (by kernel_rfl) (by kernel_rfl) (by kernel_rfl) (fun _ _ _ h=>h) (Or.inl ⟨by rfl,by intro w;go_simp⟩) ?_
        refine wpAny_take (i:=2) (v:=.pointer (some ⟨b,0,none⟩)) rfl (by kernel_rfl) (by kernel_rfl) (by kernel_rfl) (fun _ _ _ h=>h) (Or.inl ⟨by rfl,by intro w;go_simp⟩) ?_
        refine wpAny_take (i:=3) (v:=.bool many) rfl (by kernel_rfl) (by kernel_rfl) (by kernel_rfl) (fun _ _ _ h=>h) (Or.inl ⟨by rfl,by intro w;go_simp⟩) ?_
        refine wpAny_ready (rs:=[1,4]) (by kernel_rfl) (by simp) ?_
        refine AllReady.cons rfl (fun Kc hK=>?_) (AllReady.cons rfl (fun Kc hK=>?_) AllReady.nil)
        ·go_simp
         refine hK _ _ ?_
         clear hK
         refine wpAny_ready (rs:=[4]) (by kernel_rfl) (by simp) ?_
         refine AllReady.cons rfl (fun Kc hK=>?_) AllReady.nil
         go_simp
         refine(A2w dw.drew fj.drew' hB many 0).mono ?_
         rintro en w8 ⟨bl,hx⟩
         have cu:=(dl.drew').kp bl dh
         have cj:=(di.drew').kp bl dh
         have cw:=A0s (w:=w7.drew) ei bl (by omega)
         have d9:=A0s (w:=w7.drew) fh bl (by omega)
         have ba:=df.drew.trans bl
         cases hn:A2c many 0 t7 with
         | error E=>
          rw[hn] at hx
          match E,hx with
          | none,hx=>exact hx.elim
          | some (c,t),hx=>
           obtain⟨ht,rfl⟩:=hx
           have HY:Hid (A0g K r = .error (some (c,t))):=by show _=_;rw[dg.out,HP.out,hn];rfl
           clear hn dg hK
           go_wp2
           exact⟨rfl,A0f ba HY.out ht⟩
         | ok p=>
          obtain⟨l,t8⟩:=p
          rw[hn] at hx
          obtain⟨ee,_,rfl,rfl⟩:=hx
          have f6:1≤3000:=by omega
          have HI:Hid (A2c many 0 t7 = .ok (l,t8)):=hn
          clear hn
          obtain⟨c0,c1,c2⟩:=A4s cw
          have eh:w.heap.size≤w8.heap.size:=ba.size
          have fd:F < w8.heap.size:=(Array.getElem?_eq_some_iff.1 cw).1
          refine hK _ _ ?_
          clear hK
          refine wpAny_ready (rs:=[5]) (by kernel_rfl) (by simp) ?_
          refine AllReady.cons rfl (fun Kc hK=>?_) AllReady.nil
          unfold A1m
          go_simp
          refine hK _ _ ?_
          clear hK
          refine wpAny_ready (rs:=[6]) (by kernel_rfl) (by simp) ?_
          refine AllReady.cons rfl (fun Kc hK=>?_) AllReady.nil
          simp only[Region.wanted]
          have cg:Row A3s (w8.alloc (.cells (A1m l).toArray 40)) w.heap.size (.slice (some ⟨w8.heap.size,0,none⟩) 1 1) [l]:=Row.one A3s w8 l eh
          have ak:Row A3s (w8.alloc (.cells (A1m l).toArray 40)) w.heap.size vf fs:=cu.below ((Below.refl _ _).alloc (Nat.le_refl _) _)
          have au:Row A5x (w8.alloc (.cells (A1m l).toArray 40)) w.heap.size vb bs:=cj.below ((Below.refl _ _).alloc (Nat.le_refl _) _)
          have bq:=(Below.heap_alloc w8 (.cells (A1m l).toArray 40) F fd).trans cw
          have bu:=(Below.heap_alloc w8 (.cells (A1m l).toArray 40) w.heap.size (by omega)).trans d9
          have dx:=ee.alloc (.cells (A1m l).toArray 40)
          have dv:=ba.alloc (.cells (A1m l).toArray 40)
          refine A3f A3s _ _ rfl w.heap.size _ fs [l] rfl ak _ _ rfl cg (by(try simp);omega) (by simp;omega) ?_
          intro vn dy ah hgr
          obtain⟨bc,nn,ac,rfl,dn⟩:=ah.shape'
          obtain⟨fq,no,dp,rfl,dm⟩:=au.shape'
          have hown:=ak.own
          have bw:=dx.grown hgr (fun k hk=>by have:=(hown k hk).1;omega)
          have bv:=dv.grown hgr (fun k hk=>(hown k hk).1)
          have ag:=(hgr.block F (Array.getElem?_eq_some_iff.1 bq).1 (fun hh=>ak.ne_blk bq (by decide) hh.symm)).trans bq
          have br:=(hgr.block w.heap.size (Array.getElem?_eq_some_iff.1 bu).1 (fun hh=>ak.ne_blk bu (by decide) hh.symm)).trans bu
          have aw:=au.grown hgr (au.ne ak (by decide))
          obtain⟨_,k1,k2⟩:=A4s ag
          have g1:=A0b ag 1
          clear c0 c1 c2
          refine hK _ _ ?_
          clear hK
          refine wpAny_take (i:=7) (v:=.pointer (some ⟨F,1,none⟩)) rfl (by kernel_rfl) (by kernel_rfl) (by kernel_rfl) (fun _ _ _ h=>h) (Or.inl ⟨by rfl,by intro w;go_simp⟩) ?_
          refine wpAny_ready (rs:=[8]) (by kernel_rfl) (by simp) ?_
          refine AllReady.cons rfl (fun Kc hK=>?_) AllReady.nil
          go_simp
          refine hK _ _ ?_
          clear hK
          refine wpAny_done (by kernel_rfl) ?_ _
          have bg:=heap_setCell_same _ _ 1 _ _ (.slice bc nn ac) ag
          have bt:=(heap_setCell_other dy ⟨F,1,none⟩ w.heap.size (.slice bc nn ac) (by simp;omega)).trans br
          have aj:=bw.other (F:=F) (by omega) 1 (.slice bc nn ac)
          have a8:=bv.setNew (F:=F) (by omega) 1 (.slice bc nn ac)
          have bk:=ah.other (ah.ne_blk ag (by decide)) 1 (.slice bc nn ac)
          have bh:=aw.other (aw.ne_blk ag (by decide)) 1 (.slice bc nn ac)
          have bp:Hid (nn=(fs++[l]).length):=dn
          have bn:Hid (no=(bs).length):=dm
          obtain⟨_,c1,c2⟩:=A4s bg
          have HQ:Hid (A0g K r=if 16 < nn∨16 < no then .error (some (5,t8)) else A4h K k ⟨nm,fs++[l],bs⟩ ch t8):=by show _=_;rw[dg.out,HP.out,HI.out,bp.out,bn.out];rfl
          have fx:nn≤10000:=by rw[bp.out];(try simp);omega
          have fw:no≤10000:=by rw[bn.out];(try simp);omega
          by_cases h16:16 < nn
          ·have HY:Hid (A0g K r = .error (some (5,t8))):=by show _=_;rw[HQ.out,if_pos (.inl h16)]
           go_wp2_with fail
           refine(A0o aj 5).mono ?_
           rintro en dz ⟨rfl,rfl⟩
           go_wp2
           exact⟨rfl,A0f a8 HY.out aj.2.1⟩
          ·have dr:¬ (16:Int) < (nn:Int):=by omega
           by_cases h17:16 < no
           ·have HY:Hid (A0g K r = .error (some (5,t8))):=by show _=_;rw[HQ.out,if_pos (.inr h17)]
            go_wp2_with fail
            refine(A0o aj 5).mono ?_
            rintro en dz ⟨rfl,rfl⟩
            go_wp2
            exact⟨rfl,A0f a8 HY.out aj.2.1⟩
           ·have dt:¬ (16:Int) < (no:Int):=by omega
            have HY:Hid (A0g K r=A4h K k ⟨nm,fs++[l],bs⟩ ch t8):=by show _=_;rw[HQ.out,if_neg (by omega)]
            go_wp2_with fail
            go_roundg k
            case measure=>omega
            case rel=>exact⟨fs++[l],bs,ch,t8,_,_,rfl,bk,bh,bg,bt,aj,a8,by rw[←bp.out];omega,by rw[←bn.out];omega,by omega,HY⟩
        ·go_simp
         refine(A2w dw.drew fj.drew' hB many 0).mono ?_
         rintro en w8 ⟨bl,hx⟩
         have cu:=(dl.drew').kp bl dh
         have cj:=(di.drew').kp bl dh
         have cw:=A0s (w:=w7.drew) ei bl (by omega)
         have d9:=A0s (w:=w7.drew) fh bl (by omega)
         have ba:=df.drew.trans bl
         cases hn:A2c many 0 t7 with
         | error E=>
          rw[hn] at hx
          match E,hx with
          | none,hx=>exact hx.elim
          | some (c,t),hx=>
           obtain⟨ht,rfl⟩:=hx
           have HY:Hid (A0g K r = .error (some (c,t))):=by show _=_;rw[dg.out,HP.out,hn];rfl
           clear hn dg hK
           go_wp2
           exact⟨rfl,A0f ba HY.out ht⟩
         | ok p=>
          obtain⟨l,t8⟩:=p
          rw[hn] at hx
          obtain⟨ee,_,rfl,rfl⟩:=hx
          have f6:1≤3000:=by omega
          have HI:Hid (A2c many 0 t7 = .ok (l,t8)):=hn
          clear hn
          obtain⟨c0,c1,c2⟩:=A4s cw
          have eh:w.heap.size≤w8.heap.size:=ba.size
          have fd:F < w8.heap.size:=(Array.getElem?_eq_some_iff.1 cw).1
          refine hK _ _ ?_
          clear hK
          refine wpAny_ready (rs:=[1,5]) (by kernel_rfl) (by simp) ?_
          refine AllReady.cons rfl (fun Kc hK=>?_) (AllReady.cons rfl (fun Kc hK=>?_) AllReady.nil)
          rotate_right
          focus
           unfold A1m
           go_simp
           refine hK _ _ ?_
           clear hK
           refine wpAny_ready (rs:=[1]) (by kernel_rfl) (by simp) ?_
           refine AllReady.cons rfl (fun Kc hK=>?_) AllReady.nil
          rotate_right
          focus
           go_simp
           refine hK _ _ ?_
           clear hK
           refine wpAny_ready (rs:=[5]) (by kernel_rfl) (by simp) ?_
           refine AllReady.cons rfl (fun Kc hK=>?_) AllReady.nil
           unfold A1m
          all_goals
           go_simp
           refine hK _ _ ?_
           clear hK
           refine wpAny_ready (rs:=[6]) (by kernel_rfl) (by simp) ?_
           refine AllReady.cons rfl (fun Kc hK=>?_) AllReady.nil
           simp only[Region.wanted]
           have cg:Row A3s (w8.alloc (.cells (A1m l).toArray 40)) w.heap.size (.slice (some ⟨w8.heap.size,0,none⟩) 1 1) [l]:=Row.one A3s w8 l eh
           have ak:Row A3s (w8.alloc (.cells (A1m l).toArray 40)) w.heap.size vf fs:=cu.below ((Below.refl _ _).alloc (Nat.le_refl _) _)
           have au:Row A5x (w8.alloc (.cells (A1m l).toArray 40)) w.heap.size vb bs:=cj.below ((Below.refl _ _).alloc (Nat.le_refl _) _)
           have bq:=(Below.heap_alloc w8 (.cells (A1m l).toArray 40) F fd).trans cw
           have bu:=(Below.heap_alloc w8 (.cells (A1m l).toArray 40) w.heap.size (by omega)).trans d9
           have dx:=ee.alloc (.cells (A1m l).toArray 40)
           have dv:=ba.alloc (.cells (A1m l).toArray 40)
           refine A3f A3s _ _ rfl w.heap.size _ fs [l] rfl ak _ _ rfl cg (by(try simp);omega) (by simp;omega) ?_
           intro vn dy ah hgr
           obtain⟨bc,nn,ac,rfl,dn⟩:=ah.shape'
           obtain⟨fq,no,dp,rfl,dm⟩:=au.shape'
           have hown:=ak.own
           have bw:=dx.grown hgr (fun k hk=>by have:=(hown k hk).1;omega)
           have bv:=dv.grown hgr (fun k hk=>(hown k hk).1)
           have ag:=(hgr.block F (Array.getElem?_eq_some_iff.1 bq).1 (fun hh=>ak.ne_blk bq (by decide) hh.symm)).trans bq
           have br:=(hgr.block w.heap.size (Array.getElem?_eq_some_iff.1 bu).1 (fun hh=>ak.ne_blk bu (by decide) hh.symm)).trans bu
           have aw:=au.grown hgr (au.ne ak (by decide))
           obtain⟨_,k1,k2⟩:=A4s ag
           have g1:=A0b ag 1
           clear c0 c1 c2
           refine hK _ _ ?_
           clear hK
           refine wpAny_take (i:=7) (v:=.pointer (some ⟨F,1,none⟩)) rfl (by kernel_rfl) (by kernel_rfl) (by kernel_rfl) (fun _ _ _ h=>h) (Or.inl ⟨by rfl,by intro w;go_simp⟩) ?_
           refine wpAny_ready (rs:=[8]) (by kernel_rfl) (by simp) ?_
           refine AllReady.cons rfl (fun Kc hK=>?_) AllReady.nil
           go_simp
           refine hK _ _ ?_
           clear hK
           refine wpAny_done (by kernel_rfl) ?_ _
           have bg:=heap_setCell_same _ _ 1 _ _ (.slice bc nn ac) ag
           have bt:=(heap_setCell_other dy ⟨F,1,none⟩ w.heap.size (.slice bc nn ac) (by simp;omega)).trans br
           have aj:=bw.other (F:=F) (by omega) 1 (.slice bc nn ac)
           have a8:=bv.setNew (F:=F) (by omega) 1 (.slice bc nn ac)
           have bk:=ah.other (ah.ne_blk ag (by decide)) 1 (.slice bc nn ac)
           have bh:=aw.other (aw.ne_blk ag (by decide)) 1 (.slice bc nn ac)
           have bp:Hid (nn=(fs++[l]).length):=dn
           have bn:Hid (no=(bs).length):=dm
           obtain⟨_,c1,c2⟩:=A4s bg
           have HQ:Hid (A0g K r=if 16 < nn∨16 < no then .error (some (5,t8)) else A4h K k ⟨nm,fs++[l],bs⟩ ch t8):=by show _=_;rw[dg.out,HP.out,HI.out,bp.out,bn.out];rfl
           have fx:nn≤10000:=by rw[bp.out];(try simp);omega
           have fw:no≤10000:=by rw[bn.out];(try simp);omega
           by_cases h16:16 < nn
           ·have HY:Hid (A0g K r = .error (some (5,t8))):=by show _=_;rw[HQ.out,if_pos (.inl h16)]
            go_wp2_with fail
            refine(A0o aj 5).mono ?_
            rintro en dz ⟨rfl,rfl⟩
            go_wp2
            exact⟨rfl,A0f a8 HY.out aj.2.1⟩
           ·have dr:¬ (16:Int) < (nn:Int):=by omega
            by_cases h17:16 < no
            ·have HY:Hid (A0g K r = .error (some (5,t8))):=by show _=_;rw[HQ.out,if_pos (.inr h17)]
             go_wp2_with fail
             refine(A0o aj 5).mono ?_
             rintro en dz ⟨rfl,rfl⟩
             go_wp2
             exact⟨rfl,A0f a8 HY.out aj.2.1⟩
            ·have dt:¬ (16:Int) < (no:Int):=by omega
             have HY:Hid (A0g K r=A4h K k ⟨nm,fs++[l],bs⟩ ch t8):=by show _=_;rw[HQ.out,if_neg (by omega)]
             go_wp2_with fail
             go_roundg k
             case measure=>omega
             case rel=>exact⟨fs++[l],bs,ch,t8,_,_,rfl,bk,bh,bg,bt,aj,a8,by rw[←bp.out];omega,by rw[←bn.out];omega,by omega,HY⟩
end Go.Proofs.YtgaoojpakjjdnaaGreatDoor
