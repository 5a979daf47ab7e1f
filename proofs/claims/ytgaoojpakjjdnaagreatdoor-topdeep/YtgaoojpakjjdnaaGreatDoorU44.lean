import Derived.Test.YtgaoojpakjjdnaaGreatDoorU43
set_option maxHeartbeats 32000000
set_option maxRecDepth 100000
namespace Go.Proofs.YtgaoojpakjjdnaaGreatDoor
open Go.RowKit
theorem A4e {w:World}{g:Nat}{a0 a1 a2:Value}{t:TypeId}(h:w.heap[g]?=some (.cells #[a0,a1,a2] t (0,0))) :
  w.cell? ⟨g,0,none⟩=some a0∧w.cell? ⟨g,1,none⟩=some a1∧w.cell? ⟨g,2,none⟩=some a2:=⟨A0a h 0 _ rfl,A0a h 1 _ rfl,A0a h 2 _ rfl⟩
def D1x (w:World) (base:Nat) (x:Msg) (v:Value):Prop:=∃ vf vb,v = .agg #[.string (S x.name),vf,vb]∧Row A3h w base vf x.fields∧Row A5c w base vb x.barred
theorem A2c {B b:Nat}{txt r:List UInt8}{m e:Value}{w:World}(h:St w b txt r m e) (hg:Gl B w) (hB:B≤b) (K:Nat) (im:K≤1000000) (hN:A0g K r≠.error none) :
  Calls Tryz.prog 191 #[.pointer (some ⟨b,0,none⟩)] w (B9z b txt m e w (fun x v w'=>D1x w' w.heap.size x v) (A0g K r)):=by
 have di:=h.lt
 have HN:Hid (A0g K r≠.error none):=hN
 have HX:Hid (A0g K r=R.thn (A3f r) fun nm u=>R.thn (A1k 123 u) fun _ u=>A3t K K ⟨nm,[],[]⟩ 0 u):=rfl
 clear hN
 go_enter Tryz.func191,Tryz.ntmps191
 go_wp2_with fail
 refine(A7f (h.alloc _)).mono ?_
 rintro en w1 ⟨gp,hx⟩
 have hR:w1.heap[w.heap.size]?=some (.cells #[.string ⟨#[]⟩,.slice none 0 0,.slice none 0 0] 38 (0,0)):=A0q (heap_alloc_new w _) gp (by omega)
 have hz1:w.heap.size+1≤w1.heap.size:=by have:=gp.size;simpa using this
 have dg:Kp b w w1:=((Kp.refl b w).alloc _).trans gp
 clear gp
 cases hn:A3f r with
 | error E=>
  rw[hn] at hx
  match E,hx with
  | none,hx=>exact hx.elim
  | some (c,t),hx=>
   obtain⟨ht,rfl⟩:=hx
   have HY:Hid (A0g K r = .error (some (c,t))):=by show _=_;rw[HX.out,hn];rfl
   clear hn HX
   go_wp2
   exact⟨rfl,A0f dg HY.out ht⟩
 | ok p=>
  obtain⟨nm,t1⟩:=p
  rw[hn] at hx
  obtain⟨hs1,_,rfl,rfl⟩:=hx
  have gg:Hid (A0g K r=R.thn (A1k 123 t1) fun _ u=>A3t K K ⟨nm,[],[]⟩ 0 u):=by show _=_;rw[HX.out,hn];rfl
  clear hn HX
  have hF2:=heap_alloc_new w1 (.cells #[.string (S nm),.slice none 0 0,.slice none 0 0] 38)
  have ie:=(Below.heap_alloc w1 (.cells #[.string (S nm),.slice none 0 0,.slice none 0 0] 38) w.heap.size (by omega)).trans hR
  have hs2:=hs1.alloc (.cells #[.string (S nm),.slice none 0 0,.slice none 0 0] 38)
  have hk2:=dg.alloc (.cells #[.string (S nm),.slice none 0 0,.slice none 0 0] 38)
  clear dg hR hs1
  go_wp2_with fail
  generalize w1.alloc (.cells #[.string (S nm),.slice none 0 0,.slice none 0 0] 38)=W2 at *
  obtain⟨F,gz⟩:∃ F,Hid (F=w1.heap.size):=⟨_,rfl⟩
  have il:w.heap.size+1≤F:=by rw[gz.out];exact hz1
  rw[←gz.out] at hF2 ⊢
  clear hz1
  refine(A3j hs2 123).mono ?_
  rintro en w3 ⟨hk3,hx⟩
  have g9:=A0q hF2 hk3 (by omega)
  have ig:=A0q ie hk3 (by omega)
  have dg:=hk2.trans hk3
  clear hF2 ie hs2 hk2 hk3
  cases hn:A1k 123 t1 with
  | error E=>
   rw[hn] at hx
   match E,hx with
   | none,hx=>exact hx.elim
   | some (c,t),hx=>
    obtain⟨ht,rfl⟩:=hx
    have HY:Hid (A0g K r = .error (some (c,t))):=by show _=_;rw[gg.out,hn];rfl
    clear hn gg
    go_wp2
    exact⟨rfl,A0f dg HY.out ht⟩
  | ok p=>
   obtain⟨_,t2⟩:=p
   rw[hn] at hx
   obtain⟨hs3,_,rfl,rfl⟩:=hx
   have g7:Hid (A0g K r=A3t K K ⟨nm,[],[]⟩ 0 t2):=by show _=_;rw[gg.out,hn];rfl
   clear hn gg
   go_wp2_with fail
   go_loopg [4] K (fun k sc wr=>∃ fs bs ch q vf vb,sc = .int .i64 ((ch:Nat):Int)∧Row A3h wr w.heap.size vf fs∧Row A5c wr w.heap.size vb bs∧wr.heap[F]?=some (.cells #[.string (S nm),vf,vb] 38 (0,0))∧wr.heap[w.heap.size]?=some (.cells #[.string ⟨#[]⟩,.slice none 0 0,.slice none 0 0] 38 (0,0))∧St wr b txt q m e∧Kp b w wr∧fs.length≤16∧bs.length≤16∧ch+k≤K∧Hid (A0g K r=A3t K k ⟨nm,fs,bs⟩ ch q))
   case atStart=>exact⟨[],[],0,t2,.slice none 0 0,.slice none 0 0,rfl,Row.nil _ _ _,Row.nil _ _ _,g9,ig,hs3,dg,by simp,by simp,by omega,g7⟩
   case round=>
    clear g9 ig hs3 dg g7
    obtain⟨fs,bs,ch,q,vf,vb,rfl,ij,ii,hF,hR,hs,hk,ip,io,hch,HR⟩:=hrel
    cases gk with
    | zero=>exact absurd HR.out HN.out
    | succ k=>
     go_wp2_with fail
     refine(A5u hs 125).mono ?_
     rintro en w4 ⟨rfl,gq,hk4⟩
     have et:=ij.kp hk4 di
     have eo:=ii.kp hk4 di
     have gy:=A0q hF hk4 (by omega)
     have fe:=A0q hR hk4 (by omega)
     have dg:=hk.trans hk4
     clear ij ii hs hk hF hR hk4
     generalize hq:A2z 125 q=mq at gq ⊢
     obtain⟨ok,t3⟩:=mq
     cases ok with
     | true=>
      have dh:Hid (A0g K r = .ok (⟨nm,fs,bs⟩,t3)):=by show _=_;rw[HR.out,A3t,hq]
      clear hq HR
      obtain⟨c0,c1,c2⟩:=A4e gy
      obtain⟨d0,d1,d2⟩:=A4e fe
      have g0:=A0b fe 0
      have g1:=A0b fe 1
      have g2:=A0b fe 2
      obtain⟨ao,nf,cap,rfl,_⟩:=et.shape'
      obtain⟨g8,nb,fy,rfl,_⟩:=eo.shape'
      go_wp2
      refine bodyPost_ret (v:=.agg #[.string (S nm),.slice ao nf cap,.slice g8 nb fy]) (by simp[results,Tryz.results191,go_sem, *]) rfl ?_
      have fk:=((dg.setNew (F:=w.heap.size) (by omega) 0 (.string (S nm))).setNew (F:=w.heap.size) (by omega) 1 (.slice ao nf cap)).setNew (F:=w.heap.size) (by omega) 2 (.slice g8 nb fy)
      refine A3u fk dh.out (((gq.other (by omega) _ _).other (by omega) _ _).other (by omega) _ _) ⟨_,_,rfl,?_,?_⟩
      ·have hb:=et.ne_blk fe (by decide)
       exact((et.other hb _ _).other hb _ _).other hb _ _
      ·have hb:=eo.ne_blk fe (by decide)
       exact((eo.other hb _ _).other hb _ _).other hb _ _
     | false=>
      have dh:Hid (A0g K r=R.thn (B3w K ⟨nm,fs,bs⟩ ch t3) fun p u=>if 16 < p.1.fields.length∨16 < p.1.barred.length then .error (some (5,u)) else A3t K k p.1 p.2 u):=by show _=_;rw[HR.out,A3t,hq]
      clear hq HR
      go_wp2_with fail
      refine(A3s gq A4l (by decide)).mono ?_
      rintro en w5 ⟨rfl,hs5,fk⟩
      have ey:=et.kp fk di
      have eu:=eo.kp fk di
      have gh:=A0q gy fk (by omega)
      have gj:=A0q fe fk (by omega)
      replace dg:=dg.trans fk
      clear et eo gq gy fe fk
      generalize hq:A9k A4l t3=mq at hs5 ⊢
      obtain⟨ok,t5⟩:=mq
      cases ok with
      | true=>
       obtain⟨w7,gw⟩:∃ w7,w7=w5:=⟨_,rfl⟩
       obtain⟨t7,gu⟩:∃ t7,t7=t5:=⟨_,rfl⟩
       subst gw gu
       have HP:Hid (B3w K ⟨nm,fs,bs⟩ ch t3=R.thn (A0x K t7) fun l u=>.ok ((⟨nm,fs,bs++l⟩,ch),u)):=by show _=_;rw[B3w,hq]
       have fz:A0x K t7≠.error none:=by intro hh;apply HN.out;rw[dh.out,HP.out,hh];rfl
       have dx:St w7 b txt t7 m e:=hs5
       have dm:=ey
       have dl:=eu
       have ej:=gh
       have fh:=gj
       have fj:Gl B w7:=hg.kp hB di dg
       have ik:t7.length≤3000:=by have:=dx.1;have:=dx.2.1;omega
       clear hq hs5 ey eu gh gj
       go_wp2_with fail
       obtain⟨c0,c1,c2⟩:=A4e ej
       refine wp_region_any (by kernel_rfl) ?_
       change wpAny _ _ _ _ _ _ _ (World.drew _)
       refine wpAny_take (i:=0) (v:=.pointer (some ⟨F,2,none⟩)) rfl (by kernel_rfl) (by kernel_rfl) (by kernel_rfl) (fun _ _ _ h=>h) (Or.inl ⟨by rfl,by intro w;go_simp⟩) ?_
       refine wpAny_take (i:=2) (v:=.pointer (some ⟨b,0,none⟩)) rfl (by kernel_rfl) (by kernel_rfl) (by kernel_rfl) (fun _ _ _ h=>h) (Or.inl ⟨by rfl,by intro w;go_simp⟩) ?_
       refine wpAny_ready (rs:=[1,3]) (by kernel_rfl) (by simp) ?_
       refine AllReady.cons rfl (fun Kc hK=>?_) (AllReady.cons rfl (fun Kc hK=>?_) AllReady.nil)
       ·go_simp
        refine hK _ _ ?_
        clear hK
        refine wpAny_ready (rs:=[3]) (by kernel_rfl) (by simp) ?_
        refine AllReady.cons rfl (fun Kc hK=>?_) AllReady.nil
        go_simp
        refine(A8j dx.drew fj.drew' hB K fz).mono ?_
        rintro en w8 ⟨bn,hx⟩
        have cw:=(dm.drew').kp bn di
        have cu:=(dl.drew').kp bn di
        have df:=A0q (w:=w7.drew) ej bn (by omega)
        have ee:=A0q (w:=w7.drew) fh bn (by omega)
        have bc:=dg.drew.trans bn
        cases hn:A0x K t7 with
        | error E=>
         rw[hn] at hx
         match E,hx with
         | none,hx=>exact hx.elim
         | some (c,t),hx=>
          obtain⟨ht,rfl⟩:=hx
          have HY:Hid (A0g K r = .error (some (c,t))):=by show _=_;rw[dh.out,HP.out,hn];rfl
          clear hn dh hK
          go_wp2
          exact⟨rfl,A0f bc HY.out ht⟩
        | ok p=>
         obtain⟨l,t8⟩:=p
         rw[hn] at hx
         obtain⟨eh,vl,rfl,fo⟩:=hx
         have f9:l.length≤3000:=by have:=A8k hn;omega
         have HI:Hid (A0x K t7 = .ok (l,t8)):=hn
         clear hn
         obtain⟨c0,c1,c2⟩:=A4e df
         have ei:w.heap.size≤w8.heap.size:=bc.size
         have fd:F < w8.heap.size:=(Array.getElem?_eq_some_iff.1 df).1
         refine hK _ _ ?_
         clear hK
         refine wpAny_ready (rs:=[4]) (by kernel_rfl) (by simp) ?_
         refine AllReady.cons rfl (fun Kc hK=>?_) AllReady.nil
         simp only[Region.wanted]
         have cj:=fo
         have ak:=cw
         have au:=cu
         have br:=df
         have bv:=ee
         have dy:=eh
         have dw:=bc
         refine A2t A5c _ _ rfl w.heap.size _ bs l rfl au _ _ rfl cj (by(try simp);omega) ei ?_
         intro vn dz ah hgr
         obtain⟨bg,nn,ac,rfl,dp⟩:=ah.shape'
         obtain⟨fq,no,dr,rfl,dn⟩:=ak.shape'
         have hown:=au.own
         have cg:=dy.grown hgr (fun k hk=>by have:=(hown k hk).1;omega)
         have bw:=dw.grown hgr (fun k hk=>(hown k hk).1)
         have ag:=(hgr.block F (Array.getElem?_eq_some_iff.1 br).1 (fun hh=>au.ne_blk br (by decide) hh.symm)).trans br
         have bt:=(hgr.block w.heap.size (Array.getElem?_eq_some_iff.1 bv).1 (fun hh=>au.ne_blk bv (by decide) hh.symm)).trans bv
         have aw:=ak.grown hgr (ak.ne au (by decide))
         obtain⟨_,k1,k2⟩:=A4e ag
         have g1:=A0b ag 2
         clear c0 c1 c2
         refine hK _ _ ?_
         clear hK
         refine wpAny_take (i:=5) (v:=.pointer (some ⟨F,2,none⟩)) rfl (by kernel_rfl) (by kernel_rfl) (by kernel_rfl) (fun _ _ _ h=>h) (Or.inl ⟨by rfl,by intro w;go_simp⟩) ?_
         refine wpAny_ready (rs:=[6]) (by kernel_rfl) (by simp) ?_
         refine AllReady.cons rfl (fun Kc hK=>?_) AllReady.nil
         go_simp
         refine hK _ _ ?_
         clear hK
         refine wpAny_done (by kernel_rfl) ?_ _
         have bh:=heap_setCell_same _ _ 2 _ _ (.slice bg nn ac) ag
         have bu:=(heap_setCell_other dz ⟨F,2,none⟩ w.heap.size (.slice bg nn ac) (by simp;omega)).trans bt
         have aj:=cg.other (F:=F) (by omega) 2 (.slice bg nn ac)
         have ba:=bw.setNew (F:=F) (by omega) 2 (.slice bg nn ac)
         have bk:=ah.other (ah.ne_blk ag (by decide)) 2 (.slice bg nn ac)
         have bl:=aw.other (aw.ne_blk ag (by decide)) 2 (.slice bg nn ac)
         have bq:Hid (no=(fs).length):=dn
         have bp:Hid (nn=(bs++l).length):=dp
         obtain⟨_,c1,c2⟩:=A4e bh
         have HQ:Hid (A0g K r=if 16 < no∨16 < nn then .error (some (5,t8)) else A3t K k ⟨nm,fs,bs++l⟩ ch t8):=by show _=_;rw[dh.out,HP.out,HI.out,bq.out,bp.out];rfl
         have fx:no≤10000:=by rw[bq.out];(try simp);omega
         have fw:nn≤10000:=by rw[bp.out];(try simp);omega
         by_cases h16:16 < no
         ·have HY:Hid (A0g K r = .error (some (5,t8))):=by show _=_;rw[HQ.out,if_pos (.inl h16)]
          go_wp2_with fail
          refine(A0n aj 5).mono ?_
          rintro en d9 ⟨rfl,rfl⟩
          go_wp2
          exact⟨rfl,A0f ba HY.out aj.2.1⟩
         ·have dt:¬ (16:Int) < (no:Int):=by omega
          by_cases h17:16 < nn
          ·have HY:Hid (A0g K r = .error (some (5,t8))):=by show _=_;rw[HQ.out,if_pos (.inr h17)]
           go_wp2_with fail
           refine(A0n aj 5).mono ?_
           rintro en d9 ⟨rfl,rfl⟩
           go_wp2
           exact⟨rfl,A0f ba HY.out aj.2.1⟩
          ·have dv:¬ (16:Int) < (nn:Int):=by omega
           have HY:Hid (A0g K r=A3t K k ⟨nm,fs,bs++l⟩ ch t8):=by show _=_;rw[HQ.out,if_neg (by omega)]
           go_wp2_with fail
           go_roundg k
           case measure=>omega
           case rel=>exact⟨fs,bs++l,ch,t8,_,_,rfl,bl,bk,bh,bu,aj,ba,by rw[←bq.out];omega,by rw[←bp.out];omega,by omega,HY⟩
       ·go_simp
        refine(A8j dx.drew fj.drew' hB K fz).mono ?_
        rintro en w8 ⟨bn,hx⟩
        have cw:=(dm.drew').kp bn di
        have cu:=(dl.drew').kp bn di
        have df:=A0q (w:=w7.drew) ej bn (by omega)
        have ee:=A0q (w:=w7.drew) fh bn (by omega)
        have bc:=dg.drew.trans bn
        cases hn:A0x K t7 with
        | error E=>
         rw[hn] at hx
         match E,hx with
         | none,hx=>exact hx.elim
         | some (c,t),hx=>
          obtain⟨ht,rfl⟩:=hx
          have HY:Hid (A0g K r = .error (some (c,t))):=by show _=_;rw[dh.out,HP.out,hn];rfl
          clear hn dh hK
          go_wp2
          exact⟨rfl,A0f bc HY.out ht⟩
        | ok p=>
         obtain⟨l,t8⟩:=p
         rw[hn] at hx
         obtain⟨eh,vl,rfl,fo⟩:=hx
         have f9:l.length≤3000:=by have:=A8k hn;omega
         have HI:Hid (A0x K t7 = .ok (l,t8)):=hn
         clear hn
         obtain⟨c0,c1,c2⟩:=A4e df
         have ei:w.heap.size≤w8.heap.size:=bc.size
         have fd:F < w8.heap.size:=(Array.getElem?_eq_some_iff.1 df).1
         refine hK _ _ ?_
         clear hK
         refine wpAny_ready (rs:=[1]) (by kernel_rfl) (by simp) ?_
         refine AllReady.cons rfl (fun Kc hK=>?_) AllReady.nil
         go_simp
         refine hK _ _ ?_
         clear hK
         refine wpAny_ready (rs:=[4]) (by kernel_rfl) (by simp) ?_
         refine AllReady.cons rfl (fun Kc hK=>?_) AllReady.nil
         simp only[Region.wanted]
         have cj:=fo
         have ak:=cw
         have au:=cu
         have br:=df
         have bv:=ee
         have dy:=eh
         have dw:=bc
         refine A2t A5c _ _ rfl w.heap.size _ bs l rfl au _ _ rfl cj (by(try simp);omega) ei ?_
         intro vn dz ah hgr
         obtain⟨bg,nn,ac,rfl,dp⟩:=ah.shape'
         obtain⟨fq,no,dr,rfl,dn⟩:=ak.shape'
         have hown:=au.own
         have cg:=dy.grown hgr (fun k hk=>by have:=(hown k hk).1;omega)
         have bw:=dw.grown hgr (fun k hk=>(hown k hk).1)
         have ag:=(hgr.block F (Array.getElem?_eq_some_iff.1 br).1 (fun hh=>au.ne_blk br (by decide) hh.symm)).trans br
         have bt:=(hgr.block w.heap.size (Array.getElem?_eq_some_iff.1 bv).1 (fun hh=>au.ne_blk bv (by decide) hh.symm)).trans bv
         have aw:=ak.grown hgr (ak.ne au (by decide))
         obtain⟨_,k1,k2⟩:=A4e ag
         have g1:=A0b ag 2
         clear c0 c1 c2
         refine hK _ _ ?_
         clear hK
         refine wpAny_take (i:=5) (v:=.pointer (some ⟨F,2,none⟩)) rfl (by kernel_rfl) (by kernel_rfl) (by kernel_rfl) (fun _ _ _ h=>h) (Or.inl ⟨by rfl,by intro w;go_simp⟩) ?_
         refine wpAny_ready (rs:=[6]) (by kernel_rfl) (by simp) ?_
         refine AllReady.cons rfl (fun Kc hK=>?_) AllReady.nil
         go_simp
         refine hK _ _ ?_
         clear hK
         refine wpAny_done (by kernel_rfl) ?_ _
         have bh:=heap_setCell_same _ _ 2 _ _ (.slice bg nn ac) ag
         have bu:=(heap_setCell_other dz ⟨F,2,none⟩ w.heap.size (.slice bg nn ac) (by simp;omega)).trans bt
         have aj:=cg.other (F:=F) (by omega) 2 (.slice bg nn ac)
         have ba:=bw.setNew (F:=F) (by omega) 2 (.slice bg nn ac)
         have bk:=ah.other (ah.ne_blk ag (by decide)) 2 (.slice bg nn ac)
         have bl:=aw.other (aw.ne_blk ag (by decide)) 2 (.slice bg nn ac)
         have bq:Hid (no=(fs).length):=dn
         have bp:Hid (nn=(bs++l).length):=dp
         obtain⟨_,c1,c2⟩:=A4e bh
         have HQ:Hid (A0g K r=if 16 < no∨16 < nn then .error (some (5,t8)) else A3t K k ⟨nm,fs,bs++l⟩ ch t8):=by show _=_;rw[dh.out,HP.out,HI.out,bq.out,bp.out];rfl
         have fx:no≤10000:=by rw[bq.out];(try simp);omega
         have fw:nn≤10000:=by rw[bp.out];(try simp);omega
         by_cases h16:16 < no
         ·have HY:Hid (A0g K r = .error (some (5,t8))):=by show _=_;rw[HQ.out,if_pos (.inl h16)]
          go_wp2_with fail
          refine(A0n aj 5).mono ?_
          rintro en d9 ⟨rfl,rfl⟩
          go_wp2
          exact⟨rfl,A0f ba HY.out aj.2.1⟩
         ·have dt:¬ (16:Int) < (no:Int):=by omega
          by_cases h17:16 < nn
          ·have HY:Hid (A0g K r = .error (some (5,t8))):=by show _=_;rw[HQ.out,if_pos (.inr h17)]
           go_wp2_with fail
           refine(A0n aj 5).mono ?_
           rintro en d9 ⟨rfl,rfl⟩
           go_wp2
           exact⟨rfl,A0f ba HY.out aj.2.1⟩
          ·have dv:¬ (16:Int) < (nn:Int):=by omega
           have HY:Hid (A0g K r=A3t K k ⟨nm,fs,bs++l⟩ ch t8):=by show _=_;rw[HQ.out,if_neg (by omega)]
           go_wp2_with fail
           go_roundg k
           case measure=>omega
           case rel=>exact⟨fs,bs++l,ch,t8,_,_,rfl,bl,bk,bh,bu,aj,ba,by rw[←bq.out];omega,by rw[←bp.out];omega,by omega,HY⟩
      | false=>
       go_wp2_with fail
       refine(A3s hs5 A6i (by decide)).mono ?_
       rintro en w6 ⟨rfl,gc,ft⟩
       have fc:=ey.kp ft di
       have ew:=eu.kp ft di
       have gi:=A0q gh ft (by omega)
       have gl:=A0q gj ft (by omega)
       replace dg:=dg.trans ft
       clear ey eu hs5 gh gj ft
       generalize hq6:A9k A6i t5=mq at gc ⊢
       obtain⟨ok,t6⟩:=mq
       cases ok with
       | true=>
        obtain⟨w7,gw⟩:∃ w7,w7=w6:=⟨_,rfl⟩
        obtain⟨t7,gu⟩:∃ t7,t7=t6:=⟨_,rfl⟩
        subst gw gu
        have HP:Hid (B3w K ⟨nm,fs,bs⟩ ch t3=R.thn (A1r K (ch+1) t7) fun l u=>.ok ((⟨nm,fs++l,bs⟩,ch+1),u)):=by show _=_;rw[B3w,hq];show(match A9k A6i t5 with|(true,t)=>_|(false,t)=>_)=_;rw[hq6]
        have fz:A1r K (ch+1) t7≠.error none:=by intro hh;apply HN.out;rw[dh.out,HP.out,hh];rfl
        have dx:St w7 b txt t7 m e:=gc
        have dm:=fc
        have dl:=ew
        have ej:=gi
        have fh:=gl
        have fj:Gl B w7:=hg.kp hB di dg
        have ik:t7.length≤3000:=by have:=dx.1;have:=dx.2.1;omega
        clear hq hq6 gc fc ew gi gl
        go_wp2_with fail
        obtain⟨c0,c1,c2⟩:=A4e ej
        refine wp_region_any (by kernel_rfl) ?_
        change wpAny _ _ _ _ _ _ _ (World.drew _)
        refine wpAny_take (i:=0) (v:=.pointer (some ⟨F,1,none⟩)) rfl (by kernel_rfl) (by kernel_rfl) (by kernel_rfl) (fun _ _ _ h=>h) (Or.inl ⟨by rfl,by intro w;go_simp⟩) ?_
        refine wpAny_take (i:=2) (v:=.pointer (some ⟨b,0,none⟩)) rfl (by kernel_rfl) (by kernel_rfl) (by kernel_rfl) (fun _ _ _ h=>h) (Or.inl ⟨by rfl,by intro w;go_simp⟩) ?_
        refine wpAny_take (i:=3) (v:=.int .i64 ((ch:Int)+1)) rfl (by kernel_rfl) (by kernel_rfl) (by kernel_rfl) (fun _ _ _ h=>h) (Or.inl ⟨by rfl,by intro w;go_simp⟩) ?_
        refine wpAny_ready (rs:=[1,4]) (by kernel_rfl) (by simp) ?_
        refine AllReady.cons rfl (fun Kc hK=>?_) (AllReady.cons rfl (fun Kc hK=>?_) AllReady.nil)
        ·go_simp
         refine hK _ _ ?_
         clear hK
         refine wpAny_ready (rs:=[4]) (by kernel_rfl) (by simp) ?_
         refine AllReady.cons rfl (fun Kc hK=>?_) AllReady.nil
         go_simp
         refine(B1a dx.drew fj.drew' hB K (ch+1) fz).mono ?_
         rintro en w8 ⟨bn,hx⟩
         have cw:=(dm.drew').kp bn di
         have cu:=(dl.drew').kp bn di
         have df:=A0q (w:=w7.drew) ej bn (by omega)
         have ee:=A0q (w:=w7.drew) fh bn (by omega)
         have bc:=dg.drew.trans bn
         cases hn:A1r K (ch+1) t7 with
         | error E=>
          rw[hn] at hx
          match E,hx with
          | none,hx=>exact hx.elim
          | some (c,t),hx=>
           obtain⟨ht,rfl⟩:=hx
           have HY:Hid (A0g K r = .error (some (c,t))):=by show _=_;rw[dh.out,HP.out,hn];rfl
           clear hn dh hK
           go_wp2
           exact⟨rfl,A0f bc HY.out ht⟩
         | ok p=>
          obtain⟨l,t8⟩:=p
          rw[hn] at hx
          obtain⟨eh,vl,rfl,fo⟩:=hx
          have f9:l.length≤3000:=by have:=B1b hn;omega
          have HI:Hid (A1r K (ch+1) t7 = .ok (l,t8)):=hn
          clear hn
          obtain⟨c0,c1,c2⟩:=A4e df
          have ei:w.heap.size≤w8.heap.size:=bc.size
          have fd:F < w8.heap.size:=(Array.getElem?_eq_some_iff.1 df).1
          refine hK _ _ ?_
          clear hK
          refine wpAny_ready (rs:=[5]) (by kernel_rfl) (by simp) ?_
          refine AllReady.cons rfl (fun Kc hK=>?_) AllReady.nil
          simp only[Region.wanted]
          have cj:=fo
          have ak:=cw
          have au:=cu
          have br:=df
          have bv:=ee
          have dy:=eh
          have dw:=bc
          refine A2t A3h _ _ rfl w.heap.size _ fs l rfl ak _ _ rfl cj (by(try simp);omega) ei ?_
          intro vn dz ah hgr
          obtain⟨bg,nn,ac,rfl,dp⟩:=ah.shape'
          obtain⟨fq,no,dr,rfl,dn⟩:=au.shape'
          have hown:=ak.own
          have cg:=dy.grown hgr (fun k hk=>by have:=(hown k hk).1;omega)
          have bw:=dw.grown hgr (fun k hk=>(hown k hk).1)
          have ag:=(hgr.block F (Array.getElem?_eq_some_iff.1 br).1 (fun hh=>ak.ne_blk br (by decide) hh.symm)).trans br
          have bt:=(hgr.block w.heap.size (Array.getElem?_eq_some_iff.1 bv).1 (fun hh=>ak.ne_blk bv (by decide) hh.symm)).trans bv
          have aw:=au.grown hgr (au.ne ak (by decide))
          obtain⟨_,k1,k2⟩:=A4e ag
          have g1:=A0b ag 1
          clear c0 c1 c2
          refine hK _ _ ?_
          clear hK
          refine wpAny_take (i:=6) (v:=.pointer (some ⟨F,1,none⟩)) rfl (by kernel_rfl) (by kernel_rfl) (by kernel_rfl) (fun _ _ _ h=>h) (Or.inl ⟨by rfl,by intro w;go_simp⟩) ?_
          refine wpAny_ready (rs:=[7]) (by kernel_rfl) (by simp) ?_
          refine AllReady.cons rfl (fun Kc hK=>?_) AllReady.nil
          go_simp
          refine hK _ _ ?_
          clear hK
          refine wpAny_done (by kernel_rfl) ?_ _
          have bh:=heap_setCell_same _ _ 1 _ _ (.slice bg nn ac) ag
          have bu:=(heap_setCell_other dz ⟨F,1,none⟩ w.heap.size (.slice bg nn ac) (by simp;omega)).trans bt
          have aj:=cg.other (F:=F) (by omega) 1 (.slice bg nn ac)
          have ba:=bw.setNew (F:=F) (by omega) 1 (.slice bg nn ac)
          have bl:=ah.other (ah.ne_blk ag (by decide)) 1 (.slice bg nn ac)
          have bk:=aw.other (aw.ne_blk ag (by decide)) 1 (.slice bg nn ac)
          have bq:Hid (nn=(fs++l).length):=dp
          have bp:Hid (no=(bs).length):=dn
          obtain⟨_,c1,c2⟩:=A4e bh
          have HQ:Hid (A0g K r=if 16 < nn∨16 < no then .error (some (5,t8)) else A3t K k ⟨nm,fs++l,bs⟩ (ch+1) t8):=by show _=_;rw[dh.out,HP.out,HI.out,bq.out,bp.out];rfl
          have fx:nn≤10000:=by rw[bq.out];(try simp);omega
          have fw:no≤10000:=by rw[bp.out];(try simp);omega
          by_cases h16:16 < nn
          ·have HY:Hid (A0g K r = .error (some (5,t8))):=by show _=_;rw[HQ.out,if_pos (.inl h16)]
           go_wp2_with fail
           refine(A0n aj 5).mono ?_
           rintro en d9 ⟨rfl,rfl⟩
           go_wp2
           exact⟨rfl,A0f ba HY.out aj.2.1⟩
          ·have dt:¬ (16:Int) < (nn:Int):=by omega
           by_cases h17:16 < no
           ·have HY:Hid (A0g K r = .error (some (5,t8))):=by show _=_;rw[HQ.out,if_pos (.inr h17)]
            go_wp2_with fail
            refine(A0n aj 5).mono ?_
            rintro en d9 ⟨rfl,rfl⟩
            go_wp2
            exact⟨rfl,A0f ba HY.out aj.2.1⟩
           ·have dv:¬ (16:Int) < (no:Int):=by omega
            have HY:Hid (A0g K r=A3t K k ⟨nm,fs++l,bs⟩ (ch+1) t8):=by show _=_;rw[HQ.out,if_neg (by omega)]
            go_wp2_with fail
            go_roundg k
            case measure=>omega
            case rel=>exact⟨fs++l,bs,(ch+1),t8,_,_,by push_cast;rfl,bl,bk,bh,bu,aj,ba,by rw[←bq.out];omega,by rw[←bp.out];omega,by omega,HY⟩
        ·go_simp
         refine(B1a dx.drew fj.drew' hB K (ch+1) fz).mono ?_
         rintro en w8 ⟨bn,hx⟩
         have cw:=(dm.drew').kp bn di
         have cu:=(dl.drew').kp bn di
         have df:=A0q (w:=w7.drew) ej bn (by omega)
         have ee:=A0q (w:=w7.drew) fh bn (by omega)
         have bc:=dg.drew.trans bn
         cases hn:A1r K (ch+1) t7 with
         | error E=>
          rw[hn] at hx
          match E,hx with
          | none,hx=>exact hx.elim
          | some (c,t),hx=>
           obtain⟨ht,rfl⟩:=hx
           have HY:Hid (A0g K r = .error (some (c,t))):=by show _=_;rw[dh.out,HP.out,hn];rfl
           clear hn dh hK
           go_wp2
           exact⟨rfl,A0f bc HY.out ht⟩
         | ok p=>
          obtain⟨l,t8⟩:=p
          rw[hn] at hx
          obtain⟨eh,vl,rfl,fo⟩:=hx
          have f9:l.length≤3000:=by have:=B1b hn;omega
          have HI:Hid (A1r K (ch+1) t7 = .ok (l,t8)):=hn
          clear hn
          obtain⟨c0,c1,c2⟩:=A4e df
          have ei:w.heap.size≤w8.heap.size:=bc.size
          have fd:F < w8.heap.size:=(Array.getElem?_eq_some_iff.1 df).1
          refine hK _ _ ?_
          clear hK
          refine wpAny_ready (rs:=[1]) (by kernel_rfl) (by simp) ?_
          refine AllReady.cons rfl (fun Kc hK=>?_) AllReady.nil
          go_simp
          refine hK _ _ ?_
          clear hK
          refine wpAny_ready (rs:=[5]) (by kernel_rfl) (by simp) ?_
          refine AllReady.cons rfl (fun Kc hK=>?_) AllReady.nil
          simp only[Region.wanted]
          have cj:=fo
          have ak:=cw
          have au:=cu
          have br:=df
          have bv:=ee
          have dy:=eh
          have dw:=bc
          refine A2t A3h _ _ rfl w.heap.size _ fs l rfl ak _ _ rfl cj (by(try simp);omega) ei ?_
          intro vn dz ah hgr
          obtain⟨bg,nn,ac,rfl,dp⟩:=ah.shape'
          obtain⟨fq,no,dr,rfl,dn⟩:=au.shape'
          have hown:=ak.own
          have cg:=dy.grown hgr (fun k hk=>by have:=(hown k hk).1;omega)
          have bw:=dw.grown hgr (fun k hk=>(hown k hk).1)
          have ag:=(hgr.block F (Array.getElem?_eq_some_iff.1 br).1 (fun hh=>ak.ne_blk br (by decide) hh.symm)).trans br
          have bt:=(hgr.block w.heap.size (Array.getElem?_eq_some_iff.1 bv).1 (fun hh=>ak.ne_blk bv (by decide) hh.symm)).trans bv
          have aw:=au.grown hgr (au.ne ak (by decide))
          obtain⟨_,k1,k2⟩:=A4e ag
          have g1:=A0b ag 1
          clear c0 c1 c2
          refine hK _ _ ?_
          clear hK
          refine wpAny_take (i:=6) (v:=.pointer (some ⟨F,1,none⟩)) rfl (by kernel_rfl) (by kernel_rfl) (by kernel_rfl) (fun _ _ _ h=>h) (Or.inl ⟨by rfl,by intro w;go_simp⟩) ?_
          refine wpAny_ready (rs:=[7]) (by kernel_rfl) (by simp) ?_
          refine AllReady.cons rfl (fun Kc hK=>?_) AllReady.nil
          go_simp
          refine hK _ _ ?_
          clear hK
          refine wpAny_done (by kernel_rfl) ?_ _
          have bh:=heap_setCell_same _ _ 1 _ _ (.slice bg nn ac) ag
          have bu:=(heap_setCell_other dz ⟨F,1,none⟩ w.heap.size (.slice bg nn ac) (by simp;omega)).trans bt
          have aj:=cg.other (F:=F) (by omega) 1 (.slice bg nn ac)
          have ba:=bw.setNew (F:=F) (by omega) 1 (.slice bg nn ac)
          have bl:=ah.other (ah.ne_blk ag (by decide)) 1 (.slice bg nn ac)
          have bk:=aw.other (aw.ne_blk ag (by decide)) 1 (.slice bg nn ac)
          have bq:Hid (nn=(fs++l).length):=dp
          have bp:Hid (no=(bs).length):=dn
          obtain⟨_,c1,c2⟩:=A4e bh
          have HQ:Hid (A0g K r=if 16 < nn∨16 < no then .error (some (5,t8)) else A3t K k ⟨nm,fs++l,bs⟩ (ch+1) t8):=by show _=_;rw[dh.out,HP.out,HI.out,bq.out,bp.out];rfl
          have fx:nn≤10000:=by rw[bq.out];(try simp);omega
          have fw:no≤10000:=by rw[bp.out];(try simp);omega
          by_cases h16:16 < nn
          ·have HY:Hid (A0g K r = .error (some (5,t8))):=by show _=_;rw[HQ.out,if_pos (.inl h16)]
           go_wp2_with fail
           refine(A0n aj 5).mono ?_
           rintro en d9 ⟨rfl,rfl⟩
           go_wp2
           exact⟨rfl,A0f ba HY.out aj.2.1⟩
          ·have dt:¬ (16:Int) < (nn:Int):=by omega
           by_cases h17:16 < no
           ·have HY:Hid (A0g K r = .error (some (5,t8))):=by show _=_;rw[HQ.out,if_pos (.inr h17)]
            go_wp2_with fail
            refine(A0n aj 5).mono ?_
            rintro en d9 ⟨rfl,rfl⟩
            go_wp2
            exact⟨rfl,A0f ba HY.out aj.2.1⟩
           ·have dv:¬ (16:Int) < (no:Int):=by omega
            have HY:Hid (A0g K r=A3t K k ⟨nm,fs++l,bs⟩ (ch+1) t8):=by show _=_;rw[HQ.out,if_neg (by omega)]
            go_wp2_with fail
            go_roundg k
            case measure=>omega
            case rel=>exact⟨fs++l,bs,(ch+1),t8,_,_,by push_cast;rfl,bl,bk,bh,bu,aj,ba,by rw[←bq.out];omega,by rw[←bp.out];omega,by omega,HY⟩
       | false=>
        go_wp2_with fail
        refine(A3s gc A2o (by decide)).mono ?_
        rintro en w7 ⟨rfl,dx,fu⟩
        have dm:=fc.kp fu di
        have dl:=ew.kp fu di
        have ej:=A0q gi fu (by omega)
        have fh:=A0q gl fu (by omega)
        replace dg:=dg.trans fu
        clear fc ew gc gi gl fu
        generalize hq7:A9k A2o t6=mq at dx ⊢
        obtain⟨many,t7⟩:=mq
        have HP:Hid (B3w K ⟨nm,fs,bs⟩ ch t3=R.thn (A1s many 0 t7) fun f u=>.ok ((⟨nm,fs++[f],bs⟩,ch),u)):=by show _=_;rw[B3w,hq];show(match A9k A6i t5 with|(true,t)=>_|(false,t)=>_)=_;rw[hq6];show R.thn (A1s (A9k A2o t6).1 0 (A9k A2o t6).2) _=_;rw[hq7]
        have fj:Gl B w7:=hg.kp hB di dg
        clear hq hq6 hq7
        go_wp2_with fail
        obtain⟨c0,c1,c2⟩:=A4e ej
        refine wp_region_any (by kernel_rfl) ?_
        change wpAny _ _ _ _ _ _ _ (World.drew _)
        refine wpAny_take (i:=0) (v:=.pointer (some ⟨F,1,none⟩)) rfl (by kernel_rfl) (by kernel_rfl) (by kernel_rfl) (fun _ _ _ h=>h) (Or.inl ⟨by rfl,by intro w;go_simp⟩) ?_
        refine wpAny_take (i:=2) (v:=.pointer (some ⟨b,0,none⟩)) rfl (by kernel_rfl) (by kernel_rfl) (by kernel_rfl) (fun _ _ _ h=>h) (Or.inl ⟨by rfl,by intro w;go_simp⟩) ?_
        refine wpAny_take (i:=3) (v:=.bool many) rfl (by kernel_rfl) (by kernel_rfl) (by kernel_rfl) (fun _ _ _ h=>h) (Or.inl ⟨by rfl,by intro w;go_simp⟩) ?_
        refine wpAny_ready (rs:=[1,4]) (by kernel_rfl) (by simp) ?_
        refine AllReady.cons rfl (fun Kc hK=>?_) (AllReady.cons rfl (fun Kc hK=>?_) AllReady.nil)
        ·go_simp
         refine hK _ _ ?_
         clear hK
         refine wpAny_ready (rs:=[4]) (by kernel_rfl) (by simp) ?_
         refine AllReady.cons rfl (fun Kc hK=>?_) AllReady.nil
         go_simp
         refine(A2h dx.drew fj.drew' hB many 0).mono ?_
         rintro en w8 ⟨bn,hx⟩
         have cw:=(dm.drew').kp bn di
         have cu:=(dl.drew').kp bn di
         have df:=A0q (w:=w7.drew) ej bn (by omega)
         have ee:=A0q (w:=w7.drew) fh bn (by omega)
         have bc:=dg.drew.trans bn
         cases hn:A1s many 0 t7 with
         | error E=>
          rw[hn] at hx
          match E,hx with
          | none,hx=>exact hx.elim
          | some (c,t),hx=>
           obtain⟨ht,rfl⟩:=hx
           have HY:Hid (A0g K r = .error (some (c,t))):=by show _=_;rw[dh.out,HP.out,hn];rfl
           clear hn dh hK
           go_wp2
           exact⟨rfl,A0f bc HY.out ht⟩
         | ok p=>
          obtain⟨l,t8⟩:=p
          rw[hn] at hx
          obtain⟨eh,_,rfl,rfl⟩:=hx
          have f9:1≤3000:=by omega
          have HI:Hid (A1s many 0 t7 = .ok (l,t8)):=hn
          clear hn
          obtain⟨c0,c1,c2⟩:=A4e df
          have ei:w.heap.size≤w8.heap.size:=bc.size
          have fd:F < w8.heap.size:=(Array.getElem?_eq_some_iff.1 df).1
          refine hK _ _ ?_
          clear hK
          refine wpAny_ready (rs:=[5]) (by kernel_rfl) (by simp) ?_
          refine AllReady.cons rfl (fun Kc hK=>?_) AllReady.nil
          unfold A1g
          go_simp
          refine hK _ _ ?_
          clear hK
          refine wpAny_ready (rs:=[6]) (by kernel_rfl) (by simp) ?_
          refine AllReady.cons rfl (fun Kc hK=>?_) AllReady.nil
          simp only[Region.wanted]
          have cj:Row A3h (w8.alloc (.cells (A1g l).toArray 40)) w.heap.size (.slice (some ⟨w8.heap.size,0,none⟩) 1 1) [l]:=Row.one A3h w8 l ei
          have ak:Row A3h (w8.alloc (.cells (A1g l).toArray 40)) w.heap.size vf fs:=cw.below ((Below.refl _ _).alloc (Nat.le_refl _) _)
          have au:Row A5c (w8.alloc (.cells (A1g l).toArray 40)) w.heap.size vb bs:=cu.below ((Below.refl _ _).alloc (Nat.le_refl _) _)
          have br:=(Below.heap_alloc w8 (.cells (A1g l).toArray 40) F fd).trans df
          have bv:=(Below.heap_alloc w8 (.cells (A1g l).toArray 40) w.heap.size (by omega)).trans ee
          have dy:=eh.alloc (.cells (A1g l).toArray 40)
          have dw:=bc.alloc (.cells (A1g l).toArray 40)
          refine A2t A3h _ _ rfl w.heap.size _ fs [l] rfl ak _ _ rfl cj (by(try simp);omega) (by simp;omega) ?_
          intro vn dz ah hgr
          obtain⟨bg,nn,ac,rfl,dp⟩:=ah.shape'
          obtain⟨fq,no,dr,rfl,dn⟩:=au.shape'
          have hown:=ak.own
          have cg:=dy.grown hgr (fun k hk=>by have:=(hown k hk).1;omega)
          have bw:=dw.grown hgr (fun k hk=>(hown k hk).1)
          have ag:=(hgr.block F (Array.getElem?_eq_some_iff.1 br).1 (fun hh=>ak.ne_blk br (by decide) hh.symm)).trans br
          have bt:=(hgr.block w.heap.size (Array.getElem?_eq_some_iff.1 bv).1 (fun hh=>ak.ne_blk bv (by decide) hh.symm)).trans bv
          have aw:=au.grown hgr (au.ne ak (by decide))
          obtain⟨_,k1,k2⟩:=A4e ag
          have g1:=A0b ag 1
          clear c0 c1 c2
          refine hK _ _ ?_
          clear hK
          refine wpAny_take (i:=7) (v:=.pointer (some ⟨F,1,none⟩)) rfl (by kernel_rfl) (by kernel_rfl) (by kernel_rfl) (fun _ _ _ h=>h) (Or.inl ⟨by rfl,by intro w;go_simp⟩) ?_
          refine wpAny_ready (rs:=[8]) (by kernel_rfl) (by simp) ?_
          refine AllReady.cons rfl (fun Kc hK=>?_) AllReady.nil
          go_simp
          refine hK _ _ ?_
          clear hK
          refine wpAny_done (by kernel_rfl) ?_ _
          have bh:=heap_setCell_same _ _ 1 _ _ (.slice bg nn ac) ag
          have bu:=(heap_setCell_other dz ⟨F,1,none⟩ w.heap.size (.slice bg nn ac) (by simp;omega)).trans bt
          have aj:=cg.other (F:=F) (by omega) 1 (.slice bg nn ac)
          have ba:=bw.setNew (F:=F) (by omega) 1 (.slice bg nn ac)
          have bl:=ah.other (ah.ne_blk ag (by decide)) 1 (.slice bg nn ac)
          have bk:=aw.other (aw.ne_blk ag (by decide)) 1 (.slice bg nn ac)
          have bq:Hid (nn=(fs++[l]).length):=dp
          have bp:Hid (no=(bs).length):=dn
          obtain⟨_,c1,c2⟩:=A4e bh
          have HQ:Hid (A0g K r=if 16 < nn∨16 < no then .error (some (5,t8)) else A3t K k ⟨nm,fs++[l],bs⟩ ch t8):=by show _=_;rw[dh.out,HP.out,HI.out,bq.out,bp.out];rfl
          have fx:nn≤10000:=by rw[bq.out];(try simp);omega
          have fw:no≤10000:=by rw[bp.out];(try simp);omega
          by_cases h16:16 < nn
          ·have HY:Hid (A0g K r = .error (some (5,t8))):=by show _=_;rw[HQ.out,if_pos (.inl h16)]
           go_wp2_with fail
           refine(A0n aj 5).mono ?_
           rintro en d9 ⟨rfl,rfl⟩
           go_wp2
           exact⟨rfl,A0f ba HY.out aj.2.1⟩
          ·have dt:¬ (16:Int) < (nn:Int):=by omega
           by_cases h17:16 < no
           ·have HY:Hid (A0g K r = .error (some (5,t8))):=by show _=_;rw[HQ.out,if_pos (.inr h17)]
            go_wp2_with fail
            refine(A0n aj 5).mono ?_
            rintro en d9 ⟨rfl,rfl⟩
            go_wp2
            exact⟨rfl,A0f ba HY.out aj.2.1⟩
           ·have dv:¬ (16:Int) < (no:Int):=by omega
            have HY:Hid (A0g K r=A3t K k ⟨nm,fs++[l],bs⟩ ch t8):=by show _=_;rw[HQ.out,if_neg (by omega)]
            go_wp2_with fail
            go_roundg k
            case measure=>omega
            case rel=>exact⟨fs++[l],bs,ch,t8,_,_,rfl,bl,bk,bh,bu,aj,ba,by rw[←bq.out];omega,by rw[←bp.out];omega,by omega,HY⟩
        ·go_simp
         refine(A2h dx.drew fj.drew' hB many 0).mono ?_
         rintro en w8 ⟨bn,hx⟩
         have cw:=(dm.drew').kp bn di
         have cu:=(dl.drew').kp bn di
         have df:=A0q (w:=w7.drew) ej bn (by omega)
         have ee:=A0q (w:=w7.drew) fh bn (by omega)
         have bc:=dg.drew.trans bn
         cases hn:A1s many 0 t7 with
         | error E=>
          rw[hn] at hx
          match E,hx with
          | none,hx=>exact hx.elim
          | some (c,t),hx=>
           obtain⟨ht,rfl⟩:=hx
           have HY:Hid (A0g K r = .error (some (c,t))):=by show _=_;rw[dh.out,HP.out,hn];rfl
           clear hn dh hK
           go_wp2
           exact⟨rfl,A0f bc HY.out ht⟩
         | ok p=>
          obtain⟨l,t8⟩:=p
          rw[hn] at hx
          obtain⟨eh,_,rfl,rfl⟩:=hx
          have f9:1≤3000:=by omega
          have HI:Hid (A1s many 0 t7 = .ok (l,t8)):=hn
          clear hn
          obtain⟨c0,c1,c2⟩:=A4e df
          have ei:w.heap.size≤w8.heap.size:=bc.size
          have fd:F < w8.heap.size:=(Array.getElem?_eq_some_iff.1 df).1
          refine hK _ _ ?_
          clear hK
          refine wpAny_ready (rs:=[1,5]) (by kernel_rfl) (by simp) ?_
          refine AllReady.cons rfl (fun Kc hK=>?_) (AllReady.cons rfl (fun Kc hK=>?_) AllReady.nil)
          rotate_right
          focus
           unfold A1g
           go_simp
           refine hK _ _ ?_
           clear hK
           refine wpAny_ready (rs:=[1]) (by kernel_rfl) (by simp) ?_
           refine AllReady.cons rfl (fun Kc hK=>?_) AllReady.nil
          rotate_right
          focus
           go_simp
           refine hK _ _ ?_
           clear hK
           refine wpAny_ready (rs:=[5]) (by kernel_rfl) (by simp) ?_
           refine AllReady.cons rfl (fun Kc hK=>?_) AllReady.nil
           unfold A1g
          all_goals
           go_simp
           refine hK _ _ ?_
           clear hK
           refine wpAny_ready (rs:=[6]) (by kernel_rfl) (by simp) ?_
           refine AllReady.cons rfl (fun Kc hK=>?_) AllReady.nil
           simp only[Region.wanted]
           have cj:Row A3h (w8.alloc (.cells (A1g l).toArray 40)) w.heap.size (.slice (some ⟨w8.heap.size,0,none⟩) 1 1) [l]:=Row.one A3h w8 l ei
           have ak:Row A3h (w8.alloc (.cells (A1g l).toArray 40)) w.heap.size vf fs:=cw.below ((Below.refl _ _).alloc (Nat.le_refl _) _)
           have au:Row A5c (w8.alloc (.cells (A1g l).toArray 40)) w.heap.size vb bs:=cu.below ((Below.refl _ _).alloc (Nat.le_refl _) _)
           have br:=(Below.heap_alloc w8 (.cells (A1g l).toArray 40) F fd).trans df
           have bv:=(Below.heap_alloc w8 (.cells (A1g l).toArray 40) w.heap.size (by omega)).trans ee
           have dy:=eh.alloc (.cells (A1g l).toArray 40)
           have dw:=bc.alloc (.cells (A1g l).toArray 40)
           refine A2t A3h _ _ rfl w.heap.size _ fs [l] rfl ak _ _ rfl cj (by(try simp);omega) (by simp;omega) ?_
           intro vn dz ah hgr
           obtain⟨bg,nn,ac,rfl,dp⟩:=ah.shape'
           obtain⟨fq,no,dr,rfl,dn⟩:=au.shape'
           have hown:=ak.own
           have cg:=dy.grown hgr (fun k hk=>by have:=(hown k hk).1;omega)
           have bw:=dw.grown hgr (fun k hk=>(hown k hk).1)
           have ag:=(hgr.block F (Array.getElem?_eq_some_iff.1 br).1 (fun hh=>ak.ne_blk br (by decide) hh.symm)).trans br
           have bt:=(hgr.block w.heap.size (Array.getElem?_eq_some_iff.1 bv).1 (fun hh=>ak.ne_blk bv (by decide) hh.symm)).trans bv
           have aw:=au.grown hgr (au.ne ak (by decide))
           obtain⟨_,k1,k2⟩:=A4e ag
           have g1:=A0b ag 1
           clear c0 c1 c2
           refine hK _ _ ?_
           clear hK
           refine wpAny_take (i:=7) (v:=.pointer (some ⟨F,1,none⟩)) rfl (by kernel_rfl) (by kernel_rfl) (by kernel_rfl) (fun _ _ _ h=>h) (Or.inl ⟨by rfl,by intro w;go_simp⟩) ?_
           refine wpAny_ready (rs:=[8]) (by kernel_rfl) (by simp) ?_
           refine AllReady.cons rfl (fun Kc hK=>?_) AllReady.nil
           go_simp
           refine hK _ _ ?_
           clear hK
           refine wpAny_done (by kernel_rfl) ?_ _
           have bh:=heap_setCell_same _ _ 1 _ _ (.slice bg nn ac) ag
           have bu:=(heap_setCell_other dz ⟨F,1,none⟩ w.heap.size (.slice bg nn ac) (by simp;omega)).trans bt
           have aj:=cg.other (F:=F) (by omega) 1 (.slice bg nn ac)
           have ba:=bw.setNew (F:=F) (by omega) 1 (.slice bg nn ac)
           have bl:=ah.other (ah.ne_blk ag (by decide)) 1 (.slice bg nn ac)
           have bk:=aw.other (aw.ne_blk ag (by decide)) 1 (.slice bg nn ac)
           have bq:Hid (nn=(fs++[l]).length):=dp
           have bp:Hid (no=(bs).length):=dn
           obtain⟨_,c1,c2⟩:=A4e bh
           have HQ:Hid (A0g K r=if 16 < nn∨16 < no then .error (some (5,t8)) else A3t K k ⟨nm,fs++[l],bs⟩ ch t8):=by show _=_;rw[dh.out,HP.out,HI.out,bq.out,bp.out];rfl
           have fx:nn≤10000:=by rw[bq.out];(try simp);omega
           have fw:no≤10000:=by rw[bp.out];(try simp);omega
           by_cases h16:16 < nn
           ·have HY:Hid (A0g K r = .error (some (5,t8))):=by show _=_;rw[HQ.out,if_pos (.inl h16)]
            go_wp2_with fail
            refine(A0n aj 5).mono ?_
            rintro en d9 ⟨rfl,rfl⟩
            go_wp2
            exact⟨rfl,A0f ba HY.out aj.2.1⟩
           ·have dt:¬ (16:Int) < (nn:Int):=by omega
            by_cases h17:16 < no
            ·have HY:Hid (A0g K r = .error (some (5,t8))):=by show _=_;rw[HQ.out,if_pos (.inr h17)]
             go_wp2_with fail
             refine(A0n aj 5).mono ?_
             rintro en d9 ⟨rfl,rfl⟩
             go_wp2
             exact⟨rfl,A0f ba HY.out aj.2.1⟩
            ·have dv:¬ (16:Int) < (no:Int):=by omega
             have HY:Hid (A0g K r=A3t K k ⟨nm,fs++[l],bs⟩ ch t8):=by show _=_;rw[HQ.out,if_neg (by omega)]
             go_wp2_with fail
             go_roundg k
             case measure=>omega
             case rel=>exact⟨fs++[l],bs,ch,t8,_,_,rfl,bl,bk,bh,bu,aj,ba,by rw[←bq.out];omega,by rw[←bp.out];omega,by omega,HY⟩
end Go.Proofs.YtgaoojpakjjdnaaGreatDoor
