import Derived.Test.YtgaoojpakjjdnaaGreatDoorV42
import Derived.Deep.CutRange
set_option maxHeartbeats 32000000
set_option maxRecDepth 100000
namespace Go.Proofs.YtgaoojpakjjdnaaGreatDoor
open Go.RowKit
theorem Row.other {α:Type}{E:EK α}{w:World}{base g:Nat}{v:Value}{l:List α}(h:Row E w base v l)(hne:v.ownBlock≠some g)(i:Nat)(x:Value):Row E (w.setCell ⟨g,i,none⟩ x) base v l:=by
 refine⟨h.1,?_⟩
 rcases h.2 with hn|⟨g',cap,cur,hv,hbg,hg,r⟩
 ·exact .inl hn
 ·refine .inr ⟨g',cap,cur,hv,hbg,?_,r⟩
  rw[Below.heap_setCell _ _ _ _ (by intro e;apply hne;rw[hv];simp[Value.ownBlock];exact e)]
  exact hg
theorem Row.ne_blk {α:Type}{E:EK α}{w:World}{base g:Nat}{v:Value}{l:List α}(h:Row E w base v l){cs:Array Value}{t:TypeId}{fr:Nat×Nat}(hb:w.heap[g]?=some (.cells cs t fr))(ht:t≠E.elem):v.ownBlock≠some g:=by
 rcases h.2 with⟨hv,_⟩|⟨g',cap,cur,hv,_,hg,_⟩
 ·rw[hv];simp[Value.ownBlock]
 ·rw[hv]
  simp only[Value.ownBlock,ne_eq,Option.some.injEq]
  intro e
  rw[e,hb] at hg
  simp at hg
  exact ht hg.2.1
theorem Row.drew' {α:Type}{E:EK α}{w:World}{base:Nat}{v:Value}{l:List α}(h:Row E w base v l):Row E w.drew base v l:=h
theorem Gl.drew' {B:Nat}{w:World}(h:Gl B w):Gl B w.drew:=h.later ((Below.refl _ _).drew)
theorem Row.shape' {α:Type}{E:EK α}{w:World}{base:Nat}{v:Value}{l:List α}(h:Row E w base v l):∃ ao n cap,v = .slice ao n cap∧Hid (n=l.length):=by
 obtain⟨ao,cap,hv⟩:=h.shape
 exact⟨ao,_,cap,hv,rfl⟩
def D9t (w:World)(base:Nat)(x:Enm)(v:Value):Prop:=∃ vi,v = .agg #[.string (S x.name),vi]∧Row A6y w base vi x.items
theorem A8y {B b:Nat}{txt r:List UInt8}{m e:Value}{w:World}(h:St w b txt r m e)(hg:Gl B w)(hB:B≤b)(K:Nat)(hN:A5h K r≠.error none) :
  Calls Tryz.prog 192 #[.pointer (some ⟨b,0,none⟩)] w (C6j b txt m e w (fun x v w'=>D9t w' w.heap.size x v) (A5h K r)):=by
 have dn:=h.lt
 have HN:Hid (A5h K r≠.error none):=hN
 have HX:Hid (A5h K r=R.thn (A4f r) fun nm u=>R.thn (A1y 123 u) fun _ u=>A8b K ⟨nm,[]⟩ u):=rfl
 clear hN
 go_enter Tryz.func192,Tryz.ntmps192
 go_wp2_with fail
 refine(A9o (h.alloc _)).mono ?_
 rintro en w1 ⟨dp,hx⟩
 have hR:w1.heap[w.heap.size]?=some (.cells #[.string ⟨#[]⟩,.slice none 0 0] 100 (0,0)):=A0w (heap_alloc_new w _) dp (by omega)
 have hz1:w.heap.size+1≤w1.heap.size:=by have:=dp.size;simpa using this
 have bk:Kp b w w1:=((Kp.refl b w).alloc _).trans dp
 clear dp
 cases hn:A4f r with
 | error E=>
  rw[hn] at hx
  match E,hx with
  | none,hx=>exact hx.elim
  | some (c,t),hx=>
   obtain⟨ht,rfl⟩:=hx
   have HY:Hid (A5h K r = .error (some (c,t))):=by show _=_;rw[HX.out,hn];rfl
   clear hn HX
   go_wp2
   exact⟨rfl,A0f bk HY.out ht⟩
 | ok p=>
  obtain⟨nm,t1⟩:=p
  rw[hn] at hx
  obtain⟨hs1,_,rfl,rfl⟩:=hx
  have dl:Hid (A5h K r=R.thn (A1y 123 t1) fun _ u=>A8b K ⟨nm,[]⟩ u):=by show _=_;rw[HX.out,hn];rfl
  clear hn HX
  have hF2:=heap_alloc_new w1 (.cells #[.string (S nm),.slice none 0 0] 100)
  have dy:=(Below.heap_alloc w1 (.cells #[.string (S nm),.slice none 0 0] 100) w.heap.size (by omega)).trans hR
  have hs2:=hs1.alloc (.cells #[.string (S nm),.slice none 0 0] 100)
  have hk2:=bk.alloc (.cells #[.string (S nm),.slice none 0 0] 100)
  clear bk hR hs1
  go_wp2_with fail
  generalize w1.alloc (.cells #[.string (S nm),.slice none 0 0] 100)=W2 at *
  obtain⟨F,dv⟩:∃ F,Hid (F=w1.heap.size):=⟨_,rfl⟩
  have eh:w.heap.size+1≤F:=by rw[dv.out];exact hz1
  rw[←dv.out] at hF2 ⊢
  clear hz1
  refine(A4k hs2 123).mono ?_
  rintro en w3 ⟨hk3,hx⟩
  have dx:=A0w hF2 hk3 (by omega)
  have dz:=A0w dy hk3 (by omega)
  have bk:=hk2.trans hk3
  clear hF2 dy hs2 hk2 hk3
  cases hn:A1y 123 t1 with
  | error E=>
   rw[hn] at hx
   match E,hx with
   | none,hx=>exact hx.elim
   | some (c,t),hx=>
    obtain⟨ht,rfl⟩:=hx
    have HY:Hid (A5h K r = .error (some (c,t))):=by show _=_;rw[dl.out,hn];rfl
    clear hn dl
    go_wp2
    exact⟨rfl,A0f bk HY.out ht⟩
  | ok p=>
   obtain⟨_,t2⟩:=p
   rw[hn] at hx
   obtain⟨hs3,_,rfl,rfl⟩:=hx
   have dw:Hid (A5h K r=A8b K ⟨nm,[]⟩ t2):=by show _=_;rw[dl.out,hn];rfl
   clear hn dl
   go_wp2_with fail
   go_loopg [] K (fun k wr=>∃ acc q v,Row A6y wr w.heap.size v acc∧wr.heap[F]?=some (.cells #[.string (S nm),v] 100 (0,0))∧wr.heap[w.heap.size]?=some (.cells #[.string ⟨#[]⟩,.slice none 0 0] 100 (0,0))∧St wr b txt q m e∧Kp b w wr∧acc.length≤16∧Hid (A5h K r=A8b k ⟨nm,acc⟩ q))
   case atStart=>exact⟨[],t2,.slice none 0 0,Row.nil _ _ _,dx,dz,hs3,bk,by simp,dw⟩
   case round=>
    clear dx dz hs3 bk dw
    obtain⟨acc,q,v,hrow,hF,hR,hs,hk,hlen,HR⟩:=hrel
    cases gk with
    | zero=>exact absurd HR.out HN.out
    | succ k=>
     go_wp2_with fail
     refine(A7t hs 125).mono ?_
     rintro en w4 ⟨rfl,dr,hk4⟩
     have hrow4:=hrow.kp hk4 dn
     have bv:=A0w hF hk4 (by omega)
     have bt:=A0w hR hk4 (by omega)
     have bk:=hk.trans hk4
     clear hrow hs hk hF hR hk4
     generalize hq:A3w 125 q=mq at dr ⊢
     obtain⟨ok,t3⟩:=mq
     cases ok with
     | true=>
      have br:Hid (A5h K r = .ok (⟨nm,acc⟩,t3)):=by show _=_;rw[HR.out,A8b,hq]
      clear hq HR
      obtain⟨c0,c1⟩:=A0y bv
      obtain⟨d0,d1⟩:=A0y bt
      have g0:=A0b bt 0
      have g1:=A0b bt 1
      obtain⟨ao,cap,rfl⟩:=hrow4.shape
      go_wp2
      refine bodyPost_ret (v:=.agg #[.string (S nm),.slice ao acc.length cap]) (by simp[results,Tryz.results192,go_sem, *]) rfl ?_
      have bg:=(bk.setNew (F:=w.heap.size) (by omega) 0 (.string (S nm))).setNew (F:=w.heap.size) (by omega) 1 (.slice ao acc.length cap)
      refine A5b bg br.out ((dr.other (by omega) _ _).other (by omega) _ _) ⟨_,rfl,?_⟩
      exact(hrow4.other (hrow4.ne_blk bt (by decide)) _ _).other (hrow4.ne_blk bt (by decide)) _ _
     | false=>
      have br:Hid (A5h K r=R.thn (A4w t3) fun i u=>if 16<(acc++[i]).length then .error (some (5,u)) else A8b k ⟨nm,acc++[i]⟩ u):=by show _=_;rw[HR.out,A8b,hq]
      clear hq HR
      obtain⟨c0,c1⟩:=A0y bv
      have hg4:Gl B w4:=hg.kp hB dn bk
      clear c0 c1
      go_wp2_with fail
      have c1:=(A0y bv).2
      go_cut [] from 13 to 32 (fun wc=>∃ i t4 v5,Hid (A4w t3 = .ok (i,t4))∧Row A6y wc w.heap.size v5 (acc++[i])∧wc.heap[F]?=some (.cells #[.string (S nm),v5] 100 (0,0))∧wc.heap[w.heap.size]?=some (.cells #[.string ⟨#[]⟩,.slice none 0 0] 100 (0,0))∧St wc b txt t4 m e∧Kp b w wc)
      case first=>
       refine wp_region_any (by kernel_rfl) ?_
       change wpAny _ _ _ _ _ _ _ (World.drew _)
       refine wpAny_take (i:=0) (v:=.pointer (some ⟨F,1,none⟩)) rfl (by kernel_rfl) (by kernel_rfl) (by kernel_rfl) (fun _ _ _ h=>h) (Or.inl ⟨by rfl,by intro w;go_simp⟩) ?_
       refine wpAny_take (i:=2) (v:=.pointer (some ⟨b,0,none⟩)) rfl (by kernel_rfl) (by kernel_rfl) (by kernel_rfl) (fun _ _ _ h=>h) (Or.inl ⟨by rfl,by intro w;go_simp⟩) ?_
       refine wpAny_ready (rs:=[1,3]) (by kernel_rfl) (by simp) ?_
       refine AllReady.cons rfl (fun Kc hK=>?_) (AllReady.cons rfl (fun Kc hK=>?_) AllReady.nil)
       ·go_simp
        refine hK _ _ ?_
        clear hK
        refine wpAny_ready (rs:=[3]) (by kernel_rfl) (by simp) ?_
        refine AllReady.cons rfl (fun Kc hK=>?_) AllReady.nil
        go_simp
        refine(C1z dr.drew hg4.drew' hB).mono ?_
        rintro en w5 ⟨bg,hx⟩
        have ak:=(hrow4.drew').kp bg dn
        have bh:=A0w (w:=w4.drew) bv bg (by omega)
        have bu:=A0w (w:=w4.drew) bt bg (by omega)
        have aw:=bk.drew.trans bg
        cases hn:A4w t3 with
        | error E=>
         rw[hn] at hx
         match E,hx with
         | none,hx=>exact hx.elim
         | some (c,t),hx=>
          obtain⟨ht,rfl⟩:=hx
          have HY:Hid (A5h K r = .error (some (c,t))):=by show _=_;rw[br.out,hn];rfl
          clear hn br hK
          go_wp2
          exact⟨rfl,A0f aw HY.out ht⟩
        | ok p=>
         obtain⟨i,t4⟩:=p
         rw[hn] at hx
         obtain⟨hs5,_,rfl,rfl⟩:=hx
         have HI:Hid (A4w t3 = .ok (i,t4)):=hn
         clear hn
         obtain⟨c0,c1⟩:=A0y bh
         have f1:=A0b bh 1
         have dt:w.heap.size≤w5.heap.size:=aw.size
         have dm:F<w5.heap.size:=(Array.getElem?_eq_some_iff.1 bh).1
         refine hK _ _ ?_
         clear hK
         refine wpAny_ready (rs:=[4]) (by kernel_rfl) (by simp) ?_
         refine AllReady.cons rfl (fun Kc hK=>?_) AllReady.nil
         unfold A2g
         go_simp
         refine hK _ _ ?_
         clear hK
         refine wpAny_ready (rs:=[5]) (by kernel_rfl) (by simp) ?_
         refine AllReady.cons rfl (fun Kc hK=>?_) AllReady.nil
         simp only[Region.wanted]
         have bq:Row A6y (w5.alloc (.cells (A2g i).toArray 162)) w.heap.size (.slice (some ⟨w5.heap.size,0,none⟩) 1 1) [i]:=Row.one A6y w5 i dt
         have ac:Row A6y (w5.alloc (.cells (A2g i).toArray 162)) w.heap.size v acc:=ak.below ((Below.refl _ _).alloc (Nat.le_refl _) _)
         have bn:=(Below.heap_alloc w5 (.cells (A2g i).toArray 162) F dm).trans bh
         have bp:=(Below.heap_alloc w5 (.cells (A2g i).toArray 162) w.heap.size (by omega)).trans bu
         have dg:=hs5.alloc (.cells (A2g i).toArray 162)
         have cu:=aw.alloc (.cells (A2g i).toArray 162)
         refine A3r A6y _ _ rfl w.heap.size _ acc [i] rfl ac w.heap.size _ rfl bq (by simp;omega) (by simp;omega) ?_
         intro v7 w7 ah aj
         obtain⟨au,n7,ag,rfl,_⟩:=ah.shape'
         have hown:=ac.own
         have dh:=dg.grown aj (fun k hk=>by have:=(hown k hk).1;omega)
         have cw:=cu.grown aj (fun k hk=>(hown k hk).1)
         have bc:=(aj.block F (Array.getElem?_eq_some_iff.1 bn).1 (fun hh=>ac.ne_blk bn (by decide) hh.symm)).trans bn
         have cg:=(aj.block w.heap.size (Array.getElem?_eq_some_iff.1 bp).1 (fun hh=>ac.ne_blk bp (by decide) hh.symm)).trans bp
         have k1:=(A0y bc).2
         have g1:=A0b bc 1
         clear c0 c1 f1
         refine hK _ _ ?_
         clear hK
         refine wpAny_take (i:=6) (v:=.pointer (some ⟨F,1,none⟩)) rfl (by kernel_rfl) (by kernel_rfl) (by kernel_rfl) (fun _ _ _ h=>h) (Or.inl ⟨by rfl,by intro w;go_simp⟩) ?_
         refine wpAny_ready (rs:=[7]) (by kernel_rfl) (by simp) ?_
         refine AllReady.cons rfl (fun Kc hK=>?_) AllReady.nil
         go_simp
         refine hK _ _ ?_
         clear hK
         refine wpAny_done (by kernel_rfl) ?_ _
         have bw:=heap_setCell_same _ _ 1 _ _ (.slice au n7 ag) bc
         have cj:=(heap_setCell_other w7 ⟨F,1,none⟩ w.heap.size (.slice au n7 ag) (by simp;omega)).trans cg
         have di:=dh.other (F:=F) (by omega) 1 (.slice au n7 ag)
         have df:=cw.setNew (F:=F) (by omega) 1 (.slice au n7 ag)
         have ba:=ah.other (ah.ne_blk bc (by decide)) 1 (.slice au n7 ag)
         go_wp2
         go_meet
         case rel=>exact⟨i,t4,_,HI,ba,bw,cj,di,df⟩
       ·go_simp
        refine(C1z dr.drew hg4.drew' hB).mono ?_
        rintro en w5 ⟨bg,hx⟩
        have ak:=(hrow4.drew').kp bg dn
        have bh:=A0w (w:=w4.drew) bv bg (by omega)
        have bu:=A0w (w:=w4.drew) bt bg (by omega)
        have aw:=bk.drew.trans bg
        cases hn:A4w t3 with
        | error E=>
         rw[hn] at hx
         match E,hx with
         | none,hx=>exact hx.elim
         | some (c,t),hx=>
          obtain⟨ht,rfl⟩:=hx
          have HY:Hid (A5h K r = .error (some (c,t))):=by show _=_;rw[br.out,hn];rfl
          clear hn br hK
          go_wp2
          exact⟨rfl,A0f aw HY.out ht⟩
        | ok p=>
         obtain⟨i,t4⟩:=p
         rw[hn] at hx
         obtain⟨hs5,_,rfl,rfl⟩:=hx
         have HI:Hid (A4w t3 = .ok (i,t4)):=hn
         clear hn
         obtain⟨c0,c1⟩:=A0y bh
         have f1:=A0b bh 1
         have dt:w.heap.size≤w5.heap.size:=aw.size
         have dm:F<w5.heap.size:=(Array.getElem?_eq_some_iff.1 bh).1
         refine hK _ _ ?_
         clear hK
         refine wpAny_ready (rs:=[1,4]) (by kernel_rfl) (by simp) ?_
         refine AllReady.cons rfl (fun Kc hK=>?_) (AllReady.cons rfl (fun Kc hK=>?_) AllReady.nil)
         rotate_right
         focus
          unfold A2g
          go_simp
          refine hK _ _ ?_
          clear hK
          refine wpAny_ready (rs:=[1]) (by kernel_rfl) (by simp) ?_
          refine AllReady.cons rfl (fun Kc hK=>?_) AllReady.nil
         rotate_right
         focus
          go_simp
          refine hK _ _ ?_
          clear hK
          refine wpAny_ready (rs:=[4]) (by kernel_rfl) (by simp) ?_
          refine AllReady.cons rfl (fun Kc hK=>?_) AllReady.nil
          unfold A2g
         all_goals
          go_simp
          refine hK _ _ ?_
          clear hK
          refine wpAny_ready (rs:=[5]) (by kernel_rfl) (by simp) ?_
          refine AllReady.cons rfl (fun Kc hK=>?_) AllReady.nil
          simp only[Region.wanted]
          have bq:Row A6y (w5.alloc (.cells (A2g i).toArray 162)) w.heap.size (.slice (some ⟨w5.heap.size,0,none⟩) 1 1) [i]:=Row.one A6y w5 i dt
          have ac:Row A6y (w5.alloc (.cells (A2g i).toArray 162)) w.heap.size v acc:=ak.below ((Below.refl _ _).alloc (Nat.le_refl _) _)
          have bn:=(Below.heap_alloc w5 (.cells (A2g i).toArray 162) F dm).trans bh
          have bp:=(Below.heap_alloc w5 (.cells (A2g i).toArray 162) w.heap.size (by omega)).trans bu
          have dg:=hs5.alloc (.cells (A2g i).toArray 162)
          have cu:=aw.alloc (.cells (A2g i).toArray 162)
          refine A3r A6y _ _ rfl w.heap.size _ acc [i] rfl ac w.heap.size _ rfl bq (by simp;omega) (by simp;omega) ?_
          intro v7 w7 ah aj
          obtain⟨au,n7,ag,rfl,_⟩:=ah.shape'
          have hown:=ac.own
          have dh:=dg.grown aj (fun k hk=>by have:=(hown k hk).1;omega)
          have cw:=cu.grown aj (fun k hk=>(hown k hk).1)
          have bc:=(aj.block F (Array.getElem?_eq_some_iff.1 bn).1 (fun hh=>ac.ne_blk bn (by decide) hh.symm)).trans bn
          have cg:=(aj.block w.heap.size (Array.getElem?_eq_some_iff.1 bp).1 (fun hh=>ac.ne_blk bp (by decide) hh.symm)).trans bp
          have k1:=(A0y bc).2
          have g1:=A0b bc 1
          clear c0 c1 f1
          refine hK _ _ ?_
          clear hK
          refine wpAny_take (i:=6) (v:=.pointer (some ⟨F,1,none⟩)) rfl (by kernel_rfl) (by kernel_rfl) (by kernel_rfl) (fun _ _ _ h=>h) (Or.inl ⟨by rfl,by intro w;go_simp⟩) ?_
          refine wpAny_ready (rs:=[7]) (by kernel_rfl) (by simp) ?_
          refine AllReady.cons rfl (fun Kc hK=>?_) AllReady.nil
          go_simp
          refine hK _ _ ?_
          clear hK
          refine wpAny_done (by kernel_rfl) ?_ _
          have bw:=heap_setCell_same _ _ 1 _ _ (.slice au n7 ag) bc
          have cj:=(heap_setCell_other w7 ⟨F,1,none⟩ w.heap.size (.slice au n7 ag) (by simp;omega)).trans cg
          have di:=dh.other (F:=F) (by omega) 1 (.slice au n7 ag)
          have df:=cw.setNew (F:=F) (by omega) 1 (.slice au n7 ag)
          have ba:=ah.other (ah.ne_blk bc (by decide)) 1 (.slice au n7 ag)
          go_wp2
          go_meet
          case rel=>exact⟨i,t4,_,HI,ba,bw,cj,di,df⟩
      case rest=>
       obtain⟨i,t4,v5,HI,ak,bh,bu,hs5,bg⟩:=hcut
       obtain⟨ee,d9,rfl⟩:=ak.shape
       have c1:=(A0y bh).2
       have ei:(acc++[i]).length=acc.length+1:=by simp
       by_cases h16:16<acc.length+1
       ·have HY:Hid (A5h K r = .error (some (5,t4))):=by show _=_;rw[br.out,HI.out];show(if _ then _ else _)=_;rw[if_pos (by omega)]
        go_wp2_with fail
        refine(A0s hs5 5).mono ?_
        rintro en w6 ⟨rfl,rfl⟩
        go_wp2
        exact⟨rfl,A0f bg HY.out hs5.2.1⟩
       ·have HY:Hid (A5h K r=A8b k ⟨nm,acc++[i]⟩ t4):=by show _=_;rw[br.out,HI.out];show(if _ then _ else _)=_;rw[if_neg (by omega)]
        go_wp2_with fail
        go_roundg k
        case measure=>omega
        case rel=>exact⟨acc++[i],t4,_,ak,bh,bu,hs5,bg,by simp;omega,HY⟩
end Go.Proofs.YtgaoojpakjjdnaaGreatDoor
