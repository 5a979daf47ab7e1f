import Derived.Test.YtgaoojpakjjdnaaGreatDoorX42
import Derived.Deep.CutRange
set_option maxHeartbeats 32000000
set_option maxRecDepth 100000
namespace Go.Proofs.YtgaoojpakjjdnaaGreatDoor
open Go.RowKit
theorem Row.other {α:Type}{E:EK α}{w:World}{base g:Nat}{v:Value}{l:List α}(h:Row E w base v l)(hne:v.ownBlock≠some g)(i:Nat)(x:Value):Row E (w.setCell ⟨g,i,none⟩ x) base v l:=by
 refine⟨h.1,?_⟩
 rcases h.2 with hn|⟨g',cap,cur,hv,hbg,hg,r⟩
 ·exact .inl hn
 ·refine .inr ⟨g',cap,cur,hv,hbg,?_,r⟩
  rw[Below.heap_setCell _ _ _ _ (by intro e;apply hne;rw[hv];simp[Value.ownBlock];exact e)]
  exact hg
theorem Row.ne_blk {α:Type}{E:EK α}{w:World}{base g:Nat}{v:Value}{l:List α}(h:Row E w base v l){cs:Array Value}{t:TypeId}{fr:Nat×Nat}(hb:w.heap[g]?=some (.cells cs t fr))(ht:t≠E.elem):v.ownBlock≠some g:=by
 rcases h.2 with⟨hv,_⟩|⟨g',cap,cur,hv,_,hg,_⟩
 ·rw[hv];simp[Value.ownBlock]
 ·rw[hv]
  simp only[Value.ownBlock,ne_eq,Option.some.injEq]
  intro e
  rw[e,hb] at hg
  simp at hg
  exact ht hg.2.1
theorem Row.drew' {α:Type}{E:EK α}{w:World}{base:Nat}{v:Value}{l:List α}(h:Row E w base v l):Row E w.drew base v l:=h
theorem Gl.drew' {B:Nat}{w:World}(h:Gl B w):Gl B w.drew:=h.later ((Below.refl _ _).drew)
theorem Row.shape' {α:Type}{E:EK α}{w:World}{base:Nat}{v:Value}{l:List α}(h:Row E w base v l):∃ ao n cap,v = .slice ao n cap∧Hid (n=l.length):=by
 obtain⟨ao,cap,hv⟩:=h.shape
 exact⟨ao,_,cap,hv,rfl⟩
def E2y (w:World)(base:Nat)(x:Enm)(v:Value):Prop:=∃ vi,v = .agg #[.string (S x.name),vi]∧Row A7e w base vi x.items
theorem A9j {B b:Nat}{txt r:List UInt8}{m e:Value}{w:World}(h:St w b txt r m e)(hg:Gl B w)(hB:B≤b)(K:Nat)(hN:A4j K r≠.error none) :
  Calls Tryz.prog 192 #[.pointer (some ⟨b,0,none⟩)] w (C7n b txt m e w (fun x v w'=>E2y w' w.heap.size x v) (A4j K r)):=by
 have dr:=h.lt
 have HN:Hid (A4j K r≠.error none):=hN
 have HX:Hid (A4j K r=R.thn (A3o r) fun nm u=>R.thn (A1q 123 u) fun _ u=>A3r K ⟨nm,[]⟩ u):=rfl
 clear hN
 go_enter Tryz.func192,Tryz.ntmps192
 go_wp2_with fail
 refine(A9s (h.alloc _)).mono ?_
 rintro en w1 ⟨dt,hx⟩
 have hR:w1.heap[w.heap.size]?=some (.cells #[.string ⟨#[]⟩,.slice none 0 0] 100 (0,0)):=A0q (heap_alloc_new w _) dt (by omega)
 have hz1:w.heap.size+1≤w1.heap.size:=by have:=dt.size;simpa using this
 have bp:Kp b w w1:=((Kp.refl b w).alloc _).trans dt
 clear dt
 cases hn:A3o r with
 | error E=>
  rw[hn] at hx
  match E,hx with
  | none,hx=>exact hx.elim
  | some (c,t),hx=>
   obtain⟨ht,rfl⟩:=hx
   have HY:Hid (A4j K r = .error (some (c,t))):=by show _=_;rw[HX.out,hn];rfl
   clear hn HX
   go_wp2
   exact⟨rfl,A0f bp HY.out ht⟩
 | ok p=>
  obtain⟨nm,t1⟩:=p
  rw[hn] at hx
  obtain⟨hs1,_,rfl,rfl⟩:=hx
  have dn:Hid (A4j K r=R.thn (A1q 123 t1) fun _ u=>A3r K ⟨nm,[]⟩ u):=by show _=_;rw[HX.out,hn];rfl
  clear hn HX
  have hF2:=heap_alloc_new w1 (.cells #[.string (S nm),.slice none 0 0] 100)
  have d9:=(Below.heap_alloc w1 (.cells #[.string (S nm),.slice none 0 0] 100) w.heap.size (by omega)).trans hR
  have hs2:=hs1.alloc (.cells #[.string (S nm),.slice none 0 0] 100)
  have hk2:=bp.alloc (.cells #[.string (S nm),.slice none 0 0] 100)
  clear bp hR hs1
  go_wp2_with fail
  generalize w1.alloc (.cells #[.string (S nm),.slice none 0 0] 100)=W2 at *
  obtain⟨F,dx⟩:∃ F,Hid (F=w1.heap.size):=⟨_,rfl⟩
  have ej:w.heap.size+1≤F:=by rw[dx.out];exact hz1
  rw[←dx.out] at hF2 ⊢
  clear hz1
  refine(A4t hs2 123).mono ?_
  rintro en w3 ⟨hk3,hx⟩
  have dz:=A0q hF2 hk3 (by omega)
  have ee:=A0q d9 hk3 (by omega)
  have bp:=hk2.trans hk3
  clear hF2 d9 hs2 hk2 hk3
  cases hn:A1q 123 t1 with
  | error E=>
   rw[hn] at hx
   match E,hx with
   | none,hx=>exact hx.elim
   | some (c,t),hx=>
    obtain⟨ht,rfl⟩:=hx
    have HY:Hid (A4j K r = .error (some (c,t))):=by show _=_;rw[dn.out,hn];rfl
    clear hn dn
    go_wp2
    exact⟨rfl,A0f bp HY.out ht⟩
  | ok p=>
   obtain⟨_,t2⟩:=p
   rw[hn] at hx
   obtain⟨hs3,_,rfl,rfl⟩:=hx
   have dy:Hid (A4j K r=A3r K ⟨nm,[]⟩ t2):=by show _=_;rw[dn.out,hn];rfl
   clear hn dn
   go_wp2_with fail
   go_loopg [] K (fun k wr=>∃ acc q v,Row A7e wr w.heap.size v acc∧wr.heap[F]?=some (.cells #[.string (S nm),v] 100 (0,0))∧wr.heap[w.heap.size]?=some (.cells #[.string ⟨#[]⟩,.slice none 0 0] 100 (0,0))∧St wr b txt q m e∧Kp b w wr∧acc.length≤16∧Hid (A4j K r=A3r k ⟨nm,acc⟩ q))
   case atStart=>exact⟨[],t2,.slice none 0 0,Row.nil _ _ _,dz,ee,hs3,bp,by simp,dy⟩
   case round=>
    clear dz ee hs3 bp dy
    obtain⟨acc,q,v,hrow,hF,hR,hs,hk,hlen,HR⟩:=hrel
    cases gk with
    | zero=>exact absurd HR.out HN.out
    | succ k=>
     go_wp2_with fail
     refine(A8f hs 125).mono ?_
     rintro en w4 ⟨rfl,dv,hk4⟩
     have hrow4:=hrow.kp hk4 dr
     have cg:=A0q hF hk4 (by omega)
     have bv:=A0q hR hk4 (by omega)
     have bp:=hk.trans hk4
     clear hrow hs hk hF hR hk4
     generalize hq:A4c 125 q=mq at dv ⊢
     obtain⟨ok,t3⟩:=mq
     cases ok with
     | true=>
      have bu:Hid (A4j K r = .ok (⟨nm,acc⟩,t3)):=by show _=_;rw[HR.out,A3r,hq]
      clear hq HR
      obtain⟨c0,c1⟩:=A0r cg
      obtain⟨d0,d1⟩:=A0r bv
      have g0:=A0b bv 0
      have g1:=A0b bv 1
      obtain⟨ao,cap,rfl⟩:=hrow4.shape
      go_wp2
      refine bodyPost_ret (v:=.agg #[.string (S nm),.slice ao acc.length cap]) (by simp[results,Tryz.results192,go_sem, *]) rfl ?_
      have bh:=(bp.setNew (F:=w.heap.size) (by omega) 0 (.string (S nm))).setNew (F:=w.heap.size) (by omega) 1 (.slice ao acc.length cap)
      refine A5l bh bu.out ((dv.other (by omega) _ _).other (by omega) _ _) ⟨_,rfl,?_⟩
      exact(hrow4.other (hrow4.ne_blk bv (by decide)) _ _).other (hrow4.ne_blk bv (by decide)) _ _
     | false=>
      have bu:Hid (A4j K r=R.thn (A3n t3) fun i u=>if 16<(acc++[i]).length then .error (some (5,u)) else A3r k ⟨nm,acc++[i]⟩ u):=by show _=_;rw[HR.out,A3r,hq]
      clear hq HR
      obtain⟨c0,c1⟩:=A0r cg
      have hg4:Gl B w4:=hg.kp hB dr bp
      clear c0 c1
      go_wp2_with fail
      have c1:=(A0r cg).2
      go_cut [] from 13 to 32 (fun wc=>∃ i t4 v5,Hid (A3n t3 = .ok (i,t4))∧Row A7e wc w.heap.size v5 (acc++[i])∧wc.heap[F]?=some (.cells #[.string (S nm),v5] 100 (0,0))∧wc.heap[w.heap.size]?=some (.cells #[.string ⟨#[]⟩,.slice none 0 0] 100 (0,0))∧St wc b txt t4 m e∧Kp b w wc)
      case first=>
       refine wp_region_any (by kernel_rfl) ?_
       change wpAny _ _ _ _ _ _ _ (World.drew _)
       refine wpAny_take (i:=0) (v:=.pointer (some ⟨F,1,none⟩)) rfl (by kernel_rfl) (by kernel_rfl) (by kernel_rfl) (fun _ _ _ h=>h) (Or.inl ⟨by rfl,by intro w;go_simp⟩) ?_
       refine wpAny_take (i:=2) (v:=.pointer (some ⟨b,0,none⟩)) rfl (by kernel_rfl) (by kernel_rfl) (by kernel_rfl) (fun _ _ _ h=>h) (Or.inl ⟨by rfl,by intro w;go_simp⟩) ?_
       refine wpAny_ready (rs:=[1,3]) (by kernel_rfl) (by simp) ?_
       refine AllReady.cons rfl (fun Kc hK=>?_) (AllReady.cons rfl (fun Kc hK=>?_) AllReady.nil)
       ·go_simp
        refine hK _ _ ?_
        clear hK
        refine wpAny_ready (rs:=[3]) (by kernel_rfl) (by simp) ?_
        refine AllReady.cons rfl (fun Kc hK=>?_) AllReady.nil
        go_simp
        refine(C2w dv.drew hg4.drew' hB).mono ?_
        rintro en w5 ⟨bh,hx⟩
        have ak:=(hrow4.drew').kp bh dr
        have bk:=A0q (w:=w4.drew) cg bh (by omega)
        have bw:=A0q (w:=w4.drew) bv bh (by omega)
        have aw:=bp.drew.trans bh
        cases hn:A3n t3 with
        | error E=>
         rw[hn] at hx
         match E,hx with
         | none,hx=>exact hx.elim
         | some (c,t),hx=>
          obtain⟨ht,rfl⟩:=hx
          have HY:Hid (A4j K r = .error (some (c,t))):=by show _=_;rw[bu.out,hn];rfl
          clear hn bu hK
          go_wp2
          exact⟨rfl,A0f aw HY.out ht⟩
        | ok p=>
         obtain⟨i,t4⟩:=p
         rw[hn] at hx
         obtain⟨hs5,_,rfl,rfl⟩:=hx
         have HI:Hid (A3n t3 = .ok (i,t4)):=hn
         clear hn
         obtain⟨c0,c1⟩:=A0r bk
         have f1:=A0b bk 1
         have dw:w.heap.size≤w5.heap.size:=aw.size
         have dp:F<w5.heap.size:=(Array.getElem?_eq_some_iff.1 bk).1
         refine hK _ _ ?_
         clear hK
         refine wpAny_ready (rs:=[4]) (by kernel_rfl) (by simp) ?_
         refine AllReady.cons rfl (fun Kc hK=>?_) AllReady.nil
         unfold A2c
         go_simp
         refine hK _ _ ?_
         clear hK
         refine wpAny_ready (rs:=[5]) (by kernel_rfl) (by simp) ?_
         refine AllReady.cons rfl (fun Kc hK=>?_) AllReady.nil
         simp only[Region.wanted]
         have bt:Row A7e (w5.alloc (.cells (A2c i).toArray 162)) w.heap.size (.slice (some ⟨w5.heap.size,0,none⟩) 1 1) [i]:=Row.one A7e w5 i dw
         have ac:Row A7e (w5.alloc (.cells (A2c i).toArray 162)) w.heap.size v acc:=ak.below ((Below.refl _ _).alloc (Nat.le_refl _) _)
         have bq:=(Below.heap_alloc w5 (.cells (A2c i).toArray 162) F dp).trans bk
         have br:=(Below.heap_alloc w5 (.cells (A2c i).toArray 162) w.heap.size (by omega)).trans bw
         have di:=hs5.alloc (.cells (A2c i).toArray 162)
         have df:=aw.alloc (.cells (A2c i).toArray 162)
         refine A3w A7e _ _ rfl w.heap.size _ acc [i] rfl ac w.heap.size _ rfl bt (by simp;omega) (by simp;omega) ?_
         intro v7 w7 ah aj
         obtain⟨au,n7,ag,rfl,_⟩:=ah.shape'
         have hown:=ac.own
         have dl:=di.grown aj (fun k hk=>by have:=(hown k hk).1;omega)
         have dg:=df.grown aj (fun k hk=>(hown k hk).1)
         have bg:=(aj.block F (Array.getElem?_eq_some_iff.1 bq).1 (fun hh=>ac.ne_blk bq (by decide) hh.symm)).trans bq
         have cu:=(aj.block w.heap.size (Array.getElem?_eq_some_iff.1 br).1 (fun hh=>ac.ne_blk br (by decide) hh.symm)).trans br
         have k1:=(A0r bg).2
         have g1:=A0b bg 1
         clear c0 c1 f1
         refine hK _ _ ?_
         clear hK
         refine wpAny_take (i:=6) (v:=.pointer (some ⟨F,1,none⟩)) rfl (by kernel_rfl) (by kernel_rfl) (by kernel_rfl) (fun _ _ _ h=>h) (Or.inl ⟨by rfl,by intro w;go_simp⟩) ?_
         refine wpAny_ready (rs:=[7]) (by kernel_rfl) (by simp) ?_
         refine AllReady.cons rfl (fun Kc hK=>?_) AllReady.nil
         go_simp
         refine hK _ _ ?_
         clear hK
         refine wpAny_done (by kernel_rfl) ?_ _
         have cj:=heap_setCell_same _ _ 1 _ _ (.slice au n7 ag) bg
         have cw:=(heap_setCell_other w7 ⟨F,1,none⟩ w.heap.size (.slice au n7 ag) (by simp;omega)).trans cu
         have dm:=dl.other (F:=F) (by omega) 1 (.slice au n7 ag)
         have dh:=dg.setNew (F:=F) (by omega) 1 (.slice au n7 ag)
         have a8:=ah.other (ah.ne_blk bg (by decide)) 1 (.slice au n7 ag)
         go_wp2
         go_meet
         case rel=>exact⟨i,t4,_,HI,a8,cj,cw,dm,dh⟩
       ·go_simp
        refine(C2w dv.drew hg4.drew' hB).mono ?_
        rintro en w5 ⟨bh,hx⟩
        have ak:=(hrow4.drew').kp bh dr
        have bk:=A0q (w:=w4.drew) cg bh (by omega)
        have bw:=A0q (w:=w4.drew) bv bh (by omega)
        have aw:=bp.drew.trans bh
        cases hn:A3n t3 with
        | error E=>
         rw[hn] at hx
         match E,hx with
         | none,hx=>exact hx.elim
         | some (c,t),hx=>
          obtain⟨ht,rfl⟩:=hx
          have HY:Hid (A4j K r = .error (some (c,t))):=by show _=_;rw[bu.out,hn];rfl
          clear hn bu hK
          go_wp2
          exact⟨rfl,A0f aw HY.out ht⟩
        | ok p=>
         obtain⟨i,t4⟩:=p
         rw[hn] at hx
         obtain⟨hs5,_,rfl,rfl⟩:=hx
         have HI:Hid (A3n t3 = .ok (i,t4)):=hn
         clear hn
         obtain⟨c0,c1⟩:=A0r bk
         have f1:=A0b bk 1
         have dw:w.heap.size≤w5.heap.size:=aw.size
         have dp:F<w5.heap.size:=(Array.getElem?_eq_some_iff.1 bk).1
         refine hK _ _ ?_
         clear hK
         refine wpAny_ready (rs:=[1,4]) (by kernel_rfl) (by simp) ?_
         refine AllReady.cons rfl (fun Kc hK=>?_) (AllReady.cons rfl (fun Kc hK=>?_) AllReady.nil)
         rotate_right
         focus
          unfold A2c
          go_simp
          refine hK _ _ ?_
          clear hK
          refine wpAny_ready (rs:=[1]) (by kernel_rfl) (by simp) ?_
          refine AllReady.cons rfl (fun Kc hK=>?_) AllReady.nil
         rotate_right
         focus
          go_simp
          refine hK _ _ ?_
          clear hK
          refine wpAny_ready (rs:=[4]) (by kernel_rfl) (by simp) ?_
          refine AllReady.cons rfl (fun Kc hK=>?_) AllReady.nil
          unfold A2c
         all_goals
          go_simp
          refine hK _ _ ?_
          clear hK
          refine wpAny_ready (rs:=[5]) (by kernel_rfl) (by simp) ?_
          refine AllReady.cons rfl (fun Kc hK=>?_) AllReady.nil
          simp only[Region.wanted]
          have bt:Row A7e (w5.alloc (.cells (A2c i).toArray 162)) w.heap.size (.slice (some ⟨w5.heap.size,0,none⟩) 1 1) [i]:=Row.one A7e w5 i dw
          have ac:Row A7e (w5.alloc (.cells (A2c i).toArray 162)) w.heap.size v acc:=ak.below ((Below.refl _ _).alloc (Nat.le_refl _) _)
          have bq:=(Below.heap_alloc w5 (.cells (A2c i).toArray 162) F dp).trans bk
          have br:=(Below.heap_alloc w5 (.cells (A2c i).toArray 162) w.heap.size (by omega)).trans bw
          have di:=hs5.alloc (.cells (A2c i).toArray 162)
          have df:=aw.alloc (.cells (A2c i).toArray 162)
          refine A3w A7e _ _ rfl w.heap.size _ acc [i] rfl ac w.heap.size _ rfl bt (by simp;omega) (by simp;omega) ?_
          intro v7 w7 ah aj
          obtain⟨au,n7,ag,rfl,_⟩:=ah.shape'
          have hown:=ac.own
          have dl:=di.grown aj (fun k hk=>by have:=(hown k hk).1;omega)
          have dg:=df.grown aj (fun k hk=>(hown k hk).1)
          have bg:=(aj.block F (Array.getElem?_eq_some_iff.1 bq).1 (fun hh=>ac.ne_blk bq (by decide) hh.symm)).trans bq
          have cu:=(aj.block w.heap.size (Array.getElem?_eq_some_iff.1 br).1 (fun hh=>ac.ne_blk br (by decide) hh.symm)).trans br
          have k1:=(A0r bg).2
          have g1:=A0b bg 1
          clear c0 c1 f1
          refine hK _ _ ?_
          clear hK
          refine wpAny_take (i:=6) (v:=.pointer (some ⟨F,1,none⟩)) rfl (by kernel_rfl) (by kernel_rfl) (by kernel_rfl) (fun _ _ _ h=>h) (Or.inl ⟨by rfl,by intro w;go_simp⟩) ?_
          refine wpAny_ready (rs:=[7]) (by kernel_rfl) (by simp) ?_
          refine AllReady.cons rfl (fun Kc hK=>?_) AllReady.nil
          go_simp
          refine hK _ _ ?_
          clear hK
          refine wpAny_done (by kernel_rfl) ?_ _
          have cj:=heap_setCell_same _ _ 1 _ _ (.slice au n7 ag) bg
          have cw:=(heap_setCell_other w7 ⟨F,1,none⟩ w.heap.size (.slice au n7 ag) (by simp;omega)).trans cu
          have dm:=dl.other (F:=F) (by omega) 1 (.slice au n7 ag)
          have dh:=dg.setNew (F:=F) (by omega) 1 (.slice au n7 ag)
          have a8:=ah.other (ah.ne_blk bg (by decide)) 1 (.slice au n7 ag)
          go_wp2
          go_meet
          case rel=>exact⟨i,t4,_,HI,a8,cj,cw,dm,dh⟩
      case rest=>
       obtain⟨i,t4,v5,HI,ak,bk,bw,hs5,bh⟩:=hcut
       obtain⟨ei,eh,rfl⟩:=ak.shape
       have c1:=(A0r bk).2
       have eo:(acc++[i]).length=acc.length+1:=by simp
       by_cases h16:16<acc.length+1
       ·have HY:Hid (A4j K r = .error (some (5,t4))):=by show _=_;rw[bu.out,HI.out];show(if _ then _ else _)=_;rw[if_pos (by omega)]
        go_wp2_with fail
        refine(A0n hs5 5).mono ?_
        rintro en w6 ⟨rfl,rfl⟩
        go_wp2
        exact⟨rfl,A0f bh HY.out hs5.2.1⟩
       ·have HY:Hid (A4j K r=A3r k ⟨nm,acc++[i]⟩ t4):=by show _=_;rw[bu.out,HI.out];show(if _ then _ else _)=_;rw[if_neg (by omega)]
        go_wp2_with fail
        go_roundg k
        case measure=>omega
        case rel=>exact⟨acc++[i],t4,_,ak,bk,bw,hs5,bh,by simp;omega,HY⟩
end Go.Proofs.YtgaoojpakjjdnaaGreatDoor
