import Derived.Test.YtgaoojpakjjdnaaGreatDoorU42
import Derived.Deep.CutRange
set_option maxHeartbeats 32000000
set_option maxRecDepth 100000
namespace Go.Proofs.YtgaoojpakjjdnaaGreatDoor
open Go.RowKit
theorem B1a {B b:Nat}{txt r:List UInt8}{m e:Value}{w:World}(h:St w b txt r m e) (hg:Gl B w) (hB:B≤b) (K ch:Nat) (hN:A1r K ch r≠.error none) :
  Calls Tryz.prog 230 #[.pointer (some ⟨b,0,none⟩),.int .i64 (ch:Int)] w (B9z b txt m e w (fun l v w'=>Row A3h w' w.heap.size v l) (A1r K ch r)):=by
 have aw:=h.lt
 have hl0:r.length≤3000:=by have:=h.1;have:=h.2.1;omega
 have HN:Hid (A1r K ch r≠.error none):=hN
 have HX:Hid (A1r K ch r=R.thn (A1k 123 r) fun _ u=>A2r ch K [] u):=rfl
 clear hN
 go_enter Tryz.func230,Tryz.ntmps230
 go_wp2_with fail
 refine(A3j h 123).mono ?_
 rintro en w1 ⟨ac,hx⟩
 cases hn:A1k 123 r with
 | error E=>
  rw[hn] at hx
  match E,hx with
  | none,hx=>exact hx.elim
  | some (c,t),hx=>
   obtain⟨ht,rfl⟩:=hx
   have HY:Hid (A1r K ch r = .error (some (c,t))):=by show _=_;rw[HX.out,hn];rfl
   clear hn HX
   go_wp2
   exact⟨rfl,A0f ac HY.out ht⟩
 | ok p=>
  obtain⟨_,t1⟩:=p
  rw[hn] at hx
  obtain⟨hs1,_,rfl,rfl⟩:=hx
  have bc:Hid (A1r K ch r=A2r ch K [] t1):=by show _=_;rw[HX.out,hn];rfl
  have bk:=A7e hn
  clear hn HX
  go_wp2_with fail
  go_loopg [5] K (fun k v wr=>∃ acc q,Row A3h wr w.heap.size v acc∧St wr b txt q m e∧Kp b w wr∧acc.length+q.length≤3001∧Hid (A1r K ch r=A2r ch k acc q))
  case atStart=>exact⟨[],t1,Row.nil _ _ _,hs1,ac,by simp;omega,bc⟩
  case round=>
   clear hs1 ac bc
   obtain⟨acc,q,hrow,hs,hk,hlen,HR⟩:=hrel
   cases gk with
   | zero=>exact absurd HR.out HN.out
   | succ k=>
    go_wp2_with fail
    refine(A5u hs 125).mono ?_
    rintro en w2 ⟨rfl,hs2,hk2⟩
    have hrow2:=hrow.kp hk2 aw
    have ac:=hk.trans hk2
    have ak:=(A7c 125 q).1
    clear hrow hs hk
    generalize hq:A2z 125 q=mq at hs2 ak ⊢
    obtain⟨ok,t2⟩:=mq
    cases ok with
    | false=>
     have aj:Hid (A1r K ch r=R.thn (A1s false ch t2) fun f u=>A2r ch k (acc++[f]) u):=by show _=_;rw[HR.out,A2r,hq]
     have hlt:t2.length≤q.length:=ak
     clear hq HR ak
     have hg2:Gl B w2:=hg.kp hB aw ac
     go_wp2_with fail
     refine(A2h hs2 hg2 hB false ch).mono ?_
     rintro en w3 ⟨hk3,hx⟩
     have hrow3:=hrow2.kp hk3 aw
     replace ac:=ac.trans hk3
     clear hs2 hk3 hk2 hrow2 hg2
     cases hn:A1s false ch t2 with
     | error E=>
      rw[hn] at hx
      match E,hx with
      | none,hx=>exact hx.elim
      | some (c,t),hx=>
       obtain⟨ht,rfl⟩:=hx
       have HY:Hid (A1r K ch r = .error (some (c,t))):=by show _=_;rw[aj.out,hn];rfl
       clear hn aj
       go_wp2
       exact⟨rfl,A0f ac HY.out ht⟩
     | ok p=>
      obtain⟨f,t3⟩:=p
      rw[hn] at hx
      obtain⟨hs3,_,rfl,rfl⟩:=hx
      have au:Hid (A1r K ch r=A2r ch k (acc++[f]) t3):=by show _=_;rw[aj.out,hn];rfl
      have bl:=B3d hn
      clear hn aj
      have hz3:w.heap.size≤w3.heap.size:=ac.size
      have ba:Row A3h (w3.alloc (.cells (A1g f).toArray 40)) w.heap.size (.slice (some ⟨w3.heap.size,0,none⟩) 1 1) [f]:=Row.one A3h w3 f hz3
      have hrow4:Row A3h (w3.alloc (.cells (A1g f).toArray 40)) w.heap.size u5 acc:=hrow3.below ((Below.refl _ _).alloc (Nat.le_refl _) _)
      have bh:=hs3.alloc (.cells (A1g f).toArray 40)
      have hk4:=ac.alloc (.cells (A1g f).toArray 40)
      clear hs3 ac hrow3
      unfold A1g at *
      go_wp2_with (at_builtin;refine A2q rfl A3h _ _ rfl w.heap.size _ acc [f] rfl hrow4 w.heap.size _ rfl ba ?e1 ?e2 ?_)
      case e1=>simp;omega
      case e2=>simp;omega
      intro v5 w5 ah ag
      have hown:=hrow4.own
      have hs5:=bh.grown ag (fun k hk=>by have:=(hown k hk).1;omega)
      have bg:=hk4.grown ag (fun k hk=>(hown k hk).1)
      go_wp2_with fail
      go_roundg k
      case measure=>omega
      case rel=>exact⟨acc++[f],t3,ah,hs5,bg,by simp;omega,au⟩
    | true=>
     have au:Hid (A1r K ch r = .ok (acc,t2)):=by show _=_;rw[HR.out,A2r,hq]
     clear hq HR ak
     go_wp2
     go_ret
     exact A3u ac au.out hs2 hrow2
end Go.Proofs.YtgaoojpakjjdnaaGreatDoor
namespace Go.Proofs.YtgaoojpakjjdnaaGreatDoor
open Go.RowKit
theorem Row.other {α:Type}{E:EK α}{w:World}{base g:Nat}{v:Value}{l:List α}(h:Row E w base v l) (hne:v.ownBlock≠some g) (i:Nat) (x:Value):Row E (w.setCell ⟨g,i,none⟩ x) base v l:=by
 refine⟨h.1,?_⟩
 rcases h.2 with hn|⟨g',cap,cur,hv,hbg,hg,r⟩
 ·exact .inl hn
 ·refine .inr ⟨g',cap,cur,hv,hbg,?_,r⟩
  rw[Below.heap_setCell _ _ _ _ (by intro e;apply hne;rw[hv];simp[Value.ownBlock];exact e)]
  exact hg
theorem Row.ne_blk {α:Type}{E:EK α}{w:World}{base g:Nat}{v:Value}{l:List α}(h:Row E w base v l){cs:Array Value}{t:TypeId}{fr:Nat×Nat}(hb:w.heap[g]?=some (.cells cs t fr)) (ht:t≠E.elem):v.ownBlock≠some g:=by
 rcases h.2 with⟨hv,_⟩|⟨g',cap,cur,hv,_,hg,_⟩
 ·rw[hv];simp[Value.ownBlock]
 ·rw[hv]
  simp only[Value.ownBlock,ne_eq,Option.some.injEq]
  intro e
  rw[e,hb] at hg
  simp at hg
  exact ht hg.2.1
theorem Row.drew' {α:Type}{E:EK α}{w:World}{base:Nat}{v:Value}{l:List α}(h:Row E w base v l):Row E w.drew base v l:=h
theorem Gl.drew' {B:Nat}{w:World}(h:Gl B w):Gl B w.drew:=h.later ((Below.refl _ _).drew)
theorem Row.shape' {α:Type}{E:EK α}{w:World}{base:Nat}{v:Value}{l:List α}(h:Row E w base v l):∃ ao n cap,v = .slice ao n cap∧Hid (n=l.length):=by
 obtain⟨ao,cap,hv⟩:=h.shape
 exact⟨ao,_,cap,hv,rfl⟩
def D1w (w:World) (base:Nat) (x:Enm) (v:Value):Prop:=∃ vi,v = .agg #[.string (S x.name),vi]∧Row A5d w base vi x.items
theorem A6x {B b:Nat}{txt r:List UInt8}{m e:Value}{w:World}(h:St w b txt r m e) (hg:Gl B w) (hB:B≤b) (K:Nat) (hN:A3y K r≠.error none) :
  Calls Tryz.prog 192 #[.pointer (some ⟨b,0,none⟩)] w (B9z b txt m e w (fun x v w'=>D1w w' w.heap.size x v) (A3y K r)):=by
 have dm:=h.lt
 have HN:Hid (A3y K r≠.error none):=hN
 have HX:Hid (A3y K r=R.thn (A3f r) fun nm u=>R.thn (A1k 123 u) fun _ u=>A6b K ⟨nm,[]⟩ u):=rfl
 clear hN
 go_enter Tryz.func192,Tryz.ntmps192
 go_wp2_with fail
 refine(A7f (h.alloc _)).mono ?_
 rintro en w1 ⟨dn,hx⟩
 have hR:w1.heap[w.heap.size]?=some (.cells #[.string ⟨#[]⟩,.slice none 0 0] 100 (0,0)):=A0q (heap_alloc_new w _) dn (by omega)
 have hz1:w.heap.size+1≤w1.heap.size:=by have:=dn.size;simpa using this
 have bk:Kp b w w1:=((Kp.refl b w).alloc _).trans dn
 clear dn
 cases hn:A3f r with
 | error E=>
  rw[hn] at hx
  match E,hx with
  | none,hx=>exact hx.elim
  | some (c,t),hx=>
   obtain⟨ht,rfl⟩:=hx
   have HY:Hid (A3y K r = .error (some (c,t))):=by show _=_;rw[HX.out,hn];rfl
   clear hn HX
   go_wp2
   exact⟨rfl,A0f bk HY.out ht⟩
 | ok p=>
  obtain⟨nm,t1⟩:=p
  rw[hn] at hx
  obtain⟨hs1,_,rfl,rfl⟩:=hx
  have di:Hid (A3y K r=R.thn (A1k 123 t1) fun _ u=>A6b K ⟨nm,[]⟩ u):=by show _=_;rw[HX.out,hn];rfl
  clear hn HX
  have hF2:=heap_alloc_new w1 (.cells #[.string (S nm),.slice none 0 0] 100)
  have dx:=(Below.heap_alloc w1 (.cells #[.string (S nm),.slice none 0 0] 100) w.heap.size (by omega)).trans hR
  have hs2:=hs1.alloc (.cells #[.string (S nm),.slice none 0 0] 100)
  have hk2:=bk.alloc (.cells #[.string (S nm),.slice none 0 0] 100)
  clear bk hR hs1
  go_wp2_with fail
  generalize w1.alloc (.cells #[.string (S nm),.slice none 0 0] 100)=W2 at *
  obtain⟨F,dt⟩:∃ F,Hid (F=w1.heap.size):=⟨_,rfl⟩
  have ee:w.heap.size+1≤F:=by rw[dt.out];exact hz1
  rw[←dt.out] at hF2 ⊢
  clear hz1
  refine(A3j hs2 123).mono ?_
  rintro en w3 ⟨hk3,hx⟩
  have dw:=A0q hF2 hk3 (by omega)
  have dy:=A0q dx hk3 (by omega)
  have bk:=hk2.trans hk3
  clear hF2 dx hs2 hk2 hk3
  cases hn:A1k 123 t1 with
  | error E=>
   rw[hn] at hx
   match E,hx with
   | none,hx=>exact hx.elim
   | some (c,t),hx=>
    obtain⟨ht,rfl⟩:=hx
    have HY:Hid (A3y K r = .error (some (c,t))):=by show _=_;rw[di.out,hn];rfl
    clear hn di
    go_wp2
    exact⟨rfl,A0f bk HY.out ht⟩
  | ok p=>
   obtain⟨_,t2⟩:=p
   rw[hn] at hx
   obtain⟨hs3,_,rfl,rfl⟩:=hx
   have dv:Hid (A3y K r=A6b K ⟨nm,[]⟩ t2):=by show _=_;rw[di.out,hn];rfl
   clear hn di
   go_wp2_with fail
   go_loopg [] K (fun k wr=>∃ acc q v,Row A5d wr w.heap.size v acc∧wr.heap[F]?=some (.cells #[.string (S nm),v] 100 (0,0))∧wr.heap[w.heap.size]?=some (.cells #[.string ⟨#[]⟩,.slice none 0 0] 100 (0,0))∧St wr b txt q m e∧Kp b w wr∧acc.length≤16∧Hid (A3y K r=A6b k ⟨nm,acc⟩ q))
   case atStart=>exact⟨[],t2,.slice none 0 0,Row.nil _ _ _,dw,dy,hs3,bk,by simp,dv⟩
   case round=>
    clear dw dy hs3 bk dv
    obtain⟨acc,q,v,hrow,hF,hR,hs,hk,hlen,HR⟩:=hrel
    cases gk with
    | zero=>exact absurd HR.out HN.out
    | succ k=>
     go_wp2_with fail
     refine(A5u hs 125).mono ?_
     rintro en w4 ⟨rfl,dp,hk4⟩
     have hrow4:=hrow.kp hk4 dm
     have bu:=A0q hF hk4 (by omega)
     have br:=A0q hR hk4 (by omega)
     have bk:=hk.trans hk4
     clear hrow hs hk hF hR hk4
     generalize hq:A2z 125 q=mq at dp ⊢
     obtain⟨ok,t3⟩:=mq
     cases ok with
     | true=>
      have bq:Hid (A3y K r = .ok (⟨nm,acc⟩,t3)):=by show _=_;rw[HR.out,A6b,hq]
      clear hq HR
      obtain⟨c0,c1⟩:=A0s bu
      obtain⟨d0,d1⟩:=A0s br
      have g0:=A0b br 0
      have g1:=A0b br 1
      obtain⟨ao,cap,rfl⟩:=hrow4.shape
      go_wp2
      refine bodyPost_ret (v:=.agg #[.string (S nm),.slice ao acc.length cap]) (by simp[results,Tryz.results192,go_sem, *]) rfl ?_
      have bg:=(bk.setNew (F:=w.heap.size) (by omega) 0 (.string (S nm))).setNew (F:=w.heap.size) (by omega) 1 (.slice ao acc.length cap)
      refine A3u bg bq.out ((dp.other (by omega) _ _).other (by omega) _ _) ⟨_,rfl,?_⟩
      exact(hrow4.other (hrow4.ne_blk br (by decide)) _ _).other (hrow4.ne_blk br (by decide)) _ _
     | false=>
      have bq:Hid (A3y K r=R.thn (A3r t3) fun i u=>if 16 < (acc++[i]).length then .error (some (5,u)) else A6b k ⟨nm,acc++[i]⟩ u):=by show _=_;rw[HR.out,A6b,hq]
      clear hq HR
      obtain⟨c0,c1⟩:=A0s bu
      have hg4:Gl B w4:=hg.kp hB dm bk
      clear c0 c1
      go_wp2_with fail
      have c1:=(A0s bu).2
      go_cut [] from 13 to 32 (fun wc=>∃ i t4 v5,Hid (A3r t3 = .ok (i,t4))∧Row A5d wc w.heap.size v5 (acc++[i])∧wc.heap[F]?=some (.cells #[.string (S nm),v5] 100 (0,0))∧wc.heap[w.heap.size]?=some (.cells #[.string ⟨#[]⟩,.slice none 0 0] 100 (0,0))∧St wc b txt t4 m e∧Kp b w wc)
      case first=>
       refine wp_region_any (by kernel_rfl) ?_
       change wpAny _ _ _ _ _ _ _ (World.drew _)
       refine wpAny_take (i:=0) (v:=.pointer (some ⟨F,1,none⟩)) rfl (by kernel_rfl) (by kernel_rfl) (by kernel_rfl) (fun _ _ _ h=>h) (Or.inl ⟨by rfl,by intro w;go_simp⟩) ?_
       refine wpAny_take (i:=2) (v:=.pointer (some ⟨b,0,none⟩)) rfl (by kernel_rfl) (by kernel_rfl) (by kernel_rfl) (fun _ _ _ h=>h) (Or.inl ⟨by rfl,by intro w;go_simp⟩) ?_
       refine wpAny_ready (rs:=[1,3]) (by kernel_rfl) (by simp) ?_
       refine AllReady.cons rfl (fun Kc hK=>?_) (AllReady.cons rfl (fun Kc hK=>?_) AllReady.nil)
       ·go_simp
        refine hK _ _ ?_
        clear hK
        refine wpAny_ready (rs:=[3]) (by kernel_rfl) (by simp) ?_
        refine AllReady.cons rfl (fun Kc hK=>?_) AllReady.nil
        go_simp
        refine(B6j dp.drew hg4.drew' hB).mono ?_
        rintro en w5 ⟨bg,hx⟩
        have ak:=(hrow4.drew').kp bg dm
        have bh:=A0q (w:=w4.drew) bu bg (by omega)
        have bt:=A0q (w:=w4.drew) br bg (by omega)
        have aw:=bk.drew.trans bg
        cases hn:A3r t3 with
        | error E=>
         rw[hn] at hx
         match E,hx with
         | none,hx=>exact hx.elim
         | some (c,t),hx=>
          obtain⟨ht,rfl⟩:=hx
          have HY:Hid (A3y K r = .error (some (c,t))):=by show _=_;rw[bq.out,hn];rfl
          clear hn bq hK
          go_wp2
          exact⟨rfl,A0f aw HY.out ht⟩
        | ok p=>
         obtain⟨i,t4⟩:=p
         rw[hn] at hx
         obtain⟨hs5,_,rfl,rfl⟩:=hx
         have HI:Hid (A3r t3 = .ok (i,t4)):=hn
         clear hn
         obtain⟨c0,c1⟩:=A0s bh
         have f1:=A0b bh 1
         have dr:w.heap.size≤w5.heap.size:=aw.size
         have dl:F < w5.heap.size:=(Array.getElem?_eq_some_iff.1 bh).1
         refine hK _ _ ?_
         clear hK
         refine wpAny_ready (rs:=[4]) (by kernel_rfl) (by simp) ?_
         refine AllReady.cons rfl (fun Kc hK=>?_) AllReady.nil
         unfold A1p
         go_simp
         refine hK _ _ ?_
         clear hK
         refine wpAny_ready (rs:=[5]) (by kernel_rfl) (by simp) ?_
         refine AllReady.cons rfl (fun Kc hK=>?_) AllReady.nil
         simp only[Region.wanted]
         have bp:Row A5d (w5.alloc (.cells (A1p i).toArray 162)) w.heap.size (.slice (some ⟨w5.heap.size,0,none⟩) 1 1) [i]:=Row.one A5d w5 i dr
         have ac:Row A5d (w5.alloc (.cells (A1p i).toArray 162)) w.heap.size v acc:=ak.below ((Below.refl _ _).alloc (Nat.le_refl _) _)
         have bl:=(Below.heap_alloc w5 (.cells (A1p i).toArray 162) F dl).trans bh
         have bn:=(Below.heap_alloc w5 (.cells (A1p i).toArray 162) w.heap.size (by omega)).trans bt
         have df:=hs5.alloc (.cells (A1p i).toArray 162)
         have cj:=aw.alloc (.cells (A1p i).toArray 162)
         refine A2t A5d _ _ rfl w.heap.size _ acc [i] rfl ac w.heap.size _ rfl bp (by simp;omega) (by simp;omega) ?_
         intro v7 w7 ah aj
         obtain⟨au,n7,ag,rfl,_⟩:=ah.shape'
         have hown:=ac.own
         have dg:=df.grown aj (fun k hk=>by have:=(hown k hk).1;omega)
         have cu:=cj.grown aj (fun k hk=>(hown k hk).1)
         have bc:=(aj.block F (Array.getElem?_eq_some_iff.1 bl).1 (fun hh=>ac.ne_blk bl (by decide) hh.symm)).trans bl
         have bw:=(aj.block w.heap.size (Array.getElem?_eq_some_iff.1 bn).1 (fun hh=>ac.ne_blk bn (by decide) hh.symm)).trans bn
         have k1:=(A0s bc).2
         have g1:=A0b bc 1
         clear c0 c1 f1
         refine hK _ _ ?_
         clear hK
         refine wpAny_take (i:=6) (v:=.pointer (some ⟨F,1,none⟩)) rfl (by kernel_rfl) (by kernel_rfl) (by kernel_rfl) (fun _ _ _ h=>h) (Or.inl ⟨by rfl,by intro w;go_simp⟩) ?_
         refine wpAny_ready (rs:=[7]) (by kernel_rfl) (by simp) ?_
         refine AllReady.cons rfl (fun Kc hK=>?_) AllReady.nil
         go_simp
         refine hK _ _ ?_
         clear hK
         refine wpAny_done (by kernel_rfl) ?_ _
         have bv:=heap_setCell_same _ _ 1 _ _ (.slice au n7 ag) bc
         have cg:=(heap_setCell_other w7 ⟨F,1,none⟩ w.heap.size (.slice au n7 ag) (by simp;omega)).trans bw
         have dh:=dg.other (F:=F) (by omega) 1 (.slice au n7 ag)
         have cw:=cu.setNew (F:=F) (by omega) 1 (.slice au n7 ag)
         have ba:=ah.other (ah.ne_blk bc (by decide)) 1 (.slice au n7 ag)
         go_wp2
         go_meet
         case rel=>exact⟨i,t4,_,HI,ba,bv,cg,dh,cw⟩
       ·go_simp
        refine(B6j dp.drew hg4.drew' hB).mono ?_
        rintro en w5 ⟨bg,hx⟩
        have ak:=(hrow4.drew').kp bg dm
        have bh:=A0q (w:=w4.drew) bu bg (by omega)
        have bt:=A0q (w:=w4.drew) br bg (by omega)
        have aw:=bk.drew.trans bg
        cases hn:A3r t3 with
        | error E=>
         rw[hn] at hx
         match E,hx with
         | none,hx=>exact hx.elim
         | some (c,t),hx=>
          obtain⟨ht,rfl⟩:=hx
          have HY:Hid (A3y K r = .error (some (c,t))):=by show _=_;rw[bq.out,hn];rfl
          clear hn bq hK
          go_wp2
          exact⟨rfl,A0f aw HY.out ht⟩
        | ok p=>
         obtain⟨i,t4⟩:=p
         rw[hn] at hx
         obtain⟨hs5,_,rfl,rfl⟩:=hx
         have HI:Hid (A3r t3 = .ok (i,t4)):=hn
         clear hn
         obtain⟨c0,c1⟩:=A0s bh
         have f1:=A0b bh 1
         have dr:w.heap.size≤w5.heap.size:=aw.size
         have dl:F < w5.heap.size:=(Array.getElem?_eq_some_iff.1 bh).1
         refine hK _ _ ?_
         clear hK
         refine wpAny_ready (rs:=[1,4]) (by kernel_rfl) (by simp) ?_
         refine AllReady.cons rfl (fun Kc hK=>?_) (AllReady.cons rfl (fun Kc hK=>?_) AllReady.nil)
         rotate_right
         focus
          unfold A1p
          go_simp
          refine hK _ _ ?_
          clear hK
          refine wpAny_ready (rs:=[1]) (by kernel_rfl) (by simp) ?_
          refine AllReady.cons rfl (fun Kc hK=>?_) AllReady.nil
         rotate_right
         focus
          go_simp
          refine hK _ _ ?_
          clear hK
          refine wpAny_ready (rs:=[4]) (by kernel_rfl) (by simp) ?_
          refine AllReady.cons rfl (fun Kc hK=>?_) AllReady.nil
          unfold A1p
         all_goals
          go_simp
          refine hK _ _ ?_
          clear hK
          refine wpAny_ready (rs:=[5]) (by kernel_rfl) (by simp) ?_
          refine AllReady.cons rfl (fun Kc hK=>?_) AllReady.nil
          simp only[Region.wanted]
          have bp:Row A5d (w5.alloc (.cells (A1p i).toArray 162)) w.heap.size (.slice (some ⟨w5.heap.size,0,none⟩) 1 1) [i]:=Row.one A5d w5 i dr
          have ac:Row A5d (w5.alloc (.cells (A1p i).toArray 162)) w.heap.size v acc:=ak.below ((Below.refl _ _).alloc (Nat.le_refl _) _)
          have bl:=(Below.heap_alloc w5 (.cells (A1p i).toArray 162) F dl).trans bh
          have bn:=(Below.heap_alloc w5 (.cells (A1p i).toArray 162) w.heap.size (by omega)).trans bt
          have df:=hs5.alloc (.cells (A1p i).toArray 162)
          have cj:=aw.alloc (.cells (A1p i).toArray 162)
          refine A2t A5d _ _ rfl w.heap.size _ acc [i] rfl ac w.heap.size _ rfl bp (by simp;omega) (by simp;omega) ?_
          intro v7 w7 ah aj
          obtain⟨au,n7,ag,rfl,_⟩:=ah.shape'
          have hown:=ac.own
          have dg:=df.grown aj (fun k hk=>by have:=(hown k hk).1;omega)
          have cu:=cj.grown aj (fun k hk=>(hown k hk).1)
          have bc:=(aj.block F (Array.getElem?_eq_some_iff.1 bl).1 (fun hh=>ac.ne_blk bl (by decide) hh.symm)).trans bl
          have bw:=(aj.block w.heap.size (Array.getElem?_eq_some_iff.1 bn).1 (fun hh=>ac.ne_blk bn (by decide) hh.symm)).trans bn
          have k1:=(A0s bc).2
          have g1:=A0b bc 1
          clear c0 c1 f1
          refine hK _ _ ?_
          clear hK
          refine wpAny_take (i:=6) (v:=.pointer (some ⟨F,1,none⟩)) rfl (by kernel_rfl) (by kernel_rfl) (by kernel_rfl) (fun _ _ _ h=>h) (Or.inl ⟨by rfl,by intro w;go_simp⟩) ?_
          refine wpAny_ready (rs:=[7]) (by kernel_rfl) (by simp) ?_
          refine AllReady.cons rfl (fun Kc hK=>?_) AllReady.nil
          go_simp
          refine hK _ _ ?_
          clear hK
          refine wpAny_done (by kernel_rfl) ?_ _
          have bv:=heap_setCell_same _ _ 1 _ _ (.slice au n7 ag) bc
          have cg:=(heap_setCell_other w7 ⟨F,1,none⟩ w.heap.size (.slice au n7 ag) (by simp;omega)).trans bw
          have dh:=dg.other (F:=F) (by omega) 1 (.slice au n7 ag)
          have cw:=cu.setNew (F:=F) (by omega) 1 (.slice au n7 ag)
          have ba:=ah.other (ah.ne_blk bc (by decide)) 1 (.slice au n7 ag)
          go_wp2
          go_meet
          case rel=>exact⟨i,t4,_,HI,ba,bv,cg,dh,cw⟩
      case rest=>
       obtain⟨i,t4,v5,HI,ak,bh,bt,hs5,bg⟩:=hcut
       obtain⟨d9,dz,rfl⟩:=ak.shape
       have c1:=(A0s bh).2
       have eh:(acc++[i]).length=acc.length+1:=by simp
       by_cases h16:16 < acc.length+1
       ·have HY:Hid (A3y K r = .error (some (5,t4))):=by show _=_;rw[bq.out,HI.out];show(if _ then _ else _)=_;rw[if_pos (by omega)]
        go_wp2_with fail
        refine(A0n hs5 5).mono ?_
        rintro en w6 ⟨rfl,rfl⟩
        go_wp2
        exact⟨rfl,A0f bg HY.out hs5.2.1⟩
       ·have HY:Hid (A3y K r=A6b k ⟨nm,acc++[i]⟩ t4):=by show _=_;rw[bq.out,HI.out];show(if _ then _ else _)=_;rw[if_neg (by omega)]
        go_wp2_with fail
        go_roundg k
        case measure=>omega
        case rel=>exact⟨acc++[i],t4,_,ak,bh,bt,hs5,bg,by simp;omega,HY⟩
end Go.Proofs.YtgaoojpakjjdnaaGreatDoor
