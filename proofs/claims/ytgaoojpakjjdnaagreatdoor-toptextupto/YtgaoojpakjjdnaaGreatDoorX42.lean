import Derived.Test.YtgaoojpakjjdnaaGreatDoorX41
set_option maxHeartbeats 32000000
set_option maxRecDepth 100000
namespace Go.Proofs.YtgaoojpakjjdnaaGreatDoor
open Go.RowKit
theorem Kp.setNew {b:Nat}{x w:World}(h:Kp b x w){F:Nat}(hF:x.heap.size≤F)(i:Nat)(v:Value):Kp b x (w.setCell ⟨F,i,none⟩ v):=
 ⟨h.os,h.tape,h.output,by have:=h.size;simpa [World.setCell] using this,fun k hk hb=>(Below.heap_setCell _ _ _ _ (by show k≠F;omega)).trans (h.block k hk hb)⟩
theorem Kp.alloc {b:Nat}{x w:World}(h:Kp b x w)(o:Obj):Kp b x (w.alloc o):=
 h.trans (Kp.of_below ((Below.refl _ _).alloc (Nat.le_refl _) _))
theorem St.other {w:World}{b:Nat}{txt r:List UInt8}{m e:Value}(h:St w b txt r m e){F:Nat}(hF:b≠F)(i:Nat)(v:Value):St (w.setCell ⟨F,i,none⟩ v) b txt r m e:=
 ⟨h.1,h.2.1,h.2.2.1,by rw[Below.heap_setCell _ _ _ _ hF];exact h.2.2.2⟩
theorem St.alloc {w:World}{b:Nat}{txt r:List UInt8}{m e:Value}(h:St w b txt r m e)(o:Obj):St (w.alloc o) b txt r m e:=h.kept ((Below.refl _ _).alloc (Nat.le_refl _) _)
theorem A0q {w w':World}{b F:Nat}{o:Obj}(h:w.heap[F]?=some o)(hk:Kp b w w')(hF:F≠b):w'.heap[F]?=some o:=by
 rw[hk.block F (Array.getElem?_eq_some_iff.1 h).1 hF];exact h
theorem A9e {w w':World}{F:Nat}{o:Obj}(h:w.heap[F]?=some o)(hk:Below w.heap.size w w'):w'.heap[F]?=some o:=by
 rw[hk.block F (Array.getElem?_eq_some_iff.1 h).1];exact h
theorem A0b {w:World}{g:Nat}{cs:Array Value}{t:TypeId}(h:w.heap[g]?=some (.cells cs t (0,0)))(i:Nat):w.frozen? ⟨g,i,none⟩=false:=by
 simp[World.frozen?,h]
theorem A0i (w:World)(o o':Obj):((w.alloc o).alloc o').heap[w.heap.size+1]?=some o':=by
 have:=heap_alloc_new (w.alloc o) o'
 rwa [show(w.alloc o).heap.size=w.heap.size+1 by simp] at this
theorem A0l (w:World)(o o':Obj):((w.alloc o).alloc o').heap[w.heap.size]?=some o:=by
 rw[Below.heap_alloc _ _ _ (by simp)];exact heap_alloc_new w o
theorem B1g {w:World}{g:Nat}{a0 a1 a2 a3 a4 a5:Value}{t:TypeId}(h:w.heap[g]?=some (.cells #[a0,a1,a2,a3,a4,a5] t (0,0))) :
  w.cell? ⟨g,0,none⟩=some a0∧w.cell? ⟨g,1,none⟩=some a1∧w.cell? ⟨g,2,none⟩=some a2∧w.cell? ⟨g,3,none⟩=some a3∧w.cell? ⟨g,4,none⟩=some a4∧w.cell? ⟨g,5,none⟩=some a5:=
 ⟨A0a h 0 _ rfl,A0a h 1 _ rfl,A0a h 2 _ rfl,A0a h 3 _ rfl,A0a h 4 _ rfl,A0a h 5 _ rfl⟩
theorem A3g {B b:Nat}{txt r:List UInt8}{m e:Value}{w:World}(h:St w b txt r m e)(hg:Gl B w)(hB:B≤b)(many:Bool)(ch:Nat) :
  Calls Tryz.prog 231 #[.pointer (some ⟨b,0,none⟩),.bool many,.int .i64 (ch:Int)] w (C7n b txt m e w (fun f v _=>v = .agg (A1r f).toArray) (A1v many ch r)):=by
 have dh:=h.lt
 go_enter Tryz.func231,Tryz.ntmps231
 go_wp2_with fail
 refine(A9s ((h.alloc _).alloc _)).mono ?_
 rintro en w1 ⟨bg,hx⟩
 have hF:w1.heap[w.heap.size+1]?=some (.cells #[.string ⟨#[]⟩,.int .i64 0,.int .i64 0,.string ⟨#[]⟩,.bool many,.int .i64 (ch:Int)] 40 (0,0)):=by
  exact A0q (A0i _ _ _) bg (by omega)
 have hR:w1.heap[w.heap.size]?=some (.cells #[.string ⟨#[]⟩,.int .i64 0,.int .i64 0,.string ⟨#[]⟩,.bool false,.int .i64 0] 40 (0,0)):=by
  exact A0q (A0l _ _ _) bg (by omega)
 have ac:Kp b w w1:=(((Kp.refl b w).alloc _).alloc _).trans bg
 have hg1:Gl B w1:=hg.kp hB dh ac
 have hg0:=hg
 clear bg hg
 cases hn:A3o r with
 | error E=>
  rw[hn] at hx
  match E,hx with
  | none,hx=>exact hx.elim
  | some (c,t),hx=>
   obtain⟨ht,rfl⟩:=hx
   have HX:Hid (A1v many ch r = .error (some (c,t))):=by show _=_;rw[A1v,hn];rfl
   clear hn
   go_wp2
   exact⟨rfl,A0f ac HX.out ht⟩
 | ok p=>
  obtain⟨ty,u1⟩:=p
  rw[hn] at hx
  obtain⟨hs1,_,rfl,rfl⟩:=hx
  have HX:Hid (A1v many ch r=R.thn (A3o u1) fun nm u=>R.thn (A1q 61 u) fun _ u=>R.thn (A5j A5i u) fun n u=>R.thn (A1q 59 u) fun _ u=>.ok (⟨nm,n,(A2i ty).1,(A2i ty).2,many,ch⟩,u)):=by
   show _=_;rw[A1v,hn];rfl
  clear hn
  go_wp2_with fail
  refine(C7f ty w1).mono ?_
  rintro en w2 ⟨rfl,hb2⟩
  have hs2:=hs1.kept hb2
  have hF2:=A9e hF hb2
  have bw:=A9e hR hb2
  obtain⟨c0,c1,c2,c3,c4,c5⟩:=B1g hF2
  have f2:=A0b hF2 2
  have f3:=A0b hF2 3
  have ah:=ac.trans (Kp.of_below (b:=b) hb2)
  clear hF hR ac hb2
  have bq:=heap_setCell_same _ _ 3 _ _ (.string (S (A2i ty).2)) (heap_setCell_same _ _ 2 _ _ (.int .i64 ((A2i ty).1:Int)) hF2)
  have cg:=((heap_setCell_other (w2.setCell ⟨w.heap.size+1,2,none⟩ (.int .i64 ((A2i ty).1:Int))) ⟨w.heap.size+1,3,none⟩ w.heap.size (.string (S (A2i ty).2)) (by simp)).trans (heap_setCell_other w2 ⟨w.heap.size+1,2,none⟩ w.heap.size (.int .i64 ((A2i ty).1:Int)) (by simp))).trans bw
  have hs3:=(hs2.other (F:=w.heap.size+1) (by omega) 2 (.int .i64 ((A2i ty).1:Int))).other (F:=w.heap.size+1) (by omega) 3 (.string (S (A2i ty).2))
  have hk3:=(ah.setNew (F:=w.heap.size+1) (by omega) 2 (.int .i64 ((A2i ty).1:Int))).setNew (F:=w.heap.size+1) (by omega) 3 (.string (S (A2i ty).2))
  clear ah hs2 hF2 bw
  go_wp2_with fail
  clear c0 c1 c2 c3 c4 c5 f2 f3
  generalize (w2.setCell ⟨w.heap.size+1,2,none⟩ (.int .i64 ((A2i ty).1:Int))).setCell ⟨w.heap.size+1,3,none⟩ (.string (S (A2i ty).2))=W3 at *
  refine(A9s hs3).mono ?_
  rintro en w4 ⟨hk4,hx⟩
  have aw:=A0q bq hk4 (by omega)
  have cj:=A0q cg hk4 (by omega)
  have ac:=hk3.trans hk4
  clear bq cg hs3 hk3 hk4
  cases hn:A3o u1 with
  | error E=>
   rw[hn] at hx
   match E,hx with
   | none,hx=>exact hx.elim
   | some (c,t),hx=>
    obtain⟨ht,rfl⟩:=hx
    have HY:Hid (A1v many ch r = .error (some (c,t))):=by show _=_;rw[HX.out,hn];rfl
    clear hn HX
    go_wp2
    exact⟨rfl,A0f ac HY.out ht⟩
  | ok p=>
   obtain⟨nm,u2⟩:=p
   rw[hn] at hx
   obtain⟨dm,_,rfl,rfl⟩:=hx
   have aj:Hid (A1v many ch r=R.thn (A1q 61 u2) fun _ u=>R.thn (A5j A5i u) fun n u=>R.thn (A1q 59 u) fun _ u=>.ok (⟨nm,n,(A2i ty).1,(A2i ty).2,many,ch⟩,u)):=by show _=_;rw[HX.out,hn];rfl
   clear hn HX
   obtain⟨c0,c1,c2,c3,c4,c5⟩:=B1g (a0:=.string ⟨#[]⟩) (a1:=.int .i64 0) (a2:=.int .i64 ((A2i ty).1:Int)) (a3:=.string (S (A2i ty).2)) (a4:=.bool many) (a5:=.int .i64 (ch:Int)) aw
   have f0:=A0b aw 0
   have br:=heap_setCell_same _ _ 0 _ _ (.string (S nm)) aw
   have cu:=(heap_setCell_other w4 ⟨w.heap.size+1,0,none⟩ w.heap.size (.string (S nm)) (by simp)).trans cj
   have hs5:=dm.other (F:=w.heap.size+1) (by omega) 0 (.string (S nm))
   have di:=ac.setNew (F:=w.heap.size+1) (by omega) 0 (.string (S nm))
   clear ac dm aw cj
   go_wp2_with fail
   clear c0 c1 c2 c3 c4 c5 f0
   generalize w4.setCell ⟨w.heap.size+1,0,none⟩ (.string (S nm))=W5 at *
   refine(A4t hs5 61).mono ?_
   rintro en w6 ⟨bh,hx⟩
   have bt:=A0q br bh (by omega)
   have cw:=A0q cu bh (by omega)
   have ac:=di.trans bh
   clear br cu hs5 di bh
   cases hn:A1q 61 u2 with
   | error E=>
    rw[hn] at hx
    match E,hx with
    | none,hx=>exact hx.elim
    | some (c,t),hx=>
     obtain⟨ht,rfl⟩:=hx
     have HY:Hid (A1v many ch r = .error (some (c,t))):=by show _=_;rw[aj.out,hn];rfl
     clear hn aj
     go_wp2
     exact⟨rfl,A0f ac HY.out ht⟩
   | ok p=>
    obtain⟨_,u3⟩:=p
    rw[hn] at hx
    obtain⟨dn,_,rfl,rfl⟩:=hx
    have ak:Hid (A1v many ch r=R.thn (A5j A5i u3) fun n u=>R.thn (A1q 59 u) fun _ u=>.ok (⟨nm,n,(A2i ty).1,(A2i ty).2,many,ch⟩,u)):=by show _=_;rw[aj.out,hn];rfl
    clear hn aj
    have dv:Gl B w6:=hg0.kp hB dh ac
    go_wp2_with fail
    refine(A6i dn dv hB A5i (by decide)).mono ?_
    rintro en w7 ⟨bk,hx⟩
    have a8:=A0q bt bk (by omega)
    have df:=A0q cw bk (by omega)
    replace ac:=ac.trans bk
    clear bt cw dn bk
    cases hn:A5j A5i u3 with
    | error E=>
     rw[hn] at hx
     match E,hx with
     | none,hx=>exact hx.elim
     | some (c,t),hx=>
      obtain⟨ht,rfl⟩:=hx
      have HY:Hid (A1v many ch r = .error (some (c,t))):=by show _=_;rw[ak.out,hn];rfl
      clear hn ak
      go_wp2
      exact⟨rfl,A0f ac HY.out ht⟩
    | ok p=>
     obtain⟨n,u4⟩:=p
     rw[hn] at hx
     obtain⟨dp,_,rfl,rfl,dx⟩:=hx
     have au:Hid (A1v many ch r=R.thn (A1q 59 u4) fun _ u=>.ok (⟨nm,n,(A2i ty).1,(A2i ty).2,many,ch⟩,u)):=by show _=_;rw[ak.out,hn];rfl
     clear hn ak
     obtain⟨c0,c1,c2,c3,c4,c5⟩:=B1g (a0:=.string (S nm)) (a1:=.int .i64 0) (a2:=.int .i64 ((A2i ty).1:Int)) (a3:=.string (S (A2i ty).2)) (a4:=.bool many) (a5:=.int .i64 (ch:Int)) a8
     have f1:=A0b a8 1
     have bu:=heap_setCell_same _ _ 1 _ _ (.int .i64 (n:Int)) a8
     have dg:=(heap_setCell_other w7 ⟨w.heap.size+1,1,none⟩ w.heap.size (.int .i64 (n:Int)) (by simp)).trans df
     have dr:=dp.other (F:=w.heap.size+1) (by omega) 1 (.int .i64 (n:Int))
     have dl:=ac.setNew (F:=w.heap.size+1) (by omega) 1 (.int .i64 (n:Int))
     clear ac dp a8 df
     go_wp2_with fail
     clear c0 c1 c2 c3 c4 c5 f1
     generalize w7.setCell ⟨w.heap.size+1,1,none⟩ (.int .i64 (n:Int))=W8 at *
     refine(A4t dr 59).mono ?_
     rintro en w9 ⟨bp,hx⟩
     have bv:=A0q bu bp (by omega)
     have ag:=A0q dg bp (by omega)
     have ac:=dl.trans bp
     clear bu dg dr dl bp
     cases hn:A1q 59 u4 with
     | error E=>
      rw[hn] at hx
      match E,hx with
      | none,hx=>exact hx.elim
      | some (c,t),hx=>
       obtain⟨ht,rfl⟩:=hx
       have HY:Hid (A1v many ch r = .error (some (c,t))):=by show _=_;rw[au.out,hn];rfl
       clear hn au
       go_wp2
       exact⟨rfl,A0f ac HY.out ht⟩
     | ok p=>
      obtain⟨_,u5⟩:=p
      rw[hn] at hx
      obtain⟨dw,_,rfl,rfl⟩:=hx
      have dt:Hid (A1v many ch r = .ok (⟨nm,n,(A2i ty).1,(A2i ty).2,many,ch⟩,u5)):=by show _=_;rw[au.out,hn];rfl
      clear hn au
      obtain⟨c0,c1,c2,c3,c4,c5⟩:=B1g (a0:=.string (S nm)) (a1:=.int .i64 (n:Int)) (a2:=.int .i64 ((A2i ty).1:Int)) (a3:=.string (S (A2i ty).2)) (a4:=.bool many) (a5:=.int .i64 (ch:Int)) bv
      obtain⟨d0,d1,d2,d3,d4,d5⟩:=B1g ag
      have g0:=A0b ag 0
      have g1:=A0b ag 1
      have g2:=A0b ag 2
      have g3:=A0b ag 3
      have g4:=A0b ag 4
      have g5:=A0b ag 5
      clear bv ag
      go_wp2
      refine bodyPost_ret (v:=.agg (A1r ⟨nm,n,(A2i ty).1,(A2i ty).2,many,ch⟩).toArray) (by simp[results,Tryz.results231,go_sem,A1r, *]) rfl ?_
      refine A5l ?_ dt.out ?_ rfl
      ·exact(((((ac.setNew (by omega) _ _).setNew (by omega) _ _).setNew (by omega) _ _).setNew (by omega) _ _).setNew (by omega) _ _).setNew (by omega) _ _
      ·exact(((((dw.other (by omega) _ _).other (by omega) _ _).other (by omega) _ _).other (by omega) _ _).other (by omega) _ _).other (by omega) _ _
end Go.Proofs.YtgaoojpakjjdnaaGreatDoor
namespace Go.Proofs.YtgaoojpakjjdnaaGreatDoor
open Go.RowKit
theorem A0r {w:World}{g:Nat}{a0 a1:Value}{t:TypeId}(h:w.heap[g]?=some (.cells #[a0,a1] t (0,0))) :
  w.cell? ⟨g,0,none⟩=some a0∧w.cell? ⟨g,1,none⟩=some a1:=⟨A0a h 0 _ rfl,A0a h 1 _ rfl⟩
theorem C2w {B b:Nat}{txt r:List UInt8}{m e:Value}{w:World}(h:St w b txt r m e)(hg:Gl B w)(hB:B≤b) :
  Calls Tryz.prog 232 #[.pointer (some ⟨b,0,none⟩)] w (C7n b txt m e w (fun f v _=>v = .agg (A2c f).toArray) (A3n r)):=by
 have dn:=h.lt
 have hg0:=hg
 clear hg
 have HX:Hid (A3n r=R.thn (A3o r) fun nm u=>R.thn (A1q 61 u) fun _ u=>match A4c 45 u with
  | (true,t)=>R.thn (A5j 2147483648 t) fun n u=>R.thn (A1q 59 u) fun _ u=>.ok (⟨nm,-(n:Int)⟩,u)
  | (false,t)=>R.thn (A5j 2147483647 t) fun n u=>R.thn (A1q 59 u) fun _ u=>.ok (⟨nm,(n:Int)⟩,u)):=rfl
 go_enter Tryz.func232,Tryz.ntmps232
 go_wp2_with fail
 refine(A9s (h.alloc _)).mono ?_
 rintro en w1 ⟨cj,hx⟩
 have hR:w1.heap[w.heap.size]?=some (.cells #[.string ⟨#[]⟩,.int .i64 0] 162 (0,0)):=A0q (heap_alloc_new w _) cj (by omega)
 have hz1:w.heap.size+1≤w1.heap.size:=by have:=cj.size;simpa using this
 have ac:Kp b w w1:=((Kp.refl b w).alloc _).trans cj
 clear cj
 cases hn:A3o r with
 | error E=>
  rw[hn] at hx
  match E,hx with
  | none,hx=>exact hx.elim
  | some (c,t),hx=>
   obtain⟨ht,rfl⟩:=hx
   have HY:Hid (A3n r = .error (some (c,t))):=by show _=_;rw[HX.out,hn];rfl
   clear hn HX
   go_wp2
   exact⟨rfl,A0f ac HY.out ht⟩
 | ok p=>
  obtain⟨nm,u1⟩:=p
  rw[hn] at hx
  obtain⟨hs1,_,rfl,rfl⟩:=hx
  have bv:Hid (A3n r=R.thn (A1q 61 u1) fun _ u=>match A4c 45 u with
   | (true,t)=>R.thn (A5j 2147483648 t) fun n u=>R.thn (A1q 59 u) fun _ u=>.ok (⟨nm,-(n:Int)⟩,u)
   | (false,t)=>R.thn (A5j 2147483647 t) fun n u=>R.thn (A1q 59 u) fun _ u=>.ok (⟨nm,(n:Int)⟩,u)):=by show _=_;rw[HX.out,hn];rfl
  clear hn HX
  have hF2:=heap_alloc_new w1 (.cells #[.string (S nm),.int .i64 0] 162)
  have dl:=(Below.heap_alloc w1 (.cells #[.string (S nm),.int .i64 0] 162) w.heap.size (by omega)).trans hR
  have hs2:=hs1.alloc (.cells #[.string (S nm),.int .i64 0] 162)
  have hk2:=ac.alloc (.cells #[.string (S nm),.int .i64 0] 162)
  clear ac hR hs1
  go_wp2_with fail
  generalize w1.alloc (.cells #[.string (S nm),.int .i64 0] 162)=W2 at *
  obtain⟨F,dh⟩:∃ F,Hid (F=w1.heap.size):=⟨_,rfl⟩
  have dr:w.heap.size+1≤F:=by rw[dh.out];exact hz1
  rw[←dh.out] at hF2 ⊢
  refine(A4t hs2 61).mono ?_
  rintro en w3 ⟨hk3,hx⟩
  have di:=A0q hF2 hk3 (by omega)
  have dm:=A0q dl hk3 (by omega)
  have ac:=hk2.trans hk3
  clear hF2 dl hs2 hk2 hk3
  cases hn:A1q 61 u1 with
  | error E=>
   rw[hn] at hx
   match E,hx with
   | none,hx=>exact hx.elim
   | some (c,t),hx=>
    obtain⟨ht,rfl⟩:=hx
    have HY:Hid (A3n r = .error (some (c,t))):=by show _=_;rw[bv.out,hn];rfl
    clear hn bv
    go_wp2
    exact⟨rfl,A0f ac HY.out ht⟩
  | ok p=>
   obtain⟨_,u2⟩:=p
   rw[hn] at hx
   obtain⟨hs3,_,rfl,rfl⟩:=hx
   have ag:Hid (A3n r=match A4c 45 u2 with
    | (true,t)=>R.thn (A5j 2147483648 t) fun n u=>R.thn (A1q 59 u) fun _ u=>.ok (⟨nm,-(n:Int)⟩,u)
    | (false,t)=>R.thn (A5j 2147483647 t) fun n u=>R.thn (A1q 59 u) fun _ u=>.ok (⟨nm,(n:Int)⟩,u)):=by show _=_;rw[bv.out,hn];rfl
   clear hn bv
   go_wp2_with fail
   refine(A8f hs3 45).mono ?_
   rintro en w6 ⟨rfl,br,cu⟩
   have bw:=A0q di cu (by omega)
   have cg:=A0q dm cu (by omega)
   replace ac:=ac.trans cu
   clear di dm hs3 cu
   generalize hq:A4c 45 u2=q at br ⊢
   obtain⟨ok,u3⟩:=q
   cases ok with
   | true=>
    have ah:Hid (A3n r=R.thn (A5j 2147483648 u3) fun n u=>R.thn (A1q 59 u) fun _ u=>.ok (⟨nm,-(n:Int)⟩,u)):=by show _=_;rw[ag.out,hq]
    clear hq ag
    have df:Gl B w6:=hg0.kp hB dn ac
    go_wp2_with fail
    refine(A6i br df hB 2147483648 (by decide)).mono ?_
    rintro en w7 ⟨aw,hx⟩
    have ak:=A0q bw aw (by omega)
    have bk:=A0q cg aw (by omega)
    replace ac:=ac.trans aw
    clear bw cg br aw
    cases hn:A5j 2147483648 u3 with
    | error E=>
     rw[hn] at hx
     match E,hx with
     | none,hx=>exact hx.elim
     | some (c,t),hx=>
      obtain⟨ht,rfl⟩:=hx
      have HY:Hid (A3n r = .error (some (c,t))):=by show _=_;rw[ah.out,hn];rfl
      clear hn ah
      go_wp2
      exact⟨rfl,A0f ac HY.out ht⟩
    | ok p=>
     obtain⟨n,u4⟩:=p
     rw[hn] at hx
     obtain⟨bt,_,rfl,rfl,dp⟩:=hx
     have aj:Hid (A3n r=R.thn (A1q 59 u4) fun _ u=>.ok (⟨nm,(-(n:Int))⟩,u)):=by show _=_;rw[ah.out,hn];rfl
     clear hn ah
     obtain⟨c0,c1⟩:=A0r (a0:=.string (S nm)) (a1:=.int .i64 0) ak
     have f1:=A0b ak 1
     have bg:=heap_setCell_same _ _ 1 _ _ (.int .i64 (-(n:Int))) ak
     have bp:=(heap_setCell_other w7 ⟨F,1,none⟩ w.heap.size (.int .i64 (-(n:Int))) (by simp;omega)).trans bk
     have bu:=bt.other (F:=F) (by omega) 1 (.int .i64 (-(n:Int)))
     have bq:=ac.setNew (F:=F) (by omega) 1 (.int .i64 (-(n:Int)))
     clear ac bt ak bk
     go_wp2_with fail
     clear c0 c1 f1
     generalize w7.setCell ⟨F,1,none⟩ (.int .i64 (-(n:Int)))=W8 at *
     refine(A4t bu 59).mono ?_
     rintro en w9 ⟨a8,hx⟩
     have bh:=A0q bg a8 (by omega)
     have au:=A0q bp a8 (by omega)
     have ac:=bq.trans a8
     clear bg bp bu bq a8
     cases hn:A1q 59 u4 with
     | error E=>
      rw[hn] at hx
      match E,hx with
      | none,hx=>exact hx.elim
      | some (c,t),hx=>
       obtain⟨ht,rfl⟩:=hx
       have HY:Hid (A3n r = .error (some (c,t))):=by show _=_;rw[aj.out,hn];rfl
       clear hn aj
       go_wp2
       exact⟨rfl,A0f ac HY.out ht⟩
     | ok p=>
      obtain⟨_,u5⟩:=p
      rw[hn] at hx
      obtain⟨dg,_,rfl,rfl⟩:=hx
      have cw:Hid (A3n r = .ok (⟨nm,(-(n:Int))⟩,u5)):=by show _=_;rw[aj.out,hn];rfl
      clear hn aj
      obtain⟨c0,c1⟩:=A0r (a0:=.string (S nm)) (a1:=.int .i64 (-(n:Int))) bh
      obtain⟨d0,d1⟩:=A0r au
      have g0:=A0b au 0
      have g1:=A0b au 1
      clear bh au
      go_wp2
      refine bodyPost_ret (v:=.agg (A2c ⟨nm,(-(n:Int))⟩).toArray) (by simp[results,Tryz.results232,go_sem,A2c, *]) rfl ?_
      refine A5l ?_ cw.out ?_ rfl
      ·exact(ac.setNew (by omega) _ _).setNew (by omega) _ _
      ·exact(dg.other (by omega) _ _).other (by omega) _ _
   | false=>
    have ah:Hid (A3n r=R.thn (A5j 2147483647 u3) fun n u=>R.thn (A1q 59 u) fun _ u=>.ok (⟨nm,(n:Int)⟩,u)):=by show _=_;rw[ag.out,hq]
    clear hq ag
    have df:Gl B w6:=hg0.kp hB dn ac
    go_wp2_with fail
    refine(A6i br df hB 2147483647 (by decide)).mono ?_
    rintro en w7 ⟨aw,hx⟩
    have ak:=A0q bw aw (by omega)
    have bk:=A0q cg aw (by omega)
    replace ac:=ac.trans aw
    clear bw cg br aw
    cases hn:A5j 2147483647 u3 with
    | error E=>
     rw[hn] at hx
     match E,hx with
     | none,hx=>exact hx.elim
     | some (c,t),hx=>
      obtain⟨ht,rfl⟩:=hx
      have HY:Hid (A3n r = .error (some (c,t))):=by show _=_;rw[ah.out,hn];rfl
      clear hn ah
      go_wp2
      exact⟨rfl,A0f ac HY.out ht⟩
    | ok p=>
     obtain⟨n,u4⟩:=p
     rw[hn] at hx
     obtain⟨bt,_,rfl,rfl,dp⟩:=hx
     have aj:Hid (A3n r=R.thn (A1q 59 u4) fun _ u=>.ok (⟨nm,(n:Int)⟩,u)):=by show _=_;rw[ah.out,hn];rfl
     clear hn ah
     obtain⟨c0,c1⟩:=A0r (a0:=.string (S nm)) (a1:=.int .i64 0) ak
     have f1:=A0b ak 1
     have bg:=heap_setCell_same _ _ 1 _ _ (.int .i64 (n:Int)) ak
     have bp:=(heap_setCell_other w7 ⟨F,1,none⟩ w.heap.size (.int .i64 (n:Int)) (by simp;omega)).trans bk
     have bu:=bt.other (F:=F) (by omega) 1 (.int .i64 (n:Int))
     have bq:=ac.setNew (F:=F) (by omega) 1 (.int .i64 (n:Int))
     clear ac bt ak bk
     go_wp2_with fail
     clear c0 c1 f1
     generalize w7.setCell ⟨F,1,none⟩ (.int .i64 (n:Int))=W8 at *
     refine(A4t bu 59).mono ?_
     rintro en w9 ⟨a8,hx⟩
     have bh:=A0q bg a8 (by omega)
     have au:=A0q bp a8 (by omega)
     have ac:=bq.trans a8
     clear bg bp bu bq a8
     cases hn:A1q 59 u4 with
     | error E=>
      rw[hn] at hx
      match E,hx with
      | none,hx=>exact hx.elim
      | some (c,t),hx=>
       obtain⟨ht,rfl⟩:=hx
       have HY:Hid (A3n r = .error (some (c,t))):=by show _=_;rw[aj.out,hn];rfl
       clear hn aj
       go_wp2
       exact⟨rfl,A0f ac HY.out ht⟩
     | ok p=>
      obtain⟨_,u5⟩:=p
      rw[hn] at hx
      obtain⟨dg,_,rfl,rfl⟩:=hx
      have cw:Hid (A3n r = .ok (⟨nm,(n:Int)⟩,u5)):=by show _=_;rw[aj.out,hn];rfl
      clear hn aj
      obtain⟨c0,c1⟩:=A0r (a0:=.string (S nm)) (a1:=.int .i64 (n:Int)) bh
      obtain⟨d0,d1⟩:=A0r au
      have g0:=A0b au 0
      have g1:=A0b au 1
      clear bh au
      go_wp2
      refine bodyPost_ret (v:=.agg (A2c ⟨nm,(n:Int)⟩).toArray) (by simp[results,Tryz.results232,go_sem,A2c, *]) rfl ?_
      refine A5l ?_ cw.out ?_ rfl
      ·exact(ac.setNew (by omega) _ _).setNew (by omega) _ _
      ·exact(dg.other (by omega) _ _).other (by omega) _ _
end Go.Proofs.YtgaoojpakjjdnaaGreatDoor
namespace Go.Proofs.YtgaoojpakjjdnaaGreatDoor
theorem A2z (c:UInt8)(r:List UInt8):(A4c c r).2.length≤r.length∧((A4c c r).1=true→(A4c c r).2.length<r.length):=by
 have h:=A4l r
 unfold A4c
 split
 ·exact⟨by simp,by simp⟩
 ·rename_i x t heq
  rw[heq] at h
  simp at h
  split
  ·exact⟨by simp;omega,fun _=>by simp;omega⟩
  ·exact⟨by simp;omega,fun hh=>by simp at hh⟩
theorem A3a {c:UInt8}{r u:List UInt8}{x:Unit}(h:A1q c r = .ok (x,u)):u.length<r.length:=by
 have hm:=A2z c r
 unfold A1q at h
 split at h
 ·rename_i t heq
  rw[heq] at hm
  cases h
  exact hm.2 rfl
 ·cases h
theorem A4g {c:UInt8}{r:List UInt8}{E:Option (Nat×List UInt8)}(h:A1q c r = .error E):E≠none∧∀ a t,E=some (a,t)→a≠0∧t.length≤r.length:=by
 have hm:=A2z c r
 unfold A1q at h
 split at h
 ·cases h
 ·rename_i t heq
  rw[heq] at hm
  cases h
  exact⟨by simp,fun a t' e=>by cases e;exact⟨by decide,hm.1⟩⟩
theorem A6r (kw r:List UInt8):(B0h kw r).2.length≤r.length:=by
 have h:=A4l r
 unfold B0h
 split
 ·simp;omega
 ·exact h
theorem B4t {kw:List UInt8}(hk:kw≠[]){r:List UInt8}(h:(B0h kw r).1=true):(B0h kw r).2.length<r.length:=by
 have h1:=A4l r
 unfold B0h at h ⊢
 split
 ·rename_i heq
  have hp:0<kw.length:=List.length_pos_iff.2 hk
  have hle:kw.length≤(A1f r).length:=by rw[←heq];simp;exact Nat.min_le_right _ _
  simp
  omega
 ·rename_i heq
  rw[if_neg heq] at h
  cases h
theorem A6s {r l u:List UInt8}(h:A3o r = .ok (l,u)):u.length<r.length∧l.length≤16∧0<l.length:=by
 have h1:=A4l r
 unfold A3o at h
 split at h
 ·cases h
 ·split at h
  ·cases h
  ·rename_i h0 h16
   cases h
   have:A0v (A1f r)≤(A1f r).length:=by
    cases A1f r with
    | nil=>exact Nat.le_refl _
    | cons c t=>
     simp only[A0v]
     split
     ·have:=(List.takeWhile_sublist A7j (l:=t)).length_le;simp;omega
     ·exact Nat.zero_le _
   simp
   omega
theorem A8g {r:List UInt8}{E:Option (Nat×List UInt8)}(h:A3o r = .error E):E≠none∧∀ a t,E=some (a,t)→a≠0∧t.length≤r.length:=by
 have h1:=A4l r
 unfold A3o at h
 split at h
 ·cases h;exact⟨by simp,fun a t e=>by cases e;exact⟨by decide,h1⟩⟩
 ·split at h
  ·cases h;exact⟨by simp,fun a t e=>by cases e;exact⟨by decide,h1⟩⟩
  ·cases h
theorem A6t {most n:Nat}{r u:List UInt8}(h:A5j most r = .ok (n,u)):u.length<r.length∧n≤most:=by
 have h1:=A4l r
 unfold A5j at h
 split at h
 ·cases h
 ·split at h
  ·cases h
  ·rename_i h0 h2
   cases h
   have:A5b (A1f r)≤(A1f r).length:=(List.takeWhile_sublist _).length_le
   simp
   omega
theorem B0p {most:Nat}{r:List UInt8}{E:Option (Nat×List UInt8)}(h:A5j most r = .error E):E≠none∧∀ a t,E=some (a,t)→a≠0∧t.length≤r.length:=by
 have h1:=A4l r
 unfold A5j at h
 split at h
 ·cases h;exact⟨by simp,fun a t e=>by cases e;exact⟨by decide,h1⟩⟩
 ·split at h
  ·cases h;exact⟨by simp,fun a t e=>by cases e;exact⟨by decide,h1⟩⟩
  ·cases h
theorem A2f {α β:Type}{x:R α}{f : α→List UInt8→R β}{y : β×List UInt8}(h:R.thn x f = .ok y):∃ a u,x = .ok (a,u)∧f a u = .ok y:=by
 cases x with
 | error E=>cases h
 | ok p=>exact⟨p.1,p.2,rfl,h⟩
theorem A1i {α β:Type}{x:R α}{f : α→List UInt8→R β}{E:Option (Nat×List UInt8)}(h:R.thn x f = .error E):x = .error E∨∃ a u,x = .ok (a,u)∧f a u = .error E:=by
 cases x with
 | error E'=>left;cases (show(Except.error E':R β) = .error E from h);rfl
 | ok p=>exact .inr ⟨p.1,p.2,rfl,h⟩
theorem A9k {many:Bool}{ch:Nat}{r u:List UInt8}{f:Fld}(h:A1v many ch r = .ok (f,u)):u.length<r.length:=by
 unfold A1v at h
 obtain⟨_,u1,h1,h⟩:=A2f h
 obtain⟨_,u2,h2,h⟩:=A2f h
 obtain⟨_,u3,h3,h⟩:=A2f h
 obtain⟨_,u4,h4,h⟩:=A2f h
 obtain⟨_,u5,h5,h⟩:=A2f h
 cases h
 have:=(A6s h1).1;have:=(A6s h2).1;have:=A3a h3;have:=(A6t h4).1;have:=A3a h5
 omega
theorem D1c:∀ (k:Nat) (acc:List Nat) (r:List UInt8) (l:List Nat) (u:List UInt8),B9m k acc r = .ok (l,u)→l.length+u.length≤acc.length+r.length
 | 0,_,_,_,_,h=>by cases h
 | k+1,acc,r,l,u,h=>by
  have hm:=A2z 44 r
  rw[B9m] at h
  split at h
  ·rename_i t heq
   rw[heq] at hm
   obtain⟨n,u1,h1,h⟩:=A2f h
   have:=(A6t h1).1
   have:=D1c k _ _ _ _ h
   have:=hm.1
   simp at *
   omega
  ·rename_i t heq
   rw[heq] at hm
   obtain⟨_,u1,h1,h⟩:=A2f h
   have:=A3a h1
   cases h
   have:=hm.1
   simp at *
   omega
theorem A7r {K:Nat}{r u:List UInt8}{l:List Nat}(h:A0u K r = .ok (l,u)):l.length+u.length≤r.length:=by
 obtain⟨n,u1,h1,h⟩:=A2f h
 have:=(A6t h1).1
 have:=D1c _ _ _ _ _ h
 simp at this
 omega
theorem B1a (ch:Nat):∀ (k:Nat) (acc:List Fld) (r:List UInt8) (l:List Fld) (u:List UInt8),A1y ch k acc r = .ok (l,u)→l.length+u.length≤acc.length+r.length
 | 0,_,_,_,_,h=>by cases h
 | k+1,acc,r,l,u,h=>by
  have hm:=A2z 125 r
  rw[A1y] at h
  split at h
  ·rename_i t heq
   rw[heq] at hm
   cases h
   have:=hm.1
   simp at *
   omega
  ·rename_i t heq
   rw[heq] at hm
   obtain⟨f,u1,h1,h⟩:=A2f h
   have:=A9k h1
   have:=B1a ch k _ _ _ _ h
   have:=hm.1
   simp at *
   omega
theorem B0k {K ch:Nat}{r u:List UInt8}{l:List Fld}(h:A1w K ch r = .ok (l,u)):l.length+u.length≤r.length:=by
 obtain⟨_,u1,h1,h⟩:=A2f h
 have:=A3a h1
 have:=B1a _ _ _ _ _ _ h
 simp at this
 omega
end Go.Proofs.YtgaoojpakjjdnaaGreatDoor
namespace Go.Proofs.YtgaoojpakjjdnaaGreatDoor
open Go.RowKit
theorem B1f {B b:Nat}{txt r:List UInt8}{m e:Value}{w:World}(h:St w b txt r m e)(hg:Gl B w)(hB:B≤b)(K:Nat)(hN:A0u K r≠.error none) :
  Calls Tryz.prog 229 #[.pointer (some ⟨b,0,none⟩)] w (C7n b txt m e w (fun l v w'=>Row A7d w' w.heap.size v l) (A0u K r)):=by
 have ah:=h.lt
 have hl0:r.length≤3000:=by have:=h.1;have:=h.2.1;omega
 have HN:Hid (A0u K r≠.error none):=hN
 have HX:Hid (A0u K r=R.thn (A5j A5i r) fun n u=>B9m K [n] u):=rfl
 clear hN
 go_enter Tryz.func229,Tryz.ntmps229
 go_wp2_with fail
 refine(A6i h hg hB A5i (by decide)).mono ?_
 rintro en w1 ⟨ac,hx⟩
 cases hn:A5j A5i r with
 | error E=>
  rw[hn] at hx
  match E,hx with
  | none,hx=>exact hx.elim
  | some (c,t),hx=>
   obtain⟨ht,rfl⟩:=hx
   have HY:Hid (A0u K r = .error (some (c,t))):=by show _=_;rw[HX.out,hn];rfl
   clear hn HX
   go_wp2
   exact⟨rfl,A0f ac HY.out ht⟩
 | ok p=>
  obtain⟨n,u1⟩:=p
  rw[hn] at hx
  obtain⟨hs1,_,rfl,rfl,bp⟩:=hx
  have bg:Hid (A0u K r=B9m K [n] u1):=by show _=_;rw[HX.out,hn];rfl
  have bq:=(A6t hn).1
  clear hn HX
  have hz:w.heap.size≤w1.heap.size:=ac.size
  have hrow:Row A7d (w1.alloc (.cells #[.int .i64 (n:Int)] 3)) w.heap.size (.slice (some ⟨w1.heap.size,0,none⟩) 1 1) [n]:=Row.one A7d w1 n hz
  have hs2:=hs1.alloc (.cells #[.int .i64 (n:Int)] 3)
  have hk2:=ac.alloc (.cells #[.int .i64 (n:Int)] 3)
  clear hs1 ac
  go_wp2_with fail
  go_loopg [3] K (fun k v wr=>∃ acc q,Row A7d wr w.heap.size v acc∧St wr b txt q m e∧Kp b w wr∧acc.length+q.length≤3001∧Hid (A0u K r=B9m k acc q))
  case atStart=>exact⟨[n],u1,hrow,hs2,hk2,by simp;omega,bg⟩
  case round=>
   clear hrow hs2 hk2 bg
   obtain⟨acc,q,hrow,hs,hk,hlen,HR⟩:=hrel
   cases gk with
   | zero=>exact absurd HR.out HN.out
   | succ k=>
    have hgr:Gl B wr:=hg.kp hB ah hk
    go_wp2_with fail
    refine(A8f hs 44).mono ?_
    rintro en w2 ⟨rfl,hs2,hk2⟩
    have hrow2:=hrow.kp hk2 ah
    have ac:=hk.trans hk2
    have au:=A2z 44 q
    clear hrow hs hk hgr
    generalize hq:A4c 44 q=mq at hs2 au ⊢
    obtain⟨ok,t2⟩:=mq
    cases ok with
    | true=>
     have ag:Hid (A0u K r=R.thn (A5j A5i t2) fun n u=>B9m k (acc++[n]) u):=by show _=_;rw[HR.out,B9m,hq]
     have hlt:t2.length<q.length:=au.2 rfl
     clear hq HR au
     have hg2:Gl B w2:=hg.kp hB ah ac
     go_wp2_with fail
     refine(A6i hs2 hg2 hB A5i (by decide)).mono ?_
     rintro en w3 ⟨hk3,hx⟩
     have hrow3:=hrow2.kp hk3 ah
     replace ac:=ac.trans hk3
     clear hs2 hk3 hk2 hrow2 hg2
     cases hn:A5j A5i t2 with
     | error E=>
      rw[hn] at hx
      match E,hx with
      | none,hx=>exact hx.elim
      | some (c,t),hx=>
       obtain⟨ht,rfl⟩:=hx
       have HY:Hid (A0u K r = .error (some (c,t))):=by show _=_;rw[ag.out,hn];rfl
       clear hn ag
       go_wp2
       exact⟨rfl,A0f ac HY.out ht⟩
     | ok p=>
      obtain⟨n2,t3⟩:=p
      rw[hn] at hx
      obtain⟨hs3,_,rfl,rfl,_⟩:=hx
      have aw:Hid (A0u K r=B9m k (acc++[n2]) t3):=by show _=_;rw[ag.out,hn];rfl
      have br:=(A6t hn).1
      clear hn ag
      have hz3:w.heap.size≤w3.heap.size:=ac.size
      have a8:Row A7d (w3.alloc (.cells #[.int .i64 (n2:Int)] 3)) w.heap.size (.slice (some ⟨w3.heap.size,0,none⟩) 1 1) [n2]:=Row.one A7d w3 n2 hz3
      have hrow4:Row A7d (w3.alloc (.cells #[.int .i64 (n2:Int)] 3)) w.heap.size u3 acc:=hrow3.below ((Below.refl _ _).alloc (Nat.le_refl _) _)
      have bk:=hs3.alloc (.cells #[.int .i64 (n2:Int)] 3)
      have hk4:=ac.alloc (.cells #[.int .i64 (n2:Int)] 3)
      clear hs3 ac hrow3
      go_wp2_with (at_builtin;refine A3m rfl A7d _ _ rfl w.heap.size _ acc [n2] rfl hrow4 w.heap.size _ rfl a8 ?e1 ?e2 ?_)
      case e1=>simp;omega
      case e2=>simp;omega
      intro v5 w5 ak aj
      have hown:=hrow4.own
      have hs5:=bk.grown aj (fun k hk=>by have:=(hown k hk).1;omega)
      have bh:=hk4.grown aj (fun k hk=>(hown k hk).1)
      go_wp2_with fail
      go_roundg k
      case measure=>omega
      case rel=>exact⟨acc++[n2],t3,ak,hs5,bh,by simp;omega,aw⟩
    | false=>
     have ag:Hid (A0u K r=R.thn (A1q 59 t2) fun _ u=>.ok (acc,u)):=by show _=_;rw[HR.out,B9m,hq]
     clear hq HR au
     go_wp2_with fail
     refine(A4t hs2 59).mono ?_
     rintro en w3 ⟨hk3,hx⟩
     have hrow3:=hrow2.kp hk3 ah
     replace ac:=ac.trans hk3
     clear hs2 hk3 hk2 hrow2
     cases hn:A1q 59 t2 with
     | error E=>
      rw[hn] at hx
      match E,hx with
      | none,hx=>exact hx.elim
      | some (c,t),hx=>
       obtain⟨ht,rfl⟩:=hx
       have HY:Hid (A0u K r = .error (some (c,t))):=by show _=_;rw[ag.out,hn];rfl
       clear hn ag
       go_wp2
       exact⟨rfl,A0f ac HY.out ht⟩
     | ok p=>
      obtain⟨_,t3⟩:=p
      rw[hn] at hx
      obtain⟨hs3,_,rfl,rfl⟩:=hx
      have aw:Hid (A0u K r = .ok (acc,t3)):=by show _=_;rw[ag.out,hn];rfl
      clear hn ag
      go_wp2
      go_ret
      exact A5l ac aw.out hs3 hrow3
end Go.Proofs.YtgaoojpakjjdnaaGreatDoor
namespace Go.Proofs.YtgaoojpakjjdnaaGreatDoor
open Go.RowKit
theorem B4n {B b:Nat}{txt r:List UInt8}{m e:Value}{w:World}(h:St w b txt r m e)(hg:Gl B w)(hB:B≤b)(K ch:Nat)(hN:A1w K ch r≠.error none) :
  Calls Tryz.prog 230 #[.pointer (some ⟨b,0,none⟩),.int .i64 (ch:Int)] w (C7n b txt m e w (fun l v w'=>Row A4q w' w.heap.size v l) (A1w K ch r)):=by
 have aw:=h.lt
 have hl0:r.length≤3000:=by have:=h.1;have:=h.2.1;omega
 have HN:Hid (A1w K ch r≠.error none):=hN
 have HX:Hid (A1w K ch r=R.thn (A1q 123 r) fun _ u=>A1y ch K [] u):=rfl
 clear hN
 go_enter Tryz.func230,Tryz.ntmps230
 go_wp2_with fail
 refine(A4t h 123).mono ?_
 rintro en w1 ⟨ac,hx⟩
 cases hn:A1q 123 r with
 | error E=>
  rw[hn] at hx
  match E,hx with
  | none,hx=>exact hx.elim
  | some (c,t),hx=>
   obtain⟨ht,rfl⟩:=hx
   have HY:Hid (A1w K ch r = .error (some (c,t))):=by show _=_;rw[HX.out,hn];rfl
   clear hn HX
   go_wp2
   exact⟨rfl,A0f ac HY.out ht⟩
 | ok p=>
  obtain⟨_,t1⟩:=p
  rw[hn] at hx
  obtain⟨hs1,_,rfl,rfl⟩:=hx
  have bg:Hid (A1w K ch r=A1y ch K [] t1):=by show _=_;rw[HX.out,hn];rfl
  have bp:=A3a hn
  clear hn HX
  go_wp2_with fail
  go_loopg [5] K (fun k v wr=>∃ acc q,Row A4q wr w.heap.size v acc∧St wr b txt q m e∧Kp b w wr∧acc.length+q.length≤3001∧Hid (A1w K ch r=A1y ch k acc q))
  case atStart=>exact⟨[],t1,Row.nil _ _ _,hs1,ac,by simp;omega,bg⟩
  case round=>
   clear hs1 ac bg
   obtain⟨acc,q,hrow,hs,hk,hlen,HR⟩:=hrel
   cases gk with
   | zero=>exact absurd HR.out HN.out
   | succ k=>
    go_wp2_with fail
    refine(A8f hs 125).mono ?_
    rintro en w2 ⟨rfl,hs2,hk2⟩
    have hrow2:=hrow.kp hk2 aw
    have ac:=hk.trans hk2
    have ak:=(A2z 125 q).1
    clear hrow hs hk
    generalize hq:A4c 125 q=mq at hs2 ak ⊢
    obtain⟨ok,t2⟩:=mq
    cases ok with
    | false=>
     have aj:Hid (A1w K ch r=R.thn (A1v false ch t2) fun f u=>A1y ch k (acc++[f]) u):=by show _=_;rw[HR.out,A1y,hq]
     have hlt:t2.length≤q.length:=ak
     clear hq HR ak
     have hg2:Gl B w2:=hg.kp hB aw ac
     go_wp2_with fail
     refine(A3g hs2 hg2 hB false ch).mono ?_
     rintro en w3 ⟨hk3,hx⟩
     have hrow3:=hrow2.kp hk3 aw
     replace ac:=ac.trans hk3
     clear hs2 hk3 hk2 hrow2 hg2
     cases hn:A1v false ch t2 with
     | error E=>
      rw[hn] at hx
      match E,hx with
      | none,hx=>exact hx.elim
      | some (c,t),hx=>
       obtain⟨ht,rfl⟩:=hx
       have HY:Hid (A1w K ch r = .error (some (c,t))):=by show _=_;rw[aj.out,hn];rfl
       clear hn aj
       go_wp2
       exact⟨rfl,A0f ac HY.out ht⟩
     | ok p=>
      obtain⟨f,t3⟩:=p
      rw[hn] at hx
      obtain⟨hs3,_,rfl,rfl⟩:=hx
      have au:Hid (A1w K ch r=A1y ch k (acc++[f]) t3):=by show _=_;rw[aj.out,hn];rfl
      have bq:=A9k hn
      clear hn aj
      have hz3:w.heap.size≤w3.heap.size:=ac.size
      have a8:Row A4q (w3.alloc (.cells (A1r f).toArray 40)) w.heap.size (.slice (some ⟨w3.heap.size,0,none⟩) 1 1) [f]:=Row.one A4q w3 f hz3
      have hrow4:Row A4q (w3.alloc (.cells (A1r f).toArray 40)) w.heap.size u5 acc:=hrow3.below ((Below.refl _ _).alloc (Nat.le_refl _) _)
      have bk:=hs3.alloc (.cells (A1r f).toArray 40)
      have hk4:=ac.alloc (.cells (A1r f).toArray 40)
      clear hs3 ac hrow3
      unfold A1r at *
      go_wp2_with (at_builtin;refine A3m rfl A4q _ _ rfl w.heap.size _ acc [f] rfl hrow4 w.heap.size _ rfl a8 ?e1 ?e2 ?_)
      case e1=>simp;omega
      case e2=>simp;omega
      intro v5 w5 ah ag
      have hown:=hrow4.own
      have hs5:=bk.grown ag (fun k hk=>by have:=(hown k hk).1;omega)
      have bh:=hk4.grown ag (fun k hk=>(hown k hk).1)
      go_wp2_with fail
      go_roundg k
      case measure=>omega
      case rel=>exact⟨acc++[f],t3,ah,hs5,bh,by simp;omega,au⟩
    | true=>
     have au:Hid (A1w K ch r = .ok (acc,t2)):=by show _=_;rw[HR.out,A1y,hq]
     clear hq HR ak
     go_wp2
     go_ret
     exact A5l ac au.out hs2 hrow2
end Go.Proofs.YtgaoojpakjjdnaaGreatDoor
