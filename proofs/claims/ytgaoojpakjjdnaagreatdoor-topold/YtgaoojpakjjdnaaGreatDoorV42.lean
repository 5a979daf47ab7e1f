import Derived.Test.YtgaoojpakjjdnaaGreatDoorV41
set_option maxHeartbeats 32000000
set_option maxRecDepth 100000
namespace Go.Proofs.YtgaoojpakjjdnaaGreatDoor
open Go.RowKit
theorem Kp.setNew {b:Nat}{x w:World}(h:Kp b x w){F:Nat}(hF:x.heap.size≤F)(i:Nat)(v:Value):Kp b x (w.setCell ⟨F,i,none⟩ v):=
 ⟨h.os,h.tape,h.output,by have:=h.size;simpa [World.setCell] using this,fun k hk hb=>(Below.heap_setCell _ _ _ _ (by show k≠F;omega)).trans (h.block k hk hb)⟩
theorem Kp.alloc {b:Nat}{x w:World}(h:Kp b x w)(o:Obj):Kp b x (w.alloc o):=
 h.trans (Kp.of_below ((Below.refl _ _).alloc (Nat.le_refl _) _))
theorem St.other {w:World}{b:Nat}{txt r:List UInt8}{m e:Value}(h:St w b txt r m e){F:Nat}(hF:b≠F)(i:Nat)(v:Value):St (w.setCell ⟨F,i,none⟩ v) b txt r m e:=
 ⟨h.1,h.2.1,h.2.2.1,by rw[Below.heap_setCell _ _ _ _ hF];exact h.2.2.2⟩
theorem St.alloc {w:World}{b:Nat}{txt r:List UInt8}{m e:Value}(h:St w b txt r m e)(o:Obj):St (w.alloc o) b txt r m e:=h.kept ((Below.refl _ _).alloc (Nat.le_refl _) _)
theorem A0w {w w':World}{b F:Nat}{o:Obj}(h:w.heap[F]?=some o)(hk:Kp b w w')(hF:F≠b):w'.heap[F]?=some o:=by
 rw[hk.block F (Array.getElem?_eq_some_iff.1 h).1 hF];exact h
theorem A8u {w w':World}{F:Nat}{o:Obj}(h:w.heap[F]?=some o)(hk:Below w.heap.size w w'):w'.heap[F]?=some o:=by
 rw[hk.block F (Array.getElem?_eq_some_iff.1 h).1];exact h
theorem A0b {w:World}{g:Nat}{cs:Array Value}{t:TypeId}(h:w.heap[g]?=some (.cells cs t (0,0)))(i:Nat):w.frozen? ⟨g,i,none⟩=false:=by
 simp[World.frozen?,h]
theorem A0j (w:World)(o o':Obj):((w.alloc o).alloc o').heap[w.heap.size+1]?=some o':=by
 have:=heap_alloc_new (w.alloc o) o'
 rwa [show(w.alloc o).heap.size=w.heap.size+1 by simp] at this
theorem A0o (w:World)(o o':Obj):((w.alloc o).alloc o').heap[w.heap.size]?=some o:=by
 rw[Below.heap_alloc _ _ _ (by simp)];exact heap_alloc_new w o
theorem B0h {w:World}{g:Nat}{a0 a1 a2 a3 a4 a5:Value}{t:TypeId}(h:w.heap[g]?=some (.cells #[a0,a1,a2,a3,a4,a5] t (0,0))) :
  w.cell? ⟨g,0,none⟩=some a0∧w.cell? ⟨g,1,none⟩=some a1∧w.cell? ⟨g,2,none⟩=some a2∧w.cell? ⟨g,3,none⟩=some a3∧w.cell? ⟨g,4,none⟩=some a4∧w.cell? ⟨g,5,none⟩=some a5:=
 ⟨A0a h 0 _ rfl,A0a h 1 _ rfl,A0a h 2 _ rfl,A0a h 3 _ rfl,A0a h 4 _ rfl,A0a h 5 _ rfl⟩
theorem A3e {B b:Nat}{txt r:List UInt8}{m e:Value}{w:World}(h:St w b txt r m e)(hg:Gl B w)(hB:B≤b)(many:Bool)(ch:Nat) :
  Calls Tryz.prog 231 #[.pointer (some ⟨b,0,none⟩),.bool many,.int .i64 (ch:Int)] w (C6j b txt m e w (fun f v _=>v = .agg (A1t f).toArray) (A2m many ch r)):=by
 have df:=h.lt
 go_enter Tryz.func231,Tryz.ntmps231
 go_wp2_with fail
 refine(A9o ((h.alloc _).alloc _)).mono ?_
 rintro en w1 ⟨bc,hx⟩
 have hF:w1.heap[w.heap.size+1]?=some (.cells #[.string ⟨#[]⟩,.int .i64 0,.int .i64 0,.string ⟨#[]⟩,.bool many,.int .i64 (ch:Int)] 40 (0,0)):=by
  exact A0w (A0j _ _ _) bc (by omega)
 have hR:w1.heap[w.heap.size]?=some (.cells #[.string ⟨#[]⟩,.int .i64 0,.int .i64 0,.string ⟨#[]⟩,.bool false,.int .i64 0] 40 (0,0)):=by
  exact A0w (A0o _ _ _) bc (by omega)
 have ac:Kp b w w1:=(((Kp.refl b w).alloc _).alloc _).trans bc
 have hg1:Gl B w1:=hg.kp hB df ac
 have hg0:=hg
 clear bc hg
 cases hn:A4f r with
 | error E=>
  rw[hn] at hx
  match E,hx with
  | none,hx=>exact hx.elim
  | some (c,t),hx=>
   obtain⟨ht,rfl⟩:=hx
   have HX:Hid (A2m many ch r = .error (some (c,t))):=by show _=_;rw[A2m,hn];rfl
   clear hn
   go_wp2
   exact⟨rfl,A0f ac HX.out ht⟩
 | ok p=>
  obtain⟨ty,u1⟩:=p
  rw[hn] at hx
  obtain⟨hs1,_,rfl,rfl⟩:=hx
  have HX:Hid (A2m many ch r=R.thn (A4f u1) fun nm u=>R.thn (A1y 61 u) fun _ u=>R.thn (A5p A9l u) fun n u=>R.thn (A1y 59 u) fun _ u=>.ok (⟨nm,n,(A2o ty).1,(A2o ty).2,many,ch⟩,u)):=by
   show _=_;rw[A2m,hn];rfl
  clear hn
  go_wp2_with fail
  refine(C5x ty w1).mono ?_
  rintro en w2 ⟨rfl,hb2⟩
  have hs2:=hs1.kept hb2
  have hF2:=A8u hF hb2
  have bu:=A8u hR hb2
  obtain⟨c0,c1,c2,c3,c4,c5⟩:=B0h hF2
  have f2:=A0b hF2 2
  have f3:=A0b hF2 3
  have ah:=ac.trans (Kp.of_below (b:=b) hb2)
  clear hF hR ac hb2
  have bn:=heap_setCell_same _ _ 3 _ _ (.string (S (A2o ty).2)) (heap_setCell_same _ _ 2 _ _ (.int .i64 ((A2o ty).1:Int)) hF2)
  have bv:=((heap_setCell_other (w2.setCell ⟨w.heap.size+1,2,none⟩ (.int .i64 ((A2o ty).1:Int))) ⟨w.heap.size+1,3,none⟩ w.heap.size (.string (S (A2o ty).2)) (by simp)).trans (heap_setCell_other w2 ⟨w.heap.size+1,2,none⟩ w.heap.size (.int .i64 ((A2o ty).1:Int)) (by simp))).trans bu
  have hs3:=(hs2.other (F:=w.heap.size+1) (by omega) 2 (.int .i64 ((A2o ty).1:Int))).other (F:=w.heap.size+1) (by omega) 3 (.string (S (A2o ty).2))
  have hk3:=(ah.setNew (F:=w.heap.size+1) (by omega) 2 (.int .i64 ((A2o ty).1:Int))).setNew (F:=w.heap.size+1) (by omega) 3 (.string (S (A2o ty).2))
  clear ah hs2 hF2 bu
  go_wp2_with fail
  clear c0 c1 c2 c3 c4 c5 f2 f3
  generalize (w2.setCell ⟨w.heap.size+1,2,none⟩ (.int .i64 ((A2o ty).1:Int))).setCell ⟨w.heap.size+1,3,none⟩ (.string (S (A2o ty).2))=W3 at *
  refine(A9o hs3).mono ?_
  rintro en w4 ⟨hk4,hx⟩
  have aw:=A0w bn hk4 (by omega)
  have bw:=A0w bv hk4 (by omega)
  have ac:=hk3.trans hk4
  clear bn bv hs3 hk3 hk4
  cases hn:A4f u1 with
  | error E=>
   rw[hn] at hx
   match E,hx with
   | none,hx=>exact hx.elim
   | some (c,t),hx=>
    obtain⟨ht,rfl⟩:=hx
    have HY:Hid (A2m many ch r = .error (some (c,t))):=by show _=_;rw[HX.out,hn];rfl
    clear hn HX
    go_wp2
    exact⟨rfl,A0f ac HY.out ht⟩
  | ok p=>
   obtain⟨nm,u2⟩:=p
   rw[hn] at hx
   obtain⟨di,_,rfl,rfl⟩:=hx
   have aj:Hid (A2m many ch r=R.thn (A1y 61 u2) fun _ u=>R.thn (A5p A9l u) fun n u=>R.thn (A1y 59 u) fun _ u=>.ok (⟨nm,n,(A2o ty).1,(A2o ty).2,many,ch⟩,u)):=by show _=_;rw[HX.out,hn];rfl
   clear hn HX
   obtain⟨c0,c1,c2,c3,c4,c5⟩:=B0h (a0:=.string ⟨#[]⟩) (a1:=.int .i64 0) (a2:=.int .i64 ((A2o ty).1:Int)) (a3:=.string (S (A2o ty).2)) (a4:=.bool many) (a5:=.int .i64 (ch:Int)) aw
   have f0:=A0b aw 0
   have bp:=heap_setCell_same _ _ 0 _ _ (.string (S nm)) aw
   have cg:=(heap_setCell_other w4 ⟨w.heap.size+1,0,none⟩ w.heap.size (.string (S nm)) (by simp)).trans bw
   have hs5:=di.other (F:=w.heap.size+1) (by omega) 0 (.string (S nm))
   have dg:=ac.setNew (F:=w.heap.size+1) (by omega) 0 (.string (S nm))
   clear ac di aw bw
   go_wp2_with fail
   clear c0 c1 c2 c3 c4 c5 f0
   generalize w4.setCell ⟨w.heap.size+1,0,none⟩ (.string (S nm))=W5 at *
   refine(A4k hs5 61).mono ?_
   rintro en w6 ⟨bg,hx⟩
   have bq:=A0w bp bg (by omega)
   have cj:=A0w cg bg (by omega)
   have ac:=dg.trans bg
   clear bp cg hs5 dg bg
   cases hn:A1y 61 u2 with
   | error E=>
    rw[hn] at hx
    match E,hx with
    | none,hx=>exact hx.elim
    | some (c,t),hx=>
     obtain⟨ht,rfl⟩:=hx
     have HY:Hid (A2m many ch r = .error (some (c,t))):=by show _=_;rw[aj.out,hn];rfl
     clear hn aj
     go_wp2
     exact⟨rfl,A0f ac HY.out ht⟩
   | ok p=>
    obtain⟨_,u3⟩:=p
    rw[hn] at hx
    obtain⟨dl,_,rfl,rfl⟩:=hx
    have ak:Hid (A2m many ch r=R.thn (A5p A9l u3) fun n u=>R.thn (A1y 59 u) fun _ u=>.ok (⟨nm,n,(A2o ty).1,(A2o ty).2,many,ch⟩,u)):=by show _=_;rw[aj.out,hn];rfl
    clear hn aj
    have dr:Gl B w6:=hg0.kp hB df ac
    go_wp2_with fail
    refine(A5z dl dr hB A9l (by decide)).mono ?_
    rintro en w7 ⟨bh,hx⟩
    have ba:=A0w bq bh (by omega)
    have cu:=A0w cj bh (by omega)
    replace ac:=ac.trans bh
    clear bq cj dl bh
    cases hn:A5p A9l u3 with
    | error E=>
     rw[hn] at hx
     match E,hx with
     | none,hx=>exact hx.elim
     | some (c,t),hx=>
      obtain⟨ht,rfl⟩:=hx
      have HY:Hid (A2m many ch r = .error (some (c,t))):=by show _=_;rw[ak.out,hn];rfl
      clear hn ak
      go_wp2
      exact⟨rfl,A0f ac HY.out ht⟩
    | ok p=>
     obtain⟨n,u4⟩:=p
     rw[hn] at hx
     obtain⟨dm,_,rfl,rfl,dv⟩:=hx
     have au:Hid (A2m many ch r=R.thn (A1y 59 u4) fun _ u=>.ok (⟨nm,n,(A2o ty).1,(A2o ty).2,many,ch⟩,u)):=by show _=_;rw[ak.out,hn];rfl
     clear hn ak
     obtain⟨c0,c1,c2,c3,c4,c5⟩:=B0h (a0:=.string (S nm)) (a1:=.int .i64 0) (a2:=.int .i64 ((A2o ty).1:Int)) (a3:=.string (S (A2o ty).2)) (a4:=.bool many) (a5:=.int .i64 (ch:Int)) ba
     have f1:=A0b ba 1
     have br:=heap_setCell_same _ _ 1 _ _ (.int .i64 (n:Int)) ba
     have cw:=(heap_setCell_other w7 ⟨w.heap.size+1,1,none⟩ w.heap.size (.int .i64 (n:Int)) (by simp)).trans cu
     have dn:=dm.other (F:=w.heap.size+1) (by omega) 1 (.int .i64 (n:Int))
     have dh:=ac.setNew (F:=w.heap.size+1) (by omega) 1 (.int .i64 (n:Int))
     clear ac dm ba cu
     go_wp2_with fail
     clear c0 c1 c2 c3 c4 c5 f1
     generalize w7.setCell ⟨w.heap.size+1,1,none⟩ (.int .i64 (n:Int))=W8 at *
     refine(A4k dn 59).mono ?_
     rintro en w9 ⟨bk,hx⟩
     have bt:=A0w br bk (by omega)
     have ag:=A0w cw bk (by omega)
     have ac:=dh.trans bk
     clear br cw dn dh bk
     cases hn:A1y 59 u4 with
     | error E=>
      rw[hn] at hx
      match E,hx with
      | none,hx=>exact hx.elim
      | some (c,t),hx=>
       obtain⟨ht,rfl⟩:=hx
       have HY:Hid (A2m many ch r = .error (some (c,t))):=by show _=_;rw[au.out,hn];rfl
       clear hn au
       go_wp2
       exact⟨rfl,A0f ac HY.out ht⟩
     | ok p=>
      obtain⟨_,u5⟩:=p
      rw[hn] at hx
      obtain⟨dt,_,rfl,rfl⟩:=hx
      have dp:Hid (A2m many ch r = .ok (⟨nm,n,(A2o ty).1,(A2o ty).2,many,ch⟩,u5)):=by show _=_;rw[au.out,hn];rfl
      clear hn au
      obtain⟨c0,c1,c2,c3,c4,c5⟩:=B0h (a0:=.string (S nm)) (a1:=.int .i64 (n:Int)) (a2:=.int .i64 ((A2o ty).1:Int)) (a3:=.string (S (A2o ty).2)) (a4:=.bool many) (a5:=.int .i64 (ch:Int)) bt
      obtain⟨d0,d1,d2,d3,d4,d5⟩:=B0h ag
      have g0:=A0b ag 0
      have g1:=A0b ag 1
      have g2:=A0b ag 2
      have g3:=A0b ag 3
      have g4:=A0b ag 4
      have g5:=A0b ag 5
      clear bt ag
      go_wp2
      refine bodyPost_ret (v:=.agg (A1t ⟨nm,n,(A2o ty).1,(A2o ty).2,many,ch⟩).toArray) (by simp[results,Tryz.results231,go_sem,A1t, *]) rfl ?_
      refine A5b ?_ dp.out ?_ rfl
      ·exact(((((ac.setNew (by omega) _ _).setNew (by omega) _ _).setNew (by omega) _ _).setNew (by omega) _ _).setNew (by omega) _ _).setNew (by omega) _ _
      ·exact(((((dt.other (by omega) _ _).other (by omega) _ _).other (by omega) _ _).other (by omega) _ _).other (by omega) _ _).other (by omega) _ _
end Go.Proofs.YtgaoojpakjjdnaaGreatDoor
namespace Go.Proofs.YtgaoojpakjjdnaaGreatDoor
open Go.RowKit
theorem A0y {w:World}{g:Nat}{a0 a1:Value}{t:TypeId}(h:w.heap[g]?=some (.cells #[a0,a1] t (0,0))) :
  w.cell? ⟨g,0,none⟩=some a0∧w.cell? ⟨g,1,none⟩=some a1:=⟨A0a h 0 _ rfl,A0a h 1 _ rfl⟩
theorem C1z {B b:Nat}{txt r:List UInt8}{m e:Value}{w:World}(h:St w b txt r m e)(hg:Gl B w)(hB:B≤b) :
  Calls Tryz.prog 232 #[.pointer (some ⟨b,0,none⟩)] w (C6j b txt m e w (fun f v _=>v = .agg (A2g f).toArray) (A4w r)):=by
 have dl:=h.lt
 have hg0:=hg
 clear hg
 have HX:Hid (A4w r=R.thn (A4f r) fun nm u=>R.thn (A1y 61 u) fun _ u=>match A3w 45 u with
  | (true,t)=>R.thn (A5p 2147483648 t) fun n u=>R.thn (A1y 59 u) fun _ u=>.ok (⟨nm,-(n:Int)⟩,u)
  | (false,t)=>R.thn (A5p 2147483647 t) fun n u=>R.thn (A1y 59 u) fun _ u=>.ok (⟨nm,(n:Int)⟩,u)):=rfl
 go_enter Tryz.func232,Tryz.ntmps232
 go_wp2_with fail
 refine(A9o (h.alloc _)).mono ?_
 rintro en w1 ⟨bw,hx⟩
 have hR:w1.heap[w.heap.size]?=some (.cells #[.string ⟨#[]⟩,.int .i64 0] 162 (0,0)):=A0w (heap_alloc_new w _) bw (by omega)
 have hz1:w.heap.size+1≤w1.heap.size:=by have:=bw.size;simpa using this
 have ac:Kp b w w1:=((Kp.refl b w).alloc _).trans bw
 clear bw
 cases hn:A4f r with
 | error E=>
  rw[hn] at hx
  match E,hx with
  | none,hx=>exact hx.elim
  | some (c,t),hx=>
   obtain⟨ht,rfl⟩:=hx
   have HY:Hid (A4w r = .error (some (c,t))):=by show _=_;rw[HX.out,hn];rfl
   clear hn HX
   go_wp2
   exact⟨rfl,A0f ac HY.out ht⟩
 | ok p=>
  obtain⟨nm,u1⟩:=p
  rw[hn] at hx
  obtain⟨hs1,_,rfl,rfl⟩:=hx
  have bt:Hid (A4w r=R.thn (A1y 61 u1) fun _ u=>match A3w 45 u with
   | (true,t)=>R.thn (A5p 2147483648 t) fun n u=>R.thn (A1y 59 u) fun _ u=>.ok (⟨nm,-(n:Int)⟩,u)
   | (false,t)=>R.thn (A5p 2147483647 t) fun n u=>R.thn (A1y 59 u) fun _ u=>.ok (⟨nm,(n:Int)⟩,u)):=by show _=_;rw[HX.out,hn];rfl
  clear hn HX
  have hF2:=heap_alloc_new w1 (.cells #[.string (S nm),.int .i64 0] 162)
  have dh:=(Below.heap_alloc w1 (.cells #[.string (S nm),.int .i64 0] 162) w.heap.size (by omega)).trans hR
  have hs2:=hs1.alloc (.cells #[.string (S nm),.int .i64 0] 162)
  have hk2:=ac.alloc (.cells #[.string (S nm),.int .i64 0] 162)
  clear ac hR hs1
  go_wp2_with fail
  generalize w1.alloc (.cells #[.string (S nm),.int .i64 0] 162)=W2 at *
  obtain⟨F,df⟩:∃ F,Hid (F=w1.heap.size):=⟨_,rfl⟩
  have dn:w.heap.size+1≤F:=by rw[df.out];exact hz1
  rw[←df.out] at hF2 ⊢
  refine(A4k hs2 61).mono ?_
  rintro en w3 ⟨hk3,hx⟩
  have dg:=A0w hF2 hk3 (by omega)
  have di:=A0w dh hk3 (by omega)
  have ac:=hk2.trans hk3
  clear hF2 dh hs2 hk2 hk3
  cases hn:A1y 61 u1 with
  | error E=>
   rw[hn] at hx
   match E,hx with
   | none,hx=>exact hx.elim
   | some (c,t),hx=>
    obtain⟨ht,rfl⟩:=hx
    have HY:Hid (A4w r = .error (some (c,t))):=by show _=_;rw[bt.out,hn];rfl
    clear hn bt
    go_wp2
    exact⟨rfl,A0f ac HY.out ht⟩
  | ok p=>
   obtain⟨_,u2⟩:=p
   rw[hn] at hx
   obtain⟨hs3,_,rfl,rfl⟩:=hx
   have ag:Hid (A4w r=match A3w 45 u2 with
    | (true,t)=>R.thn (A5p 2147483648 t) fun n u=>R.thn (A1y 59 u) fun _ u=>.ok (⟨nm,-(n:Int)⟩,u)
    | (false,t)=>R.thn (A5p 2147483647 t) fun n u=>R.thn (A1y 59 u) fun _ u=>.ok (⟨nm,(n:Int)⟩,u)):=by show _=_;rw[bt.out,hn];rfl
   clear hn bt
   go_wp2_with fail
   refine(A7t hs3 45).mono ?_
   rintro en w6 ⟨rfl,bp,cg⟩
   have bu:=A0w dg cg (by omega)
   have bv:=A0w di cg (by omega)
   replace ac:=ac.trans cg
   clear dg di hs3 cg
   generalize hq:A3w 45 u2=q at bp ⊢
   obtain⟨ok,u3⟩:=q
   cases ok with
   | true=>
    have ah:Hid (A4w r=R.thn (A5p 2147483648 u3) fun n u=>R.thn (A1y 59 u) fun _ u=>.ok (⟨nm,-(n:Int)⟩,u)):=by show _=_;rw[ag.out,hq]
    clear hq ag
    have cu:Gl B w6:=hg0.kp hB dl ac
    go_wp2_with fail
    refine(A5z bp cu hB 2147483648 (by decide)).mono ?_
    rintro en w7 ⟨aw,hx⟩
    have ak:=A0w bu aw (by omega)
    have bh:=A0w bv aw (by omega)
    replace ac:=ac.trans aw
    clear bu bv bp aw
    cases hn:A5p 2147483648 u3 with
    | error E=>
     rw[hn] at hx
     match E,hx with
     | none,hx=>exact hx.elim
     | some (c,t),hx=>
      obtain⟨ht,rfl⟩:=hx
      have HY:Hid (A4w r = .error (some (c,t))):=by show _=_;rw[ah.out,hn];rfl
      clear hn ah
      go_wp2
      exact⟨rfl,A0f ac HY.out ht⟩
    | ok p=>
     obtain⟨n,u4⟩:=p
     rw[hn] at hx
     obtain⟨bq,_,rfl,rfl,dm⟩:=hx
     have aj:Hid (A4w r=R.thn (A1y 59 u4) fun _ u=>.ok (⟨nm,(-(n:Int))⟩,u)):=by show _=_;rw[ah.out,hn];rfl
     clear hn ah
     obtain⟨c0,c1⟩:=A0y (a0:=.string (S nm)) (a1:=.int .i64 0) ak
     have f1:=A0b ak 1
     have bc:=heap_setCell_same _ _ 1 _ _ (.int .i64 (-(n:Int))) ak
     have bk:=(heap_setCell_other w7 ⟨F,1,none⟩ w.heap.size (.int .i64 (-(n:Int))) (by simp;omega)).trans bh
     have br:=bq.other (F:=F) (by omega) 1 (.int .i64 (-(n:Int)))
     have bn:=ac.setNew (F:=F) (by omega) 1 (.int .i64 (-(n:Int)))
     clear ac bq ak bh
     go_wp2_with fail
     clear c0 c1 f1
     generalize w7.setCell ⟨F,1,none⟩ (.int .i64 (-(n:Int)))=W8 at *
     refine(A4k br 59).mono ?_
     rintro en w9 ⟨ba,hx⟩
     have bg:=A0w bc ba (by omega)
     have au:=A0w bk ba (by omega)
     have ac:=bn.trans ba
     clear bc bk br bn ba
     cases hn:A1y 59 u4 with
     | error E=>
      rw[hn] at hx
      match E,hx with
      | none,hx=>exact hx.elim
      | some (c,t),hx=>
       obtain⟨ht,rfl⟩:=hx
       have HY:Hid (A4w r = .error (some (c,t))):=by show _=_;rw[aj.out,hn];rfl
       clear hn aj
       go_wp2
       exact⟨rfl,A0f ac HY.out ht⟩
     | ok p=>
      obtain⟨_,u5⟩:=p
      rw[hn] at hx
      obtain⟨cw,_,rfl,rfl⟩:=hx
      have cj:Hid (A4w r = .ok (⟨nm,(-(n:Int))⟩,u5)):=by show _=_;rw[aj.out,hn];rfl
      clear hn aj
      obtain⟨c0,c1⟩:=A0y (a0:=.string (S nm)) (a1:=.int .i64 (-(n:Int))) bg
      obtain⟨d0,d1⟩:=A0y au
      have g0:=A0b au 0
      have g1:=A0b au 1
      clear bg au
      go_wp2
      refine bodyPost_ret (v:=.agg (A2g ⟨nm,(-(n:Int))⟩).toArray) (by simp[results,Tryz.results232,go_sem,A2g, *]) rfl ?_
      refine A5b ?_ cj.out ?_ rfl
      ·exact(ac.setNew (by omega) _ _).setNew (by omega) _ _
      ·exact(cw.other (by omega) _ _).other (by omega) _ _
   | false=>
    have ah:Hid (A4w r=R.thn (A5p 2147483647 u3) fun n u=>R.thn (A1y 59 u) fun _ u=>.ok (⟨nm,(n:Int)⟩,u)):=by show _=_;rw[ag.out,hq]
    clear hq ag
    have cu:Gl B w6:=hg0.kp hB dl ac
    go_wp2_with fail
    refine(A5z bp cu hB 2147483647 (by decide)).mono ?_
    rintro en w7 ⟨aw,hx⟩
    have ak:=A0w bu aw (by omega)
    have bh:=A0w bv aw (by omega)
    replace ac:=ac.trans aw
    clear bu bv bp aw
    cases hn:A5p 2147483647 u3 with
    | error E=>
     rw[hn] at hx
     match E,hx with
     | none,hx=>exact hx.elim
     | some (c,t),hx=>
      obtain⟨ht,rfl⟩:=hx
      have HY:Hid (A4w r = .error (some (c,t))):=by show _=_;rw[ah.out,hn];rfl
      clear hn ah
      go_wp2
      exact⟨rfl,A0f ac HY.out ht⟩
    | ok p=>
     obtain⟨n,u4⟩:=p
     rw[hn] at hx
     obtain⟨bq,_,rfl,rfl,dm⟩:=hx
     have aj:Hid (A4w r=R.thn (A1y 59 u4) fun _ u=>.ok (⟨nm,(n:Int)⟩,u)):=by show _=_;rw[ah.out,hn];rfl
     clear hn ah
     obtain⟨c0,c1⟩:=A0y (a0:=.string (S nm)) (a1:=.int .i64 0) ak
     have f1:=A0b ak 1
     have bc:=heap_setCell_same _ _ 1 _ _ (.int .i64 (n:Int)) ak
     have bk:=(heap_setCell_other w7 ⟨F,1,none⟩ w.heap.size (.int .i64 (n:Int)) (by simp;omega)).trans bh
     have br:=bq.other (F:=F) (by omega) 1 (.int .i64 (n:Int))
     have bn:=ac.setNew (F:=F) (by omega) 1 (.int .i64 (n:Int))
     clear ac bq ak bh
     go_wp2_with fail
     clear c0 c1 f1
     generalize w7.setCell ⟨F,1,none⟩ (.int .i64 (n:Int))=W8 at *
     refine(A4k br 59).mono ?_
     rintro en w9 ⟨ba,hx⟩
     have bg:=A0w bc ba (by omega)
     have au:=A0w bk ba (by omega)
     have ac:=bn.trans ba
     clear bc bk br bn ba
     cases hn:A1y 59 u4 with
     | error E=>
      rw[hn] at hx
      match E,hx with
      | none,hx=>exact hx.elim
      | some (c,t),hx=>
       obtain⟨ht,rfl⟩:=hx
       have HY:Hid (A4w r = .error (some (c,t))):=by show _=_;rw[aj.out,hn];rfl
       clear hn aj
       go_wp2
       exact⟨rfl,A0f ac HY.out ht⟩
     | ok p=>
      obtain⟨_,u5⟩:=p
      rw[hn] at hx
      obtain⟨cw,_,rfl,rfl⟩:=hx
      have cj:Hid (A4w r = .ok (⟨nm,(n:Int)⟩,u5)):=by show _=_;rw[aj.out,hn];rfl
      clear hn aj
      obtain⟨c0,c1⟩:=A0y (a0:=.string (S nm)) (a1:=.int .i64 (n:Int)) bg
      obtain⟨d0,d1⟩:=A0y au
      have g0:=A0b au 0
      have g1:=A0b au 1
      clear bg au
      go_wp2
      refine bodyPost_ret (v:=.agg (A2g ⟨nm,(n:Int)⟩).toArray) (by simp[results,Tryz.results232,go_sem,A2g, *]) rfl ?_
      refine A5b ?_ cj.out ?_ rfl
      ·exact(ac.setNew (by omega) _ _).setNew (by omega) _ _
      ·exact(cw.other (by omega) _ _).other (by omega) _ _
end Go.Proofs.YtgaoojpakjjdnaaGreatDoor
namespace Go.Proofs.YtgaoojpakjjdnaaGreatDoor
theorem A9h (c:UInt8)(r:List UInt8):(A3w c r).2.length≤r.length∧((A3w c r).1=true→(A3w c r).2.length<r.length):=by
 have h:=B3l r
 unfold A3w
 split
 ·exact⟨by simp,by simp⟩
 ·rename_i x t heq
  rw[heq] at h
  simp at h
  split
  ·exact⟨by simp;omega,fun _=>by simp;omega⟩
  ·exact⟨by simp;omega,fun hh=>by simp at hh⟩
theorem A9n {c:UInt8}{r u:List UInt8}{x:Unit}(h:A1y c r = .ok (x,u)):u.length<r.length:=by
 have hm:=A9h c r
 unfold A1y at h
 split at h
 ·rename_i t heq
  rw[heq] at hm
  cases h
  exact hm.2 rfl
 ·cases h
theorem C2e {r l u:List UInt8}(h:A4f r = .ok (l,u)):u.length<r.length∧l.length≤16∧0<l.length:=by
 have h1:=B3l r
 unfold A4f at h
 split at h
 ·cases h
 ·split at h
  ·cases h
  ·rename_i h0 h16
   cases h
   have:A1c (A1o r)≤(A1o r).length:=by
    cases A1o r with
    | nil=>exact Nat.le_refl _
    | cons c t=>
     simp only[A1c]
     split
     ·have:=(List.takeWhile_sublist A7c (l:=t)).length_le;simp;omega
     ·exact Nat.zero_le _
   simp
   omega
theorem B3d {most n:Nat}{r u:List UInt8}(h:A5p most r = .ok (n,u)):u.length<r.length∧n≤most:=by
 have h1:=B3l r
 unfold A5p at h
 split at h
 ·cases h
 ·split at h
  ·cases h
  ·rename_i h0 h2
   cases h
   have:A4r (A1o r)≤(A1o r).length:=(List.takeWhile_sublist _).length_le
   simp
   omega
theorem A8d {α β:Type}{x:R α}{f : α→List UInt8→R β}{y : β×List UInt8}(h:R.thn x f = .ok y):∃ a u,x = .ok (a,u)∧f a u = .ok y:=by
 cases x with
 | error E=>cases h
 | ok p=>exact⟨p.1,p.2,rfl,h⟩
theorem B7t {many:Bool}{ch:Nat}{r u:List UInt8}{f:Fld}(h:A2m many ch r = .ok (f,u)):u.length<r.length:=by
 unfold A2m at h
 obtain⟨_,u1,h1,h⟩:=A8d h
 obtain⟨_,u2,h2,h⟩:=A8d h
 obtain⟨_,u3,h3,h⟩:=A8d h
 obtain⟨_,u4,h4,h⟩:=A8d h
 obtain⟨_,u5,h5,h⟩:=A8d h
 cases h
 have:=(C2e h1).1;have:=(C2e h2).1;have:=A9n h3;have:=(B3d h4).1;have:=A9n h5
 omega
theorem C9n:∀ (k:Nat) (acc:List Nat) (r:List UInt8) (l:List Nat) (u:List UInt8),C9m k acc r = .ok (l,u)→l.length+u.length≤acc.length+r.length
 | 0,_,_,_,_,h=>by cases h
 | k+1,acc,r,l,u,h=>by
  have hm:=A9h 44 r
  rw[C9m] at h
  split at h
  ·rename_i t heq
   rw[heq] at hm
   obtain⟨n,u1,h1,h⟩:=A8d h
   have:=(B3d h1).1
   have:=C9n k _ _ _ _ h
   have:=hm.1
   simp at *
   omega
  ·rename_i t heq
   rw[heq] at hm
   obtain⟨_,u1,h1,h⟩:=A8d h
   have:=A9n h1
   cases h
   have:=hm.1
   simp at *
   omega
theorem B1c {K:Nat}{r u:List UInt8}{l:List Nat}(h:A1k K r = .ok (l,u)):l.length+u.length≤r.length:=by
 obtain⟨n,u1,h1,h⟩:=A8d h
 have:=(B3d h1).1
 have:=C9n _ _ _ _ _ h
 simp at this
 omega
theorem B0z (ch:Nat):∀ (k:Nat) (acc:List Fld) (r:List UInt8) (l:List Fld) (u:List UInt8),A3o ch k acc r = .ok (l,u)→l.length+u.length≤acc.length+r.length
 | 0,_,_,_,_,h=>by cases h
 | k+1,acc,r,l,u,h=>by
  have hm:=A9h 125 r
  rw[A3o] at h
  split at h
  ·rename_i t heq
   rw[heq] at hm
   cases h
   have:=hm.1
   simp at *
   omega
  ·rename_i t heq
   rw[heq] at hm
   obtain⟨f,u1,h1,h⟩:=A8d h
   have:=B7t h1
   have:=B0z ch k _ _ _ _ h
   have:=hm.1
   simp at *
   omega
theorem B4m {K ch:Nat}{r u:List UInt8}{l:List Fld}(h:A2l K ch r = .ok (l,u)):l.length+u.length≤r.length:=by
 obtain⟨_,u1,h1,h⟩:=A8d h
 have:=A9n h1
 have:=B0z _ _ _ _ _ _ h
 simp at this
 omega
end Go.Proofs.YtgaoojpakjjdnaaGreatDoor
namespace Go.Proofs.YtgaoojpakjjdnaaGreatDoor
open Go.RowKit
theorem B1b {B b:Nat}{txt r:List UInt8}{m e:Value}{w:World}(h:St w b txt r m e)(hg:Gl B w)(hB:B≤b)(K:Nat)(hN:A1k K r≠.error none) :
  Calls Tryz.prog 229 #[.pointer (some ⟨b,0,none⟩)] w (C6j b txt m e w (fun l v w'=>Row A6x w' w.heap.size v l) (A1k K r)):=by
 have ah:=h.lt
 have hl0:r.length≤3000:=by have:=h.1;have:=h.2.1;omega
 have HN:Hid (A1k K r≠.error none):=hN
 have HX:Hid (A1k K r=R.thn (A5p A9l r) fun n u=>C9m K [n] u):=rfl
 clear hN
 go_enter Tryz.func229,Tryz.ntmps229
 go_wp2_with fail
 refine(A5z h hg hB A9l (by decide)).mono ?_
 rintro en w1 ⟨ac,hx⟩
 cases hn:A5p A9l r with
 | error E=>
  rw[hn] at hx
  match E,hx with
  | none,hx=>exact hx.elim
  | some (c,t),hx=>
   obtain⟨ht,rfl⟩:=hx
   have HY:Hid (A1k K r = .error (some (c,t))):=by show _=_;rw[HX.out,hn];rfl
   clear hn HX
   go_wp2
   exact⟨rfl,A0f ac HY.out ht⟩
 | ok p=>
  obtain⟨n,u1⟩:=p
  rw[hn] at hx
  obtain⟨hs1,_,rfl,rfl,bk⟩:=hx
  have bc:Hid (A1k K r=C9m K [n] u1):=by show _=_;rw[HX.out,hn];rfl
  have bn:=(B3d hn).1
  clear hn HX
  have hz:w.heap.size≤w1.heap.size:=ac.size
  have hrow:Row A6x (w1.alloc (.cells #[.int .i64 (n:Int)] 3)) w.heap.size (.slice (some ⟨w1.heap.size,0,none⟩) 1 1) [n]:=Row.one A6x w1 n hz
  have hs2:=hs1.alloc (.cells #[.int .i64 (n:Int)] 3)
  have hk2:=ac.alloc (.cells #[.int .i64 (n:Int)] 3)
  clear hs1 ac
  go_wp2_with fail
  go_loopg [3] K (fun k v wr=>∃ acc q,Row A6x wr w.heap.size v acc∧St wr b txt q m e∧Kp b w wr∧acc.length+q.length≤3001∧Hid (A1k K r=C9m k acc q))
  case atStart=>exact⟨[n],u1,hrow,hs2,hk2,by simp;omega,bc⟩
  case round=>
   clear hrow hs2 hk2 bc
   obtain⟨acc,q,hrow,hs,hk,hlen,HR⟩:=hrel
   cases gk with
   | zero=>exact absurd HR.out HN.out
   | succ k=>
    have hgr:Gl B wr:=hg.kp hB ah hk
    go_wp2_with fail
    refine(A7t hs 44).mono ?_
    rintro en w2 ⟨rfl,hs2,hk2⟩
    have hrow2:=hrow.kp hk2 ah
    have ac:=hk.trans hk2
    have au:=A9h 44 q
    clear hrow hs hk hgr
    generalize hq:A3w 44 q=mq at hs2 au ⊢
    obtain⟨ok,t2⟩:=mq
    cases ok with
    | true=>
     have ag:Hid (A1k K r=R.thn (A5p A9l t2) fun n u=>C9m k (acc++[n]) u):=by show _=_;rw[HR.out,C9m,hq]
     have hlt:t2.length<q.length:=au.2 rfl
     clear hq HR au
     have hg2:Gl B w2:=hg.kp hB ah ac
     go_wp2_with fail
     refine(A5z hs2 hg2 hB A9l (by decide)).mono ?_
     rintro en w3 ⟨hk3,hx⟩
     have hrow3:=hrow2.kp hk3 ah
     replace ac:=ac.trans hk3
     clear hs2 hk3 hk2 hrow2 hg2
     cases hn:A5p A9l t2 with
     | error E=>
      rw[hn] at hx
      match E,hx with
      | none,hx=>exact hx.elim
      | some (c,t),hx=>
       obtain⟨ht,rfl⟩:=hx
       have HY:Hid (A1k K r = .error (some (c,t))):=by show _=_;rw[ag.out,hn];rfl
       clear hn ag
       go_wp2
       exact⟨rfl,A0f ac HY.out ht⟩
     | ok p=>
      obtain⟨n2,t3⟩:=p
      rw[hn] at hx
      obtain⟨hs3,_,rfl,rfl,_⟩:=hx
      have aw:Hid (A1k K r=C9m k (acc++[n2]) t3):=by show _=_;rw[ag.out,hn];rfl
      have bp:=(B3d hn).1
      clear hn ag
      have hz3:w.heap.size≤w3.heap.size:=ac.size
      have ba:Row A6x (w3.alloc (.cells #[.int .i64 (n2:Int)] 3)) w.heap.size (.slice (some ⟨w3.heap.size,0,none⟩) 1 1) [n2]:=Row.one A6x w3 n2 hz3
      have hrow4:Row A6x (w3.alloc (.cells #[.int .i64 (n2:Int)] 3)) w.heap.size u3 acc:=hrow3.below ((Below.refl _ _).alloc (Nat.le_refl _) _)
      have bh:=hs3.alloc (.cells #[.int .i64 (n2:Int)] 3)
      have hk4:=ac.alloc (.cells #[.int .i64 (n2:Int)] 3)
      clear hs3 ac hrow3
      go_wp2_with (at_builtin;refine A2r rfl A6x _ _ rfl w.heap.size _ acc [n2] rfl hrow4 w.heap.size _ rfl ba ?e1 ?e2 ?_)
      case e1=>simp;omega
      case e2=>simp;omega
      intro v5 w5 ak aj
      have hown:=hrow4.own
      have hs5:=bh.grown aj (fun k hk=>by have:=(hown k hk).1;omega)
      have bg:=hk4.grown aj (fun k hk=>(hown k hk).1)
      go_wp2_with fail
      go_roundg k
      case measure=>omega
      case rel=>exact⟨acc++[n2],t3,ak,hs5,bg,by simp;omega,aw⟩
    | false=>
     have ag:Hid (A1k K r=R.thn (A1y 59 t2) fun _ u=>.ok (acc,u)):=by show _=_;rw[HR.out,C9m,hq]
     clear hq HR au
     go_wp2_with fail
     refine(A4k hs2 59).mono ?_
     rintro en w3 ⟨hk3,hx⟩
     have hrow3:=hrow2.kp hk3 ah
     replace ac:=ac.trans hk3
     clear hs2 hk3 hk2 hrow2
     cases hn:A1y 59 t2 with
     | error E=>
      rw[hn] at hx
      match E,hx with
      | none,hx=>exact hx.elim
      | some (c,t),hx=>
       obtain⟨ht,rfl⟩:=hx
       have HY:Hid (A1k K r = .error (some (c,t))):=by show _=_;rw[ag.out,hn];rfl
       clear hn ag
       go_wp2
       exact⟨rfl,A0f ac HY.out ht⟩
     | ok p=>
      obtain⟨_,t3⟩:=p
      rw[hn] at hx
      obtain⟨hs3,_,rfl,rfl⟩:=hx
      have aw:Hid (A1k K r = .ok (acc,t3)):=by show _=_;rw[ag.out,hn];rfl
      clear hn ag
      go_wp2
      go_ret
      exact A5b ac aw.out hs3 hrow3
end Go.Proofs.YtgaoojpakjjdnaaGreatDoor
namespace Go.Proofs.YtgaoojpakjjdnaaGreatDoor
open Go.RowKit
theorem B4l {B b:Nat}{txt r:List UInt8}{m e:Value}{w:World}(h:St w b txt r m e)(hg:Gl B w)(hB:B≤b)(K ch:Nat)(hN:A2l K ch r≠.error none) :
  Calls Tryz.prog 230 #[.pointer (some ⟨b,0,none⟩),.int .i64 (ch:Int)] w (C6j b txt m e w (fun l v w'=>Row A4i w' w.heap.size v l) (A2l K ch r)):=by
 have aw:=h.lt
 have hl0:r.length≤3000:=by have:=h.1;have:=h.2.1;omega
 have HN:Hid (A2l K ch r≠.error none):=hN
 have HX:Hid (A2l K ch r=R.thn (A1y 123 r) fun _ u=>A3o ch K [] u):=rfl
 clear hN
 go_enter Tryz.func230,Tryz.ntmps230
 go_wp2_with fail
 refine(A4k h 123).mono ?_
 rintro en w1 ⟨ac,hx⟩
 cases hn:A1y 123 r with
 | error E=>
  rw[hn] at hx
  match E,hx with
  | none,hx=>exact hx.elim
  | some (c,t),hx=>
   obtain⟨ht,rfl⟩:=hx
   have HY:Hid (A2l K ch r = .error (some (c,t))):=by show _=_;rw[HX.out,hn];rfl
   clear hn HX
   go_wp2
   exact⟨rfl,A0f ac HY.out ht⟩
 | ok p=>
  obtain⟨_,t1⟩:=p
  rw[hn] at hx
  obtain⟨hs1,_,rfl,rfl⟩:=hx
  have bc:Hid (A2l K ch r=A3o ch K [] t1):=by show _=_;rw[HX.out,hn];rfl
  have bk:=A9n hn
  clear hn HX
  go_wp2_with fail
  go_loopg [5] K (fun k v wr=>∃ acc q,Row A4i wr w.heap.size v acc∧St wr b txt q m e∧Kp b w wr∧acc.length+q.length≤3001∧Hid (A2l K ch r=A3o ch k acc q))
  case atStart=>exact⟨[],t1,Row.nil _ _ _,hs1,ac,by simp;omega,bc⟩
  case round=>
   clear hs1 ac bc
   obtain⟨acc,q,hrow,hs,hk,hlen,HR⟩:=hrel
   cases gk with
   | zero=>exact absurd HR.out HN.out
   | succ k=>
    go_wp2_with fail
    refine(A7t hs 125).mono ?_
    rintro en w2 ⟨rfl,hs2,hk2⟩
    have hrow2:=hrow.kp hk2 aw
    have ac:=hk.trans hk2
    have ak:=(A9h 125 q).1
    clear hrow hs hk
    generalize hq:A3w 125 q=mq at hs2 ak ⊢
    obtain⟨ok,t2⟩:=mq
    cases ok with
    | false=>
     have aj:Hid (A2l K ch r=R.thn (A2m false ch t2) fun f u=>A3o ch k (acc++[f]) u):=by show _=_;rw[HR.out,A3o,hq]
     have hlt:t2.length≤q.length:=ak
     clear hq HR ak
     have hg2:Gl B w2:=hg.kp hB aw ac
     go_wp2_with fail
     refine(A3e hs2 hg2 hB false ch).mono ?_
     rintro en w3 ⟨hk3,hx⟩
     have hrow3:=hrow2.kp hk3 aw
     replace ac:=ac.trans hk3
     clear hs2 hk3 hk2 hrow2 hg2
     cases hn:A2m false ch t2 with
     | error E=>
      rw[hn] at hx
      match E,hx with
      | none,hx=>exact hx.elim
      | some (c,t),hx=>
       obtain⟨ht,rfl⟩:=hx
       have HY:Hid (A2l K ch r = .error (some (c,t))):=by show _=_;rw[aj.out,hn];rfl
       clear hn aj
       go_wp2
       exact⟨rfl,A0f ac HY.out ht⟩
     | ok p=>
      obtain⟨f,t3⟩:=p
      rw[hn] at hx
      obtain⟨hs3,_,rfl,rfl⟩:=hx
      have au:Hid (A2l K ch r=A3o ch k (acc++[f]) t3):=by show _=_;rw[aj.out,hn];rfl
      have bn:=B7t hn
      clear hn aj
      have hz3:w.heap.size≤w3.heap.size:=ac.size
      have ba:Row A4i (w3.alloc (.cells (A1t f).toArray 40)) w.heap.size (.slice (some ⟨w3.heap.size,0,none⟩) 1 1) [f]:=Row.one A4i w3 f hz3
      have hrow4:Row A4i (w3.alloc (.cells (A1t f).toArray 40)) w.heap.size u5 acc:=hrow3.below ((Below.refl _ _).alloc (Nat.le_refl _) _)
      have bh:=hs3.alloc (.cells (A1t f).toArray 40)
      have hk4:=ac.alloc (.cells (A1t f).toArray 40)
      clear hs3 ac hrow3
      unfold A1t at *
      go_wp2_with (at_builtin;refine A2r rfl A4i _ _ rfl w.heap.size _ acc [f] rfl hrow4 w.heap.size _ rfl ba ?e1 ?e2 ?_)
      case e1=>simp;omega
      case e2=>simp;omega
      intro v5 w5 ah ag
      have hown:=hrow4.own
      have hs5:=bh.grown ag (fun k hk=>by have:=(hown k hk).1;omega)
      have bg:=hk4.grown ag (fun k hk=>(hown k hk).1)
      go_wp2_with fail
      go_roundg k
      case measure=>omega
      case rel=>exact⟨acc++[f],t3,ah,hs5,bg,by simp;omega,au⟩
    | true=>
     have au:Hid (A2l K ch r = .ok (acc,t2)):=by show _=_;rw[HR.out,A3o,hq]
     clear hq HR ak
     go_wp2
     go_ret
     exact A5b ac au.out hs2 hrow2
end Go.Proofs.YtgaoojpakjjdnaaGreatDoor
