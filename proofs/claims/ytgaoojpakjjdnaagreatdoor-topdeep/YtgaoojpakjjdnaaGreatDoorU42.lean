import Derived.Test.YtgaoojpakjjdnaaGreatDoorU41
import Derived.Test.YtgaoojpakjjdnaaGreatDoorU00
set_option maxHeartbeats 32000000
set_option maxRecDepth 100000
namespace Go.Proofs.YtgaoojpakjjdnaaGreatDoor
open Go.RowKit
def A2j:Array Value:=(A3d.map fun l=>Value.string (S l)).toArray
theorem B0e (w:World):Calls Tryz.prog 157 #[] w fun e w'=>e = .returned (.slice (some ⟨w.heap.size,0,none⟩) 9 9)∧w.alloc (.cells A2j 9)=w':=by
 go_enter Tryz.func157,Tryz.ntmps157
 go_wp2
 go_ret
 exact⟨rfl,rfl⟩
theorem A5n (k:Nat) (hk:k < 9):A2j[k]?=some (.string (S (A3d.getD k []))):=by
 have:k < A3d.length:=hk
 simp[A2j,this]
theorem B2p {i:Nat}{ws:List (List UInt8)}{k:Nat}{l:List UInt8}(hk:k < ws.length):A3z i (ws.drop k) l=if ws.getD k []=l then(i,[]) else A3z (i+1) (ws.drop (k+1)) l:=by
 rw[List.drop_eq_getElem_cons hk,A3z]
 simp[hk]
theorem A0a {w:World}{g:Nat}{cs:Array Value}{t:TypeId}{fr:Nat×Nat}(h:w.heap[g]?=some (.cells cs t fr)) (i:Nat) (v:Value) (hi:cs[i]?=some v):w.cell? ⟨g,i,none⟩=some v:=by
 simp[World.cell?,h,hi]
theorem B9q (l:List UInt8) (w:World):Calls Tryz.prog 250 #[.string (S l)] w fun e w'=>e = .returned (.tuple #[.int .i64 ((A1t l).1:Int),.string (S (A1t l).2)])∧Below w.heap.size w w':=by
 have hl:=A1x l
 go_enter Tryz.func250,Tryz.ntmps250
 go_wp2_with fail
 refine(B0e w).mono ?_
 rintro e w1 ⟨rfl,ag⟩
 have hblk:w1.heap[w.heap.size]?=some (.cells A2j 9 (0,0)):=by rw[←ag];exact heap_alloc_new w _
 have ac:Below w.heap.size w w1:=by rw[←ag];exact(Below.refl _ _).alloc (Nat.le_refl _) _
 obtain⟨g,Hg⟩:∃ g,Hid (g=w.heap.size):=⟨_,rfl⟩
 rw[←Hg.out] at hblk ⊢
 clear ag
 go_wp2
 go_loop [8] (fun i=>∃ k:Nat,k≤9∧i = .int .i64 k∧Hid (A1t l=A3z (1+k) (A3d.drop k) l)) (fun i=>9 - (intOf i).toNat)
 case atStart=>exact⟨0,by omega,rfl,rfl⟩
 case round=>
  obtain⟨k,hk,rfl,HR⟩:=hrel
  by_cases hlt:k < 9
  ·have hc:=A0a hblk k _ (A5n k hlt)
   obtain⟨x,Hx⟩:∃ x,Hid (x=A3d.getD k []):=⟨_,rfl⟩
   have HS:=B2p (i:=1+k) (ws:=A3d) (l:=l) hlt
   have ah:Hid (A1t l=if x=l then(1+k,[]) else A3z (1+k+1) (A3d.drop (k+1)) l):=by show _=_;rw[HR.out,HS,Hx.out]
   rw[←Hx.out] at hc
   have hlx:=A1x x
   clear HS hblk
   by_cases hx:x=l
   ·have HE:Hid (A1t l=(1+k,[])):=by show _=_;rw[ah.out,if_pos hx]
    have hb:(x == l)=true:=by simpa using hx
    clear hx
    go_wp2
    go_ret2
    rw[HE.out]
    refine⟨?_,ac⟩
    show Ending.returned (.tuple #[.int .i64 (1+(k:Int)),.string (S [])]) = .returned (.tuple #[.int .i64 ((1+k:Nat):Int),.string (S [])])
    rw[Int.natCast_add]
    rfl
   ·have HE:Hid (A1t l=A3z (1+(k+1)) (A3d.drop (k+1)) l):=by show _=_;rw[ah.out,if_neg hx];rfl
    have hb:(x == l)=false:=by simpa using hx
    clear hx
    go_wp2
    go_round
    case rel=>exact⟨k+1,by omega,by go_num,HE⟩
    case measure=>simp[intOf];omega
  ·have aj:k=9:=by omega
   have HE:Hid (A1t l=(10,l)):=by show _=_;rw[HR.out,aj];rfl
   clear HR
   go_wp2
   go_ret2
   rw[HE.out]
   exact⟨rfl,ac⟩
end Go.Proofs.YtgaoojpakjjdnaaGreatDoor
namespace Go.Proofs.YtgaoojpakjjdnaaGreatDoor
open Go.RowKit
theorem Kp.setNew {b:Nat}{x w:World}(h:Kp b x w){F:Nat}(hF:x.heap.size≤F) (i:Nat) (v:Value):Kp b x (w.setCell ⟨F,i,none⟩ v):=
 ⟨h.os,h.tape,h.output,by have:=h.size;simpa [World.setCell] using this,fun k hk hb=>(Below.heap_setCell _ _ _ _ (by show k≠F;omega)).trans (h.block k hk hb)⟩
theorem Kp.alloc {b:Nat}{x w:World}(h:Kp b x w) (o:Obj):Kp b x (w.alloc o):=
 h.trans (Kp.of_below ((Below.refl _ _).alloc (Nat.le_refl _) _))
theorem St.other {w:World}{b:Nat}{txt r:List UInt8}{m e:Value}(h:St w b txt r m e){F:Nat}(hF:b≠F) (i:Nat) (v:Value):St (w.setCell ⟨F,i,none⟩ v) b txt r m e:=
 ⟨h.1,h.2.1,h.2.2.1,by rw[Below.heap_setCell _ _ _ _ hF];exact h.2.2.2⟩
theorem St.alloc {w:World}{b:Nat}{txt r:List UInt8}{m e:Value}(h:St w b txt r m e) (o:Obj):St (w.alloc o) b txt r m e:=h.kept ((Below.refl _ _).alloc (Nat.le_refl _) _)
theorem A0q {w w':World}{b F:Nat}{o:Obj}(h:w.heap[F]?=some o) (hk:Kp b w w') (hF:F≠b):w'.heap[F]?=some o:=by
 rw[hk.block F (Array.getElem?_eq_some_iff.1 h).1 hF];exact h
theorem A6t {w w':World}{F:Nat}{o:Obj}(h:w.heap[F]?=some o) (hk:Below w.heap.size w w'):w'.heap[F]?=some o:=by
 rw[hk.block F (Array.getElem?_eq_some_iff.1 h).1];exact h
theorem A0b {w:World}{g:Nat}{cs:Array Value}{t:TypeId}(h:w.heap[g]?=some (.cells cs t (0,0))) (i:Nat):w.frozen? ⟨g,i,none⟩=false:=by
 simp[World.frozen?,h]
theorem A0i (w:World) (o o':Obj):((w.alloc o).alloc o').heap[w.heap.size+1]?=some o':=by
 have:=heap_alloc_new (w.alloc o) o'
 rwa [show(w.alloc o).heap.size=w.heap.size+1 by simp] at this
theorem A0l (w:World) (o o':Obj):((w.alloc o).alloc o').heap[w.heap.size]?=some o:=by
 rw[Below.heap_alloc _ _ _ (by simp)];exact heap_alloc_new w o
theorem A8g {w:World}{g:Nat}{a0 a1 a2 a3 a4 a5:Value}{t:TypeId}(h:w.heap[g]?=some (.cells #[a0,a1,a2,a3,a4,a5] t (0,0))) :
  w.cell? ⟨g,0,none⟩=some a0∧w.cell? ⟨g,1,none⟩=some a1∧w.cell? ⟨g,2,none⟩=some a2∧w.cell? ⟨g,3,none⟩=some a3∧w.cell? ⟨g,4,none⟩=some a4∧w.cell? ⟨g,5,none⟩=some a5:=
 ⟨A0a h 0 _ rfl,A0a h 1 _ rfl,A0a h 2 _ rfl,A0a h 3 _ rfl,A0a h 4 _ rfl,A0a h 5 _ rfl⟩
theorem A2h {B b:Nat}{txt r:List UInt8}{m e:Value}{w:World}(h:St w b txt r m e) (hg:Gl B w) (hB:B≤b) (many:Bool) (ch:Nat) :
  Calls Tryz.prog 231 #[.pointer (some ⟨b,0,none⟩),.bool many,.int .i64 (ch:Int)] w (B9z b txt m e w (fun f v _=>v = .agg (A1g f).toArray) (A1s many ch r)):=by
 have cw:=h.lt
 go_enter Tryz.func231,Tryz.ntmps231
 go_wp2_with fail
 refine(A7f ((h.alloc _).alloc _)).mono ?_
 rintro en w1 ⟨bc,hx⟩
 have hF:w1.heap[w.heap.size+1]?=some (.cells #[.string ⟨#[]⟩,.int .i64 0,.int .i64 0,.string ⟨#[]⟩,.bool many,.int .i64 (ch:Int)] 40 (0,0)):=by
  exact A0q (A0i _ _ _) bc (by omega)
 have hR:w1.heap[w.heap.size]?=some (.cells #[.string ⟨#[]⟩,.int .i64 0,.int .i64 0,.string ⟨#[]⟩,.bool false,.int .i64 0] 40 (0,0)):=by
  exact A0q (A0l _ _ _) bc (by omega)
 have ac:Kp b w w1:=(((Kp.refl b w).alloc _).alloc _).trans bc
 have hg1:Gl B w1:=hg.kp hB cw ac
 have hg0:=hg
 clear bc hg
 cases hn:A3f r with
 | error E=>
  rw[hn] at hx
  match E,hx with
  | none,hx=>exact hx.elim
  | some (c,t),hx=>
   obtain⟨ht,rfl⟩:=hx
   have HX:Hid (A1s many ch r = .error (some (c,t))):=by show _=_;rw[A1s,hn];rfl
   clear hn
   go_wp2
   exact⟨rfl,A0f ac HX.out ht⟩
 | ok p=>
  obtain⟨ty,u1⟩:=p
  rw[hn] at hx
  obtain⟨hs1,_,rfl,rfl⟩:=hx
  have HX:Hid (A1s many ch r=R.thn (A3f u1) fun nm u=>R.thn (A1k 61 u) fun _ u=>R.thn (A4g A7d u) fun n u=>R.thn (A1k 59 u) fun _ u=>.ok (⟨nm,n,(A1t ty).1,(A1t ty).2,many,ch⟩,u)):=by
   show _=_;rw[A1s,hn];rfl
  clear hn
  go_wp2_with fail
  refine(B9q ty w1).mono ?_
  rintro en w2 ⟨rfl,hb2⟩
  have hs2:=hs1.kept hb2
  have hF2:=A6t hF hb2
  have bt:=A6t hR hb2
  obtain⟨c0,c1,c2,c3,c4,c5⟩:=A8g hF2
  have f2:=A0b hF2 2
  have f3:=A0b hF2 3
  have ah:=ac.trans (Kp.of_below (b:=b) hb2)
  clear hF hR ac hb2
  have bl:=heap_setCell_same _ _ 3 _ _ (.string (S (A1t ty).2)) (heap_setCell_same _ _ 2 _ _ (.int .i64 ((A1t ty).1:Int)) hF2)
  have bu:=((heap_setCell_other (w2.setCell ⟨w.heap.size+1,2,none⟩ (.int .i64 ((A1t ty).1:Int))) ⟨w.heap.size+1,3,none⟩ w.heap.size (.string (S (A1t ty).2)) (by simp)).trans (heap_setCell_other w2 ⟨w.heap.size+1,2,none⟩ w.heap.size (.int .i64 ((A1t ty).1:Int)) (by simp))).trans bt
  have hs3:=(hs2.other (F:=w.heap.size+1) (by omega) 2 (.int .i64 ((A1t ty).1:Int))).other (F:=w.heap.size+1) (by omega) 3 (.string (S (A1t ty).2))
  have hk3:=(ah.setNew (F:=w.heap.size+1) (by omega) 2 (.int .i64 ((A1t ty).1:Int))).setNew (F:=w.heap.size+1) (by omega) 3 (.string (S (A1t ty).2))
  clear ah hs2 hF2 bt
  go_wp2_with fail
  clear c0 c1 c2 c3 c4 c5 f2 f3
  generalize (w2.setCell ⟨w.heap.size+1,2,none⟩ (.int .i64 ((A1t ty).1:Int))).setCell ⟨w.heap.size+1,3,none⟩ (.string (S (A1t ty).2))=W3 at *
  refine(A7f hs3).mono ?_
  rintro en w4 ⟨hk4,hx⟩
  have aw:=A0q bl hk4 (by omega)
  have bv:=A0q bu hk4 (by omega)
  have ac:=hk3.trans hk4
  clear bl bu hs3 hk3 hk4
  cases hn:A3f u1 with
  | error E=>
   rw[hn] at hx
   match E,hx with
   | none,hx=>exact hx.elim
   | some (c,t),hx=>
    obtain⟨ht,rfl⟩:=hx
    have HY:Hid (A1s many ch r = .error (some (c,t))):=by show _=_;rw[HX.out,hn];rfl
    clear hn HX
    go_wp2
    exact⟨rfl,A0f ac HY.out ht⟩
  | ok p=>
   obtain⟨nm,u2⟩:=p
   rw[hn] at hx
   obtain⟨dh,_,rfl,rfl⟩:=hx
   have aj:Hid (A1s many ch r=R.thn (A1k 61 u2) fun _ u=>R.thn (A4g A7d u) fun n u=>R.thn (A1k 59 u) fun _ u=>.ok (⟨nm,n,(A1t ty).1,(A1t ty).2,many,ch⟩,u)):=by show _=_;rw[HX.out,hn];rfl
   clear hn HX
   obtain⟨c0,c1,c2,c3,c4,c5⟩:=A8g (a0:=.string ⟨#[]⟩) (a1:=.int .i64 0) (a2:=.int .i64 ((A1t ty).1:Int)) (a3:=.string (S (A1t ty).2)) (a4:=.bool many) (a5:=.int .i64 (ch:Int)) aw
   have f0:=A0b aw 0
   have bn:=heap_setCell_same _ _ 0 _ _ (.string (S nm)) aw
   have bw:=(heap_setCell_other w4 ⟨w.heap.size+1,0,none⟩ w.heap.size (.string (S nm)) (by simp)).trans bv
   have hs5:=dh.other (F:=w.heap.size+1) (by omega) 0 (.string (S nm))
   have df:=ac.setNew (F:=w.heap.size+1) (by omega) 0 (.string (S nm))
   clear ac dh aw bv
   go_wp2_with fail
   clear c0 c1 c2 c3 c4 c5 f0
   generalize w4.setCell ⟨w.heap.size+1,0,none⟩ (.string (S nm))=W5 at *
   refine(A3j hs5 61).mono ?_
   rintro en w6 ⟨bg,hx⟩
   have bp:=A0q bn bg (by omega)
   have cg:=A0q bw bg (by omega)
   have ac:=df.trans bg
   clear bn bw hs5 df bg
   cases hn:A1k 61 u2 with
   | error E=>
    rw[hn] at hx
    match E,hx with
    | none,hx=>exact hx.elim
    | some (c,t),hx=>
     obtain⟨ht,rfl⟩:=hx
     have HY:Hid (A1s many ch r = .error (some (c,t))):=by show _=_;rw[aj.out,hn];rfl
     clear hn aj
     go_wp2
     exact⟨rfl,A0f ac HY.out ht⟩
   | ok p=>
    obtain⟨_,u3⟩:=p
    rw[hn] at hx
    obtain⟨di,_,rfl,rfl⟩:=hx
    have ak:Hid (A1s many ch r=R.thn (A4g A7d u3) fun n u=>R.thn (A1k 59 u) fun _ u=>.ok (⟨nm,n,(A1t ty).1,(A1t ty).2,many,ch⟩,u)):=by show _=_;rw[aj.out,hn];rfl
    clear hn aj
    have dp:Gl B w6:=hg0.kp hB cw ac
    go_wp2_with fail
    refine(A4o di dp hB A7d (by decide)).mono ?_
    rintro en w7 ⟨bh,hx⟩
    have ba:=A0q bp bh (by omega)
    have cj:=A0q cg bh (by omega)
    replace ac:=ac.trans bh
    clear bp cg di bh
    cases hn:A4g A7d u3 with
    | error E=>
     rw[hn] at hx
     match E,hx with
     | none,hx=>exact hx.elim
     | some (c,t),hx=>
      obtain⟨ht,rfl⟩:=hx
      have HY:Hid (A1s many ch r = .error (some (c,t))):=by show _=_;rw[ak.out,hn];rfl
      clear hn ak
      go_wp2
      exact⟨rfl,A0f ac HY.out ht⟩
    | ok p=>
     obtain⟨n,u4⟩:=p
     rw[hn] at hx
     obtain⟨dl,_,rfl,rfl,dt⟩:=hx
     have au:Hid (A1s many ch r=R.thn (A1k 59 u4) fun _ u=>.ok (⟨nm,n,(A1t ty).1,(A1t ty).2,many,ch⟩,u)):=by show _=_;rw[ak.out,hn];rfl
     clear hn ak
     obtain⟨c0,c1,c2,c3,c4,c5⟩:=A8g (a0:=.string (S nm)) (a1:=.int .i64 0) (a2:=.int .i64 ((A1t ty).1:Int)) (a3:=.string (S (A1t ty).2)) (a4:=.bool many) (a5:=.int .i64 (ch:Int)) ba
     have f1:=A0b ba 1
     have bq:=heap_setCell_same _ _ 1 _ _ (.int .i64 (n:Int)) ba
     have cu:=(heap_setCell_other w7 ⟨w.heap.size+1,1,none⟩ w.heap.size (.int .i64 (n:Int)) (by simp)).trans cj
     have dm:=dl.other (F:=w.heap.size+1) (by omega) 1 (.int .i64 (n:Int))
     have dg:=ac.setNew (F:=w.heap.size+1) (by omega) 1 (.int .i64 (n:Int))
     clear ac dl ba cj
     go_wp2_with fail
     clear c0 c1 c2 c3 c4 c5 f1
     generalize w7.setCell ⟨w.heap.size+1,1,none⟩ (.int .i64 (n:Int))=W8 at *
     refine(A3j dm 59).mono ?_
     rintro en w9 ⟨bk,hx⟩
     have br:=A0q bq bk (by omega)
     have ag:=A0q cu bk (by omega)
     have ac:=dg.trans bk
     clear bq cu dm dg bk
     cases hn:A1k 59 u4 with
     | error E=>
      rw[hn] at hx
      match E,hx with
      | none,hx=>exact hx.elim
      | some (c,t),hx=>
       obtain⟨ht,rfl⟩:=hx
       have HY:Hid (A1s many ch r = .error (some (c,t))):=by show _=_;rw[au.out,hn];rfl
       clear hn au
       go_wp2
       exact⟨rfl,A0f ac HY.out ht⟩
     | ok p=>
      obtain⟨_,u5⟩:=p
      rw[hn] at hx
      obtain⟨dr,_,rfl,rfl⟩:=hx
      have dn:Hid (A1s many ch r = .ok (⟨nm,n,(A1t ty).1,(A1t ty).2,many,ch⟩,u5)):=by show _=_;rw[au.out,hn];rfl
      clear hn au
      obtain⟨c0,c1,c2,c3,c4,c5⟩:=A8g (a0:=.string (S nm)) (a1:=.int .i64 (n:Int)) (a2:=.int .i64 ((A1t ty).1:Int)) (a3:=.string (S (A1t ty).2)) (a4:=.bool many) (a5:=.int .i64 (ch:Int)) br
      obtain⟨d0,d1,d2,d3,d4,d5⟩:=A8g ag
      have g0:=A0b ag 0
      have g1:=A0b ag 1
      have g2:=A0b ag 2
      have g3:=A0b ag 3
      have g4:=A0b ag 4
      have g5:=A0b ag 5
      clear br ag
      go_wp2
      refine bodyPost_ret (v:=.agg (A1g ⟨nm,n,(A1t ty).1,(A1t ty).2,many,ch⟩).toArray) (by simp[results,Tryz.results231,go_sem,A1g, *]) rfl ?_
      refine A3u ?_ dn.out ?_ rfl
      ·exact(((((ac.setNew (by omega) _ _).setNew (by omega) _ _).setNew (by omega) _ _).setNew (by omega) _ _).setNew (by omega) _ _).setNew (by omega) _ _
      ·exact(((((dr.other (by omega) _ _).other (by omega) _ _).other (by omega) _ _).other (by omega) _ _).other (by omega) _ _).other (by omega) _ _
end Go.Proofs.YtgaoojpakjjdnaaGreatDoor
namespace Go.Proofs.YtgaoojpakjjdnaaGreatDoor
open Go.RowKit
theorem A0s {w:World}{g:Nat}{a0 a1:Value}{t:TypeId}(h:w.heap[g]?=some (.cells #[a0,a1] t (0,0))) :
  w.cell? ⟨g,0,none⟩=some a0∧w.cell? ⟨g,1,none⟩=some a1:=⟨A0a h 0 _ rfl,A0a h 1 _ rfl⟩
theorem B6j {B b:Nat}{txt r:List UInt8}{m e:Value}{w:World}(h:St w b txt r m e) (hg:Gl B w) (hB:B≤b) :
  Calls Tryz.prog 232 #[.pointer (some ⟨b,0,none⟩)] w (B9z b txt m e w (fun f v _=>v = .agg (A1p f).toArray) (A3r r)):=by
 have di:=h.lt
 have hg0:=hg
 clear hg
 have HX:Hid (A3r r=R.thn (A3f r) fun nm u=>R.thn (A1k 61 u) fun _ u=>match A2z 45 u with
  | (true,t)=>R.thn (A4g 2147483648 t) fun n u=>R.thn (A1k 59 u) fun _ u=>.ok (⟨nm,-(n:Int)⟩,u)
  | (false,t)=>R.thn (A4g 2147483647 t) fun n u=>R.thn (A1k 59 u) fun _ u=>.ok (⟨nm,(n:Int)⟩,u)):=rfl
 go_enter Tryz.func232,Tryz.ntmps232
 go_wp2_with fail
 refine(A7f (h.alloc _)).mono ?_
 rintro en w1 ⟨bv,hx⟩
 have hR:w1.heap[w.heap.size]?=some (.cells #[.string ⟨#[]⟩,.int .i64 0] 162 (0,0)):=A0q (heap_alloc_new w _) bv (by omega)
 have hz1:w.heap.size+1≤w1.heap.size:=by have:=bv.size;simpa using this
 have ac:Kp b w w1:=((Kp.refl b w).alloc _).trans bv
 clear bv
 cases hn:A3f r with
 | error E=>
  rw[hn] at hx
  match E,hx with
  | none,hx=>exact hx.elim
  | some (c,t),hx=>
   obtain⟨ht,rfl⟩:=hx
   have HY:Hid (A3r r = .error (some (c,t))):=by show _=_;rw[HX.out,hn];rfl
   clear hn HX
   go_wp2
   exact⟨rfl,A0f ac HY.out ht⟩
 | ok p=>
  obtain⟨nm,u1⟩:=p
  rw[hn] at hx
  obtain⟨hs1,_,rfl,rfl⟩:=hx
  have br:Hid (A3r r=R.thn (A1k 61 u1) fun _ u=>match A2z 45 u with
   | (true,t)=>R.thn (A4g 2147483648 t) fun n u=>R.thn (A1k 59 u) fun _ u=>.ok (⟨nm,-(n:Int)⟩,u)
   | (false,t)=>R.thn (A4g 2147483647 t) fun n u=>R.thn (A1k 59 u) fun _ u=>.ok (⟨nm,(n:Int)⟩,u)):=by show _=_;rw[HX.out,hn];rfl
  clear hn HX
  have hF2:=heap_alloc_new w1 (.cells #[.string (S nm),.int .i64 0] 162)
  have dg:=(Below.heap_alloc w1 (.cells #[.string (S nm),.int .i64 0] 162) w.heap.size (by omega)).trans hR
  have hs2:=hs1.alloc (.cells #[.string (S nm),.int .i64 0] 162)
  have hk2:=ac.alloc (.cells #[.string (S nm),.int .i64 0] 162)
  clear ac hR hs1
  go_wp2_with fail
  generalize w1.alloc (.cells #[.string (S nm),.int .i64 0] 162)=W2 at *
  obtain⟨F,cw⟩:∃ F,Hid (F=w1.heap.size):=⟨_,rfl⟩
  have dm:w.heap.size+1≤F:=by rw[cw.out];exact hz1
  rw[←cw.out] at hF2 ⊢
  refine(A3j hs2 61).mono ?_
  rintro en w3 ⟨hk3,hx⟩
  have df:=A0q hF2 hk3 (by omega)
  have dh:=A0q dg hk3 (by omega)
  have ac:=hk2.trans hk3
  clear hF2 dg hs2 hk2 hk3
  cases hn:A1k 61 u1 with
  | error E=>
   rw[hn] at hx
   match E,hx with
   | none,hx=>exact hx.elim
   | some (c,t),hx=>
    obtain⟨ht,rfl⟩:=hx
    have HY:Hid (A3r r = .error (some (c,t))):=by show _=_;rw[br.out,hn];rfl
    clear hn br
    go_wp2
    exact⟨rfl,A0f ac HY.out ht⟩
  | ok p=>
   obtain⟨_,u2⟩:=p
   rw[hn] at hx
   obtain⟨hs3,_,rfl,rfl⟩:=hx
   have ag:Hid (A3r r=match A2z 45 u2 with
    | (true,t)=>R.thn (A4g 2147483648 t) fun n u=>R.thn (A1k 59 u) fun _ u=>.ok (⟨nm,-(n:Int)⟩,u)
    | (false,t)=>R.thn (A4g 2147483647 t) fun n u=>R.thn (A1k 59 u) fun _ u=>.ok (⟨nm,(n:Int)⟩,u)):=by show _=_;rw[br.out,hn];rfl
   clear hn br
   go_wp2_with fail
   refine(A5u hs3 45).mono ?_
   rintro en w6 ⟨rfl,bn,bw⟩
   have bt:=A0q df bw (by omega)
   have bu:=A0q dh bw (by omega)
   replace ac:=ac.trans bw
   clear df dh hs3 bw
   generalize hq:A2z 45 u2=q at bn ⊢
   obtain⟨ok,u3⟩:=q
   cases ok with
   | true=>
    have ah:Hid (A3r r=R.thn (A4g 2147483648 u3) fun n u=>R.thn (A1k 59 u) fun _ u=>.ok (⟨nm,-(n:Int)⟩,u)):=by show _=_;rw[ag.out,hq]
    clear hq ag
    have cj:Gl B w6:=hg0.kp hB di ac
    go_wp2_with fail
    refine(A4o bn cj hB 2147483648 (by decide)).mono ?_
    rintro en w7 ⟨aw,hx⟩
    have ak:=A0q bt aw (by omega)
    have bh:=A0q bu aw (by omega)
    replace ac:=ac.trans aw
    clear bt bu bn aw
    cases hn:A4g 2147483648 u3 with
    | error E=>
     rw[hn] at hx
     match E,hx with
     | none,hx=>exact hx.elim
     | some (c,t),hx=>
      obtain⟨ht,rfl⟩:=hx
      have HY:Hid (A3r r = .error (some (c,t))):=by show _=_;rw[ah.out,hn];rfl
      clear hn ah
      go_wp2
      exact⟨rfl,A0f ac HY.out ht⟩
    | ok p=>
     obtain⟨n,u4⟩:=p
     rw[hn] at hx
     obtain⟨bp,_,rfl,rfl,dl⟩:=hx
     have aj:Hid (A3r r=R.thn (A1k 59 u4) fun _ u=>.ok (⟨nm,(-(n:Int))⟩,u)):=by show _=_;rw[ah.out,hn];rfl
     clear hn ah
     obtain⟨c0,c1⟩:=A0s (a0:=.string (S nm)) (a1:=.int .i64 0) ak
     have f1:=A0b ak 1
     have bc:=heap_setCell_same _ _ 1 _ _ (.int .i64 (-(n:Int))) ak
     have bk:=(heap_setCell_other w7 ⟨F,1,none⟩ w.heap.size (.int .i64 (-(n:Int))) (by simp;omega)).trans bh
     have bq:=bp.other (F:=F) (by omega) 1 (.int .i64 (-(n:Int)))
     have bl:=ac.setNew (F:=F) (by omega) 1 (.int .i64 (-(n:Int)))
     clear ac bp ak bh
     go_wp2_with fail
     clear c0 c1 f1
     generalize w7.setCell ⟨F,1,none⟩ (.int .i64 (-(n:Int)))=W8 at *
     refine(A3j bq 59).mono ?_
     rintro en w9 ⟨ba,hx⟩
     have bg:=A0q bc ba (by omega)
     have au:=A0q bk ba (by omega)
     have ac:=bl.trans ba
     clear bc bk bq bl ba
     cases hn:A1k 59 u4 with
     | error E=>
      rw[hn] at hx
      match E,hx with
      | none,hx=>exact hx.elim
      | some (c,t),hx=>
       obtain⟨ht,rfl⟩:=hx
       have HY:Hid (A3r r = .error (some (c,t))):=by show _=_;rw[aj.out,hn];rfl
       clear hn aj
       go_wp2
       exact⟨rfl,A0f ac HY.out ht⟩
     | ok p=>
      obtain⟨_,u5⟩:=p
      rw[hn] at hx
      obtain⟨cu,_,rfl,rfl⟩:=hx
      have cg:Hid (A3r r = .ok (⟨nm,(-(n:Int))⟩,u5)):=by show _=_;rw[aj.out,hn];rfl
      clear hn aj
      obtain⟨c0,c1⟩:=A0s (a0:=.string (S nm)) (a1:=.int .i64 (-(n:Int))) bg
      obtain⟨d0,d1⟩:=A0s au
      have g0:=A0b au 0
      have g1:=A0b au 1
      clear bg au
      go_wp2
      refine bodyPost_ret (v:=.agg (A1p ⟨nm,(-(n:Int))⟩).toArray) (by simp[results,Tryz.results232,go_sem,A1p, *]) rfl ?_
      refine A3u ?_ cg.out ?_ rfl
      ·exact(ac.setNew (by omega) _ _).setNew (by omega) _ _
      ·exact(cu.other (by omega) _ _).other (by omega) _ _
   | false=>
    have ah:Hid (A3r r=R.thn (A4g 2147483647 u3) fun n u=>R.thn (A1k 59 u) fun _ u=>.ok (⟨nm,(n:Int)⟩,u)):=by show _=_;rw[ag.out,hq]
    clear hq ag
    have cj:Gl B w6:=hg0.kp hB di ac
    go_wp2_with fail
    refine(A4o bn cj hB 2147483647 (by decide)).mono ?_
    rintro en w7 ⟨aw,hx⟩
    have ak:=A0q bt aw (by omega)
    have bh:=A0q bu aw (by omega)
    replace ac:=ac.trans aw
    clear bt bu bn aw
    cases hn:A4g 2147483647 u3 with
    | error E=>
     rw[hn] at hx
     match E,hx with
     | none,hx=>exact hx.elim
     | some (c,t),hx=>
      obtain⟨ht,rfl⟩:=hx
      have HY:Hid (A3r r = .error (some (c,t))):=by show _=_;rw[ah.out,hn];rfl
      clear hn ah
      go_wp2
      exact⟨rfl,A0f ac HY.out ht⟩
    | ok p=>
     obtain⟨n,u4⟩:=p
     rw[hn] at hx
     obtain⟨bp,_,rfl,rfl,dl⟩:=hx
     have aj:Hid (A3r r=R.thn (A1k 59 u4) fun _ u=>.ok (⟨nm,(n:Int)⟩,u)):=by show _=_;rw[ah.out,hn];rfl
     clear hn ah
     obtain⟨c0,c1⟩:=A0s (a0:=.string (S nm)) (a1:=.int .i64 0) ak
     have f1:=A0b ak 1
     have bc:=heap_setCell_same _ _ 1 _ _ (.int .i64 (n:Int)) ak
     have bk:=(heap_setCell_other w7 ⟨F,1,none⟩ w.heap.size (.int .i64 (n:Int)) (by simp;omega)).trans bh
     have bq:=bp.other (F:=F) (by omega) 1 (.int .i64 (n:Int))
     have bl:=ac.setNew (F:=F) (by omega) 1 (.int .i64 (n:Int))
     clear ac bp ak bh
     go_wp2_with fail
     clear c0 c1 f1
     generalize w7.setCell ⟨F,1,none⟩ (.int .i64 (n:Int))=W8 at *
     refine(A3j bq 59).mono ?_
     rintro en w9 ⟨ba,hx⟩
     have bg:=A0q bc ba (by omega)
     have au:=A0q bk ba (by omega)
     have ac:=bl.trans ba
     clear bc bk bq bl ba
     cases hn:A1k 59 u4 with
     | error E=>
      rw[hn] at hx
      match E,hx with
      | none,hx=>exact hx.elim
      | some (c,t),hx=>
       obtain⟨ht,rfl⟩:=hx
       have HY:Hid (A3r r = .error (some (c,t))):=by show _=_;rw[aj.out,hn];rfl
       clear hn aj
       go_wp2
       exact⟨rfl,A0f ac HY.out ht⟩
     | ok p=>
      obtain⟨_,u5⟩:=p
      rw[hn] at hx
      obtain⟨cu,_,rfl,rfl⟩:=hx
      have cg:Hid (A3r r = .ok (⟨nm,(n:Int)⟩,u5)):=by show _=_;rw[aj.out,hn];rfl
      clear hn aj
      obtain⟨c0,c1⟩:=A0s (a0:=.string (S nm)) (a1:=.int .i64 (n:Int)) bg
      obtain⟨d0,d1⟩:=A0s au
      have g0:=A0b au 0
      have g1:=A0b au 1
      clear bg au
      go_wp2
      refine bodyPost_ret (v:=.agg (A1p ⟨nm,(n:Int)⟩).toArray) (by simp[results,Tryz.results232,go_sem,A1p, *]) rfl ?_
      refine A3u ?_ cg.out ?_ rfl
      ·exact(ac.setNew (by omega) _ _).setNew (by omega) _ _
      ·exact(cu.other (by omega) _ _).other (by omega) _ _
end Go.Proofs.YtgaoojpakjjdnaaGreatDoor
namespace Go.Proofs.YtgaoojpakjjdnaaGreatDoor
theorem A7c (c:UInt8) (r:List UInt8):(A2z c r).2.length≤r.length∧((A2z c r).1=true→(A2z c r).2.length < r.length):=by
 have h:=B0a r
 unfold A2z
 split
 ·exact⟨by simp,by simp⟩
 ·rename_i x t heq
  rw[heq] at h
  simp at h
  split
  ·exact⟨by simp;omega,fun _=>by simp;omega⟩
  ·exact⟨by simp;omega,fun hh=>by simp at hh⟩
theorem A7e {c:UInt8}{r u:List UInt8}{x:Unit}(h:A1k c r = .ok (x,u)):u.length < r.length:=by
 have hm:=A7c c r
 unfold A1k at h
 split at h
 ·rename_i t heq
  rw[heq] at hm
  cases h
  exact hm.2 rfl
 ·cases h
theorem B6p {r l u:List UInt8}(h:A3f r = .ok (l,u)):u.length < r.length∧l.length≤16∧0 < l.length:=by
 have h1:=B0a r
 unfold A3f at h
 split at h
 ·cases h
 ·split at h
  ·cases h
  ·rename_i h0 h16
   cases h
   have:A0t (A1a r)≤(A1a r).length:=by
    cases A1a r with
    | nil=>exact Nat.le_refl _
    | cons c t=>
     simp only[A0t]
     split
     ·have:=(List.takeWhile_sublist A5f (l:=t)).length_le;simp;omega
     ·exact Nat.zero_le _
   simp
   omega
theorem A9q {most n:Nat}{r u:List UInt8}(h:A4g most r = .ok (n,u)):u.length < r.length∧n≤most:=by
 have h1:=B0a r
 unfold A4g at h
 split at h
 ·cases h
 ·split at h
  ·cases h
  ·rename_i h0 h2
   cases h
   have:A3n (A1a r)≤(A1a r).length:=(List.takeWhile_sublist _).length_le
   simp
   omega
theorem A6d {α β:Type}{x:R α}{f : α→List UInt8→R β}{y : β×List UInt8}(h:R.thn x f = .ok y):∃ a u,x = .ok (a,u)∧f a u = .ok y:=by
 cases x with
 | error E=>cases h
 | ok p=>exact⟨p.1,p.2,rfl,h⟩
theorem B3d {many:Bool}{ch:Nat}{r u:List UInt8}{f:Fld}(h:A1s many ch r = .ok (f,u)):u.length < r.length:=by
 unfold A1s at h
 obtain⟨_,u1,h1,h⟩:=A6d h
 obtain⟨_,u2,h2,h⟩:=A6d h
 obtain⟨_,u3,h3,h⟩:=A6d h
 obtain⟨_,u4,h4,h⟩:=A6d h
 obtain⟨_,u5,h5,h⟩:=A6d h
 cases h
 have:=(B6p h1).1;have:=(B6p h2).1;have:=A7e h3;have:=(A9q h4).1;have:=A7e h5
 omega
theorem C2p:∀ (k:Nat) (acc:List Nat) (r:List UInt8) (l:List Nat) (u:List UInt8),C2o k acc r = .ok (l,u)→l.length+u.length≤acc.length+r.length
 | 0,_,_,_,_,h=>by cases h
 | k+1,acc,r,l,u,h=>by
  have hm:=A7c 44 r
  rw[C2o] at h
  split at h
  ·rename_i t heq
   rw[heq] at hm
   obtain⟨n,u1,h1,h⟩:=A6d h
   have:=(A9q h1).1
   have:=C2p k _ _ _ _ h
   have:=hm.1
   simp at *
   omega
  ·rename_i t heq
   rw[heq] at hm
   obtain⟨_,u1,h1,h⟩:=A6d h
   have:=A7e h1
   cases h
   have:=hm.1
   simp at *
   omega
theorem A8k {K:Nat}{r u:List UInt8}{l:List Nat}(h:A0x K r = .ok (l,u)):l.length+u.length≤r.length:=by
 obtain⟨n,u1,h1,h⟩:=A6d h
 have:=(A9q h1).1
 have:=C2p _ _ _ _ _ h
 simp at this
 omega
theorem A8h (ch:Nat):∀ (k:Nat) (acc:List Fld) (r:List UInt8) (l:List Fld) (u:List UInt8),A2r ch k acc r = .ok (l,u)→l.length+u.length≤acc.length+r.length
 | 0,_,_,_,_,h=>by cases h
 | k+1,acc,r,l,u,h=>by
  have hm:=A7c 125 r
  rw[A2r] at h
  split at h
  ·rename_i t heq
   rw[heq] at hm
   cases h
   have:=hm.1
   simp at *
   omega
  ·rename_i t heq
   rw[heq] at hm
   obtain⟨f,u1,h1,h⟩:=A6d h
   have:=B3d h1
   have:=A8h ch k _ _ _ _ h
   have:=hm.1
   simp at *
   omega
theorem B1b {K ch:Nat}{r u:List UInt8}{l:List Fld}(h:A1r K ch r = .ok (l,u)):l.length+u.length≤r.length:=by
 obtain⟨_,u1,h1,h⟩:=A6d h
 have:=A7e h1
 have:=A8h _ _ _ _ _ _ h
 simp at this
 omega
end Go.Proofs.YtgaoojpakjjdnaaGreatDoor
namespace Go.Proofs.YtgaoojpakjjdnaaGreatDoor
open Go.RowKit
theorem A8j {B b:Nat}{txt r:List UInt8}{m e:Value}{w:World}(h:St w b txt r m e) (hg:Gl B w) (hB:B≤b) (K:Nat) (hN:A0x K r≠.error none) :
  Calls Tryz.prog 229 #[.pointer (some ⟨b,0,none⟩)] w (B9z b txt m e w (fun l v w'=>Row A5c w' w.heap.size v l) (A0x K r)):=by
 have ah:=h.lt
 have hl0:r.length≤3000:=by have:=h.1;have:=h.2.1;omega
 have HN:Hid (A0x K r≠.error none):=hN
 have HX:Hid (A0x K r=R.thn (A4g A7d r) fun n u=>C2o K [n] u):=rfl
 clear hN
 go_enter Tryz.func229,Tryz.ntmps229
 go_wp2_with fail
 refine(A4o h hg hB A7d (by decide)).mono ?_
 rintro en w1 ⟨ac,hx⟩
 cases hn:A4g A7d r with
 | error E=>
  rw[hn] at hx
  match E,hx with
  | none,hx=>exact hx.elim
  | some (c,t),hx=>
   obtain⟨ht,rfl⟩:=hx
   have HY:Hid (A0x K r = .error (some (c,t))):=by show _=_;rw[HX.out,hn];rfl
   clear hn HX
   go_wp2
   exact⟨rfl,A0f ac HY.out ht⟩
 | ok p=>
  obtain⟨n,u1⟩:=p
  rw[hn] at hx
  obtain⟨hs1,_,rfl,rfl,bk⟩:=hx
  have bc:Hid (A0x K r=C2o K [n] u1):=by show _=_;rw[HX.out,hn];rfl
  have bl:=(A9q hn).1
  clear hn HX
  have hz:w.heap.size≤w1.heap.size:=ac.size
  have hrow:Row A5c (w1.alloc (.cells #[.int .i64 (n:Int)] 3)) w.heap.size (.slice (some ⟨w1.heap.size,0,none⟩) 1 1) [n]:=Row.one A5c w1 n hz
  have hs2:=hs1.alloc (.cells #[.int .i64 (n:Int)] 3)
  have hk2:=ac.alloc (.cells #[.int .i64 (n:Int)] 3)
  clear hs1 ac
  go_wp2_with fail
  go_loopg [3] K (fun k v wr=>∃ acc q,Row A5c wr w.heap.size v acc∧St wr b txt q m e∧Kp b w wr∧acc.length+q.length≤3001∧Hid (A0x K r=C2o k acc q))
  case atStart=>exact⟨[n],u1,hrow,hs2,hk2,by simp;omega,bc⟩
  case round=>
   clear hrow hs2 hk2 bc
   obtain⟨acc,q,hrow,hs,hk,hlen,HR⟩:=hrel
   cases gk with
   | zero=>exact absurd HR.out HN.out
   | succ k=>
    have hgr:Gl B wr:=hg.kp hB ah hk
    go_wp2_with fail
    refine(A5u hs 44).mono ?_
    rintro en w2 ⟨rfl,hs2,hk2⟩
    have hrow2:=hrow.kp hk2 ah
    have ac:=hk.trans hk2
    have au:=A7c 44 q
    clear hrow hs hk hgr
    generalize hq:A2z 44 q=mq at hs2 au ⊢
    obtain⟨ok,t2⟩:=mq
    cases ok with
    | true=>
     have ag:Hid (A0x K r=R.thn (A4g A7d t2) fun n u=>C2o k (acc++[n]) u):=by show _=_;rw[HR.out,C2o,hq]
     have hlt:t2.length < q.length:=au.2 rfl
     clear hq HR au
     have hg2:Gl B w2:=hg.kp hB ah ac
     go_wp2_with fail
     refine(A4o hs2 hg2 hB A7d (by decide)).mono ?_
     rintro en w3 ⟨hk3,hx⟩
     have hrow3:=hrow2.kp hk3 ah
     replace ac:=ac.trans hk3
     clear hs2 hk3 hk2 hrow2 hg2
     cases hn:A4g A7d t2 with
     | error E=>
      rw[hn] at hx
      match E,hx with
      | none,hx=>exact hx.elim
      | some (c,t),hx=>
       obtain⟨ht,rfl⟩:=hx
       have HY:Hid (A0x K r = .error (some (c,t))):=by show _=_;rw[ag.out,hn];rfl
       clear hn ag
       go_wp2
       exact⟨rfl,A0f ac HY.out ht⟩
     | ok p=>
      obtain⟨n2,t3⟩:=p
      rw[hn] at hx
      obtain⟨hs3,_,rfl,rfl,_⟩:=hx
      have aw:Hid (A0x K r=C2o k (acc++[n2]) t3):=by show _=_;rw[ag.out,hn];rfl
      have bn:=(A9q hn).1
      clear hn ag
      have hz3:w.heap.size≤w3.heap.size:=ac.size
      have ba:Row A5c (w3.alloc (.cells #[.int .i64 (n2:Int)] 3)) w.heap.size (.slice (some ⟨w3.heap.size,0,none⟩) 1 1) [n2]:=Row.one A5c w3 n2 hz3
      have hrow4:Row A5c (w3.alloc (.cells #[.int .i64 (n2:Int)] 3)) w.heap.size u3 acc:=hrow3.below ((Below.refl _ _).alloc (Nat.le_refl _) _)
      have bh:=hs3.alloc (.cells #[.int .i64 (n2:Int)] 3)
      have hk4:=ac.alloc (.cells #[.int .i64 (n2:Int)] 3)
      clear hs3 ac hrow3
      go_wp2_with (at_builtin;refine A2q rfl A5c _ _ rfl w.heap.size _ acc [n2] rfl hrow4 w.heap.size _ rfl ba ?e1 ?e2 ?_)
      case e1=>simp;omega
      case e2=>simp;omega
      intro v5 w5 ak aj
      have hown:=hrow4.own
      have hs5:=bh.grown aj (fun k hk=>by have:=(hown k hk).1;omega)
      have bg:=hk4.grown aj (fun k hk=>(hown k hk).1)
      go_wp2_with fail
      go_roundg k
      case measure=>omega
      case rel=>exact⟨acc++[n2],t3,ak,hs5,bg,by simp;omega,aw⟩
    | false=>
     have ag:Hid (A0x K r=R.thn (A1k 59 t2) fun _ u=>.ok (acc,u)):=by show _=_;rw[HR.out,C2o,hq]
     clear hq HR au
     go_wp2_with fail
     refine(A3j hs2 59).mono ?_
     rintro en w3 ⟨hk3,hx⟩
     have hrow3:=hrow2.kp hk3 ah
     replace ac:=ac.trans hk3
     clear hs2 hk3 hk2 hrow2
     cases hn:A1k 59 t2 with
     | error E=>
      rw[hn] at hx
      match E,hx with
      | none,hx=>exact hx.elim
      | some (c,t),hx=>
       obtain⟨ht,rfl⟩:=hx
       have HY:Hid (A0x K r = .error (some (c,t))):=by show _=_;rw[ag.out,hn];rfl
       clear hn ag
       go_wp2
       exact⟨rfl,A0f ac HY.out ht⟩
     | ok p=>
      obtain⟨_,t3⟩:=p
      rw[hn] at hx
      obtain⟨hs3,_,rfl,rfl⟩:=hx
      have aw:Hid (A0x K r = .ok (acc,t3)):=by show _=_;rw[ag.out,hn];rfl
      clear hn ag
      go_wp2
      go_ret
      exact A3u ac aw.out hs3 hrow3
end Go.Proofs.YtgaoojpakjjdnaaGreatDoor
