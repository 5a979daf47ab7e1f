import Derived.Test.YtelmjekjohbmjaaGreatDoorY27
namespace Go.Proofs.YtelmjekjohbmjaaGreatDoor
namespace L
open Go.RowKit
set_option linter.unusedVariables false
theorem A2w {w:World}{g:Nat}{a0 a1 a2 a3:Value}{t:TypeId}(h:w.heap[g]?=some (.cells #[a0,a1,a2,a3] t (0,0))) :
  w.cell? ⟨g,0,none⟩=some a0∧w.cell? ⟨g,1,none⟩=some a1∧w.cell? ⟨g,2,none⟩=some a2∧w.cell? ⟨g,3,none⟩=some a3:=⟨A0a h 0 _ rfl,A0a h 1 _ rfl,A0a h 2 _ rfl,A0a h 3 _ rfl⟩
theorem B3q {β:Type}{x:List (VI β)}{n:Int}{k:Nat}{v:VI β}(h:x[k]?=some v):(x.drop k).find? (fun v=>decide (v.number=n))=if v.number=n then some v else(x.drop (k+1)).find? fun v=>decide (v.number=n):=by
 obtain⟨hk,rfl⟩:=List.getElem?_eq_some_iff.1 h
 rw[List.drop_eq_getElem_cons hk,List.find?_cons]
 by_cases e:(x[k]).number=n <;> simp[e]
def C0e (d:Nat) (w:World) (r:Option (VI (BI d))) (e:Ending):Prop:=
 match r with
 | none=>∃ v,e = .returned (.tuple #[v,.bool false])∧v = .agg #[.int .i64 0,.slice none 0 0,.slice none 0 0,.slice none 0 0]
 | some v=>∃ a1 n1 c1 a2 n2 c2 a3 n3 c3,e = .returned (.tuple #[.agg #[.int .i64 v.number,.slice a1 n1 c1,.slice a2 n2 c2,.slice a3 n3 c3],.bool true])∧RdL 1 UAt w (.slice a1 n1 c1) v.bits∧RdL 1 ZAt w (.slice a2 n2 c2) v.bytes∧RdL 2 (BAt d) w (.slice a3 n3 c3) v.subs
set_option maxHeartbeats 2000000 in
set_option maxRecDepth 100000 in
theorem B0h {d:Nat}{u w:World}{v0 v1:Value}{x:List (VI (BI d))}(h:RdL 4 (VAt (BAt d)) u v0 x) (hu:Sub u w) (hv1:∃ ao n cap,v1 = .slice ao n cap) (num:Int) :
  Calls Tryz.prog 15 #[.agg #[v0,v1],.int .i64 num] w fun e w'=>C0e d u (x.find? fun v=>decide (v.number=num)) e∧Below w.heap.size w w':=by
 obtain⟨ao,n,cap,rfl,Hn,hcap⟩:=h.shape
 obtain⟨ae,ne,ce,rfl⟩:=hv1
 obtain⟨R,HR⟩:∃ R,Hid (x.find? (fun v=>decide (v.number=num))=R):=⟨_,rfl⟩
 rw[HR.out]
 obtain⟨W0,HW0⟩:∃ W0,Hid (W0=(w.alloc (.cells #[.slice ao n cap,.slice ae ne ce] 29)).alloc (.cells #[.int .i64 0,.slice none 0 0,.slice none 0 0,.slice none 0 0] 34)):=⟨_,rfl⟩
 have hb0:Below w.heap.size w W0:=by rw[HW0.out];exact((Below.refl _ _).alloc (Nat.le_refl _) _).alloc (by simp) _
 have hz0:w.heap.size+2≤W0.heap.size:=by rw[HW0.out];simp
 have x1:W0.heap[w.heap.size+1]?=some (.cells #[.int .i64 0,.slice none 0 0,.slice none 0 0,.slice none 0 0] 34 (0,0)):=by rw[HW0.out];exact A0o _ _ _
 go_enter Tryz.func15,Tryz.ntmps15
 go_wp2_with fail
 rw[←HW0.out]
 go_loopg [11] n (fun m i wr=>∃ k:Nat,k+m=n∧i = .int .i64 k∧Hid ((x.drop k).find? (fun v=>decide (v.number=num))=R)∧Below W0.heap.size W0 wr)
 case atStart=>exact⟨0,by omega,rfl,HR,Below.refl _ _⟩
 case round=>
  obtain⟨k,hk,rfl,HK,hb⟩:=hrel
  have hbw:Below w.heap.size w wr:=BTr hb0 hb
  have hzr:=hb.size
  have x2:=(hb.block _ (by omega)).trans x1
  by_cases hlt:k < n
  ·obtain⟨v,Hv⟩:∃ v,Hid (x[k]?=some v):=⟨x[k]'(by rw[←Hn.out];exact hlt),List.getElem?_eq_getElem (by rw[←Hn.out];exact hlt)⟩
   obtain⟨b,off,rfl,hat⟩:=h.get VAt.plain Hv.out
   obtain⟨y1,y2,y3,z0,z1,z2,z3,r1,r2,r3⟩:=hat.at
   obtain⟨b1,m1,d1,rfl,_,_⟩:=r1.shape
   obtain⟨b2,m2,d2,rfl,_,_⟩:=r2.shape
   obtain⟨b3,m3,d3,rfl,_,_⟩:=r3.shape
   have z0:=A0c hbw (hu _ _ z0)
   have z1:=A0c hbw (hu _ _ z1)
   have z2:=A0c hbw (hu _ _ z2)
   have z3:=A0c hbw (hu _ _ z3)
   have hki:(k:Int) < (n:Int):=by omega
   have HS:=B3q (n:=num) Hv.out
   have hb1:Below wr.heap.size wr (wr.alloc (.cells #[.int .i64 v.number,.slice b1 m1 d1,.slice b2 m2 d2,.slice b3 m3 d3] 34)):=(Below.refl _ _).alloc (Nat.le_refl _) _
   clear hat
   by_cases hq:v.number=num
   ·have hqb:(v.number == num)=true:=by simpa using hq
    have HF:Hid (R=some v):=by show _=_;rw[←HK.out,HS,if_pos hq]
    have x3:=(hb1.block _ (by omega)).trans x2
    have f0:=A0b x3
    obtain⟨q0,q1,q2,q3⟩:=A2w x3
    clear hq HS
    go_wp2_with fail
    refine bodyPost_ret (v:=.tuple #[.agg #[.int .i64 v.number,.slice b1 m1 d1,.slice b2 m2 d2,.slice b3 m3 d3],.bool true]) (by simp[results,Tryz.results15,go_sem, *]) rfl ?_
    refine⟨?_,A0f (A0f (A0f (A0f (BTr hbw hb1) (Nat.le_succ _)) (Nat.le_succ _)) (Nat.le_succ _)) (Nat.le_succ _)⟩
    rw[HF.out]
    exact⟨_,_,_,_,_,_,_,_,_,rfl,r1,r2,r3⟩
   ·have hqb:(v.number == num)=false:=by simpa using hq
    have HK':Hid ((x.drop (k+1)).find? (fun v=>decide (v.number=num))=R):=by show _=_;rw[←HK.out,HS,if_neg hq]
    clear hq HS
    go_wp2_with fail
    go_roundg (n - (k+1))
    case measure=>omega
    case rel=>exact⟨k+1,by omega,by go_num,HK',BTr hb hb1⟩
  ·have HF:Hid (R=none):=by
    show _=_;rw[←HK.out,List.drop_of_length_le (by rw[←Hn.out];omega)];rfl
   have f0:=A0b x2
   obtain⟨q0,q1,q2,q3⟩:=A2w x2
   go_wp2_with fail
   refine bodyPost_ret (v:=.tuple #[.agg #[.int .i64 0,.slice none 0 0,.slice none 0 0,.slice none 0 0],.bool false]) (by simp[results,Tryz.results15,go_sem, *]) rfl ?_
   refine⟨?_,A0f (A0f (A0f (A0f hbw (Nat.le_succ _)) (Nat.le_succ _)) (Nat.le_succ _)) (Nat.le_succ _)⟩
   rw[HF.out]
   exact⟨_,rfl,rfl⟩
end L
end Go.Proofs.YtelmjekjohbmjaaGreatDoor
