import Derived.Test.YtgaoojpakjjdnaaGreatDoorX10
set_option maxHeartbeats 32000000
set_option maxRecDepth 100000
namespace Go.Proofs.YtgaoojpakjjdnaaGreatDoor
namespace L
open Go.RowKit
theorem E3b (B0:Nat):Ent (fun w (r:RI×PV)=>Row ekY w B0 r.2.v r.1.bytes) (fun _=>[]):=⟨fun _ _ _ _ h hf _=>h.frY hf,fun _ _ _ k hk=>by simp at hk⟩
theorem E3a (B0 d:Nat):Ent (OwnB B0 d) (LB.fp d):=⟨fun F w w' a=>OwnB.fr d F w w' a,fun _ _ h k hk=>(OwnB.inB d h k hk).2⟩
theorem E1f (B0 d:Nat):Ent (fun w (v:VL (LB d))=>OwnV (ekB d) (OwnB B0 d) w B0 v) (VL.fp (LB.fp d)):=⟨fun _ _ _ _ h hf hd=>h.fr (OwnB.fr d) hf hd,fun _ _ h k hk=>(h.inB (fun _ _ hs=>OwnB.inB d hs) k hk).2⟩
theorem D3j {w:World}{B0:Nat}(hB:B0≤w.heap.size){vl:Value}{l:List (RI)}(h:RdL 4 RAt w vl l)(hl:l.length*48≤reachBytes){fn:Nat}(bt:∀ (args:Array Value) (w:World),(callFunc fn args).run Tryz.prog w = .ok (.enter fn args) w)
  (aj:∀ W,Below w.heap.size w W→∀ a∈l,∀ (ay:Option Addr) (ny cy:Nat),RdL 1 YAt W (.slice ay ny cy) a.bytes→Calls Tryz.prog fn #[.agg #[.int .i64 a.number,.int .i64 a.how,.int .u64 (a.bits:Int),.slice ay ny cy]] W fun e W'=>∃ (a':RI×PV) (q0 q1 q2:Int) (ax:Option Addr) (nx cx:Nat),ekR.enc a' = [.int .i64 q0,.int .i64 q1,.int .u64 q2,.slice ax nx cx]∧e = .returned (.agg #[.int .i64 q0,.int .i64 q1,.int .u64 q2,.slice ax nx cx])∧Prod.fst a'=a∧(fun w (r:RI×PV)=>Row ekY w B0 r.2.v r.1.bytes) W' a'∧(∀ k∈(fun(_:RI×PV)=>([]:List Nat)) a',W.heap.size≤k)∧((fun(_:RI×PV)=>([]:List Nat)) a').Nodup∧Below W.heap.size W W') :
  Calls Tryz.prog 74 #[vl,.func (.func fn) #[] #[]] w fun e w'=>∃ (p:PV) (l':List (RI×PV)),e = .returned p.v∧Cop (ekR) (Prod.fst) ((fun w (r:RI×PV)=>Row ekY w B0 r.2.v r.1.bytes)) ((fun(_:RI×PV)=>([]:List Nat))) w B0 l w' p l':=by
 obtain⟨ao,n,cap,rfl,Hn,br⟩:=h.shape
 have hn:n*48≤reachBytes:=by rw[Hn.out];exact hl
 unfold reachBytes at hn
 go_enter Tryz.func74,Tryz.ntmps74
 go_wp2_with fail
 go_loopg [5,10] n (fun m s5 i wr=>∃ (k:Nat) (p:PV) (l':List (RI×PV)),k+m=n∧i = .int .i64 k∧s5=p.v∧Cop (ekR) (Prod.fst) ((fun w (r:RI×PV)=>Row ekY w B0 r.2.v r.1.bytes)) ((fun(_:RI×PV)=>([]:List Nat))) w B0 (l.take k) wr p l')
 case atStart=>exact⟨0,(none,0,0),[],by omega,rfl,rfl,Cop.nil w B0⟩
 case round=>
  obtain⟨k,p,l',hk,rfl,rfl,hc⟩:=hrel
  by_cases hlt:k<n
  ·obtain⟨z,Hz⟩:∃ z,Hid (l[k]?=some z):=⟨l[k]'(by rw[←Hn.out];exact hlt),List.getElem?_eq_getElem (by rw[←Hn.out];exact hlt)⟩
   obtain⟨b,off,rfl,hat⟩:=(h.below RAt.stays hc.below).get RAt.plain Hz.out
   obtain⟨vy,s0,s1,s2,s3,bp⟩:=hat.at
   obtain⟨ay,ny,cy,rfl,_,_⟩:=bp.shape
   have bw:(k:Int)<(n:Int):=by omega
   have HT:Hid (l.take (k+1)=l.take k++[z]):=by show _=_;rw[List.take_add_one,Hz.out];rfl
   have au:Hid (l'.length=k):=by show _=_;rw[←List.length_map (f:=Prod.fst),hc.map,List.length_take,←Hn.out];omega
   obtain⟨ap,np,cp⟩:=p
   obtain⟨W1,bh⟩:∃ W1,Hid (W1=wr.alloc (.cells #[.int .i64 z.number,.int .i64 z.how,.int .u64 (z.bits:Int),.slice ay ny cy] 106)):=⟨_,rfl⟩
   have hb1:Below wr.heap.size wr W1:=by rw[bh.out];exact(Below.refl _ _).alloc (Nat.le_refl _) _
   have ac:=aj W1 (BTr hc.below hb1) z (A3z Hz.out) ay ny cy (bp.below YAt.stays hb1)
   clear h aj
   unfold PV.v at *
   go_wp2_with fail
   rw[←bh.out]
   refine ac.mono ?_
   rintro e w2 ⟨a',q0,q1,q2,ax,nx,cx,aw,rfl,her,hO,bk,bu,hb2⟩
   obtain⟨W3,ak⟩:∃ W3,Hid (W3=w2.alloc (.cells #[.int .i64 q0,.int .i64 q1,.int .u64 q2,.slice ax nx cx] 106)):=⟨_,rfl⟩
   have hb3:Below w2.heap.size w2 W3:=by rw[ak.out];exact(Below.refl _ _).alloc (Nat.le_refl _) _
   have x3:W3.heap[w2.heap.size]?=some (.cells #[.int .i64 q0,.int .i64 q1,.int .u64 q2,.slice ax nx cx] 106 (0,0)):=by rw[ak.out];exact heap_alloc_new _ _
   have ag:Below wr.heap.size wr w2:=BTr hb1 hb2
   have ah:Below wr.heap.size wr W3:=BTr ag hb3
   have hrow3:Row (ekR) W3 B0 (.slice ap np cp) l':=hc.row.below ah
   have bg:∀ ad,(some ⟨w2.heap.size,0,none⟩:Option Addr)=some ad→∀ k y,[a'][k]?=some y→∀ j u,((ekR).enc y)[j]?=some u→W3.cell? (ad.add (k*(ekR).size+j))=some u:=A8z x3 (by rw[aw])
   have hlen:(l'.length + [a'].length)*(ekR).bytes≤140737488355328:=by rw[au.out];show(k+1)*48≤_;omega
   have bq:B0≤W3.heap.size:=Nat.le_trans hB (Nat.le_trans hc.below.size ah.size)
   have a8:∀ k∈((fun(_:RI×PV)=>([]:List Nat))) a',wr.heap.size≤k:=fun k hk=>Nat.le_trans hb1.size (bk k hk)
   clear ac x3 bk
   go_wp2_with (at_builtin;rw[←ak.out];refine A1s rfl (ekR) _ _ rfl B0 _ l' [a'] rfl hrow3 (some ⟨w2.heap.size,0,none⟩) 1 1 rfl rfl (fun h=>by cases h) bg (show 1≤48 by omega) hlen bq ?_)
   intro v4 w4 hr4 hg4 hk4
   obtain⟨a4,n4,c4,rfl,bv⟩:=hr4.shape'
   go_wp2_with fail
   go_roundg (n-(k+1))
   case measure=>omega
   case rel=>
    refine⟨k+1,(a4,n4,c4),l'++[a'],by omega,by go_num,rfl,?_⟩
    rw[HT.out]
    exact hc.step (E3b B0) (by show(106:TypeId)≠5;decide) her hO a8 bu ag hb3 (p3:=(a4,n4,c4)) hr4 hg4 hk4
  ·obtain rfl:k=n:=by omega
   have HT:Hid (l.take k=l):=by show _=_;exact List.take_of_length_le (by rw[←Hn.out];exact Nat.le_refl _)
   obtain⟨ap,np,cp⟩:=p
   rw[HT.out] at hc
   unfold PV.v
   go_wp2
   go_ret
   exact⟨(ap,np,cp),l',rfl,hc⟩
theorem D3i {d:Nat}{w:World}{B0:Nat}(hB:B0≤w.heap.size){vl:Value}{l:List (BI d)}(h:RdL 2 (BAt d) w vl l)(hl:l.length*48≤reachBytes){fn:Nat}(br:∀ (args:Array Value) (w:World),(callFunc fn args).run Tryz.prog w = .ok (.enter fn args) w)
  (aj:∀ W,Below w.heap.size w W→∀ a∈l,∀ (a0:Option Addr) (n0 c0:Nat) (a1:Option Addr) (n1 c1:Nat),BQ d W (.slice a0 n0 c0) (.slice a1 n1 c1) a→Calls Tryz.prog fn #[.agg #[.slice a0 n0 c0,.slice a1 n1 c1]] W fun e W'=>∃ (a':LB d) (x0:Option Addr) (y0 z0:Nat) (x1:Option Addr) (y1 z1:Nat),(ekB d).enc a' = [.slice x0 y0 z0,.slice x1 y1 z1]∧e = .returned (.agg #[.slice x0 y0 z0,.slice x1 y1 z1])∧(LB.pl d) a'=a∧(OwnB B0 d) W' a'∧(∀ k∈(LB.fp d) a',W.heap.size≤k)∧((LB.fp d) a').Nodup∧Below W.heap.size W W') :
  Calls Tryz.prog 78 #[vl,.func (.func fn) #[] #[]] w fun e w'=>∃ (p:PV) (l':List (LB d)),e = .returned p.v∧Cop ((ekB d)) ((LB.pl d)) ((OwnB B0 d)) ((LB.fp d)) w B0 l w' p l':=by
 obtain⟨ao,n,cap,rfl,Hn,bq⟩:=h.shape
 have hn:n*48≤reachBytes:=by rw[Hn.out];exact hl
 unfold reachBytes at hn
 go_enter Tryz.func78,Tryz.ntmps78
 go_wp2_with fail
 go_loopg [5,10] n (fun m s5 i wr=>∃ (k:Nat) (p:PV) (l':List (LB d)),k+m=n∧i = .int .i64 k∧s5=p.v∧Cop ((ekB d)) ((LB.pl d)) ((OwnB B0 d)) ((LB.fp d)) w B0 (l.take k) wr p l')
 case atStart=>exact⟨0,(none,0,0),[],by omega,rfl,rfl,Cop.nil w B0⟩
 case round=>
  obtain⟨k,p,l',hk,rfl,rfl,hc⟩:=hrel
  by_cases hlt:k<n
  ·obtain⟨z,Hz⟩:∃ z,Hid (l[k]?=some z):=⟨l[k]'(by rw[←Hn.out];exact hlt),List.getElem?_eq_getElem (by rw[←Hn.out];exact hlt)⟩
   obtain⟨b,off,rfl,hat⟩:=(h.below (BAt.stays d) hc.below).get (BAt.plain d) Hz.out
   obtain⟨v0,v1,s0,s1,hq⟩:=BQ.of d hat
   obtain⟨a0,n0,c0,a1,n1,c1,rfl,rfl⟩:=hq.shape
   have bv:(k:Int)<(n:Int):=by omega
   have HT:Hid (l.take (k+1)=l.take k++[z]):=by show _=_;rw[List.take_add_one,Hz.out];rfl
   have au:Hid (l'.length=k):=by show _=_;rw[←List.length_map (f:=(LB.pl d)),hc.map,List.length_take,←Hn.out];omega
   obtain⟨ap,np,cp⟩:=p
   obtain⟨W1,bh⟩:∃ W1,Hid (W1=wr.alloc (.cells #[.slice a0 n0 c0,.slice a1 n1 c1] 29)):=⟨_,rfl⟩
   have hb1:Below wr.heap.size wr W1:=by rw[bh.out];exact(Below.refl _ _).alloc (Nat.le_refl _) _
   have ac:=aj W1 (BTr hc.below hb1) z (A3z Hz.out) a0 n0 c0 a1 n1 c1 (hq.below hb1)
   clear h aj
   unfold PV.v at *
   go_wp2_with fail
   rw[←bh.out]
   refine ac.mono ?_
   rintro e w2 ⟨a',x0,y0,z0,x1,y1,z1,aw,rfl,her,hO,bk,bt,hb2⟩
   obtain⟨W3,ak⟩:∃ W3,Hid (W3=w2.alloc (.cells #[.slice x0 y0 z0,.slice x1 y1 z1] 29)):=⟨_,rfl⟩
   have hb3:Below w2.heap.size w2 W3:=by rw[ak.out];exact(Below.refl _ _).alloc (Nat.le_refl _) _
   have x3:W3.heap[w2.heap.size]?=some (.cells #[.slice x0 y0 z0,.slice x1 y1 z1] 29 (0,0)):=by rw[ak.out];exact heap_alloc_new _ _
   have ag:Below wr.heap.size wr w2:=BTr hb1 hb2
   have ah:Below wr.heap.size wr W3:=BTr ag hb3
   have hrow3:Row ((ekB d)) W3 B0 (.slice ap np cp) l':=hc.row.below ah
   have bg:∀ ad,(some ⟨w2.heap.size,0,none⟩:Option Addr)=some ad→∀ k y,[a'][k]?=some y→∀ j u,(((ekB d)).enc y)[j]?=some u→W3.cell? (ad.add (k*((ekB d)).size+j))=some u:=A8z x3 (by rw[aw])
   have hlen:(l'.length + [a'].length)*((ekB d)).bytes≤140737488355328:=by rw[au.out];show(k+1)*48≤_;omega
   have bp:B0≤W3.heap.size:=Nat.le_trans hB (Nat.le_trans hc.below.size ah.size)
   have a8:∀ k∈((LB.fp d)) a',wr.heap.size≤k:=fun k hk=>Nat.le_trans hb1.size (bk k hk)
   clear ac x3 bk
   go_wp2_with (at_builtin;rw[←ak.out];refine A1s rfl ((ekB d)) _ _ rfl B0 _ l' [a'] rfl hrow3 (some ⟨w2.heap.size,0,none⟩) 1 1 rfl rfl (fun h=>by cases h) bg (show 1≤48 by omega) hlen bp ?_)
   intro v4 w4 hr4 hg4 hk4
   obtain⟨a4,n4,c4,rfl,bu⟩:=hr4.shape'
   go_wp2_with fail
   go_roundg (n-(k+1))
   case measure=>omega
   case rel=>
    refine⟨k+1,(a4,n4,c4),l'++[a'],by omega,by go_num,rfl,?_⟩
    rw[HT.out]
    exact hc.step (E3a B0 d) (by show(29:TypeId)≠5;decide) her hO a8 bt ag hb3 (p3:=(a4,n4,c4)) hr4 hg4 hk4
  ·obtain rfl:k=n:=by omega
   have HT:Hid (l.take k=l):=by show _=_;exact List.take_of_length_le (by rw[←Hn.out];exact Nat.le_refl _)
   obtain⟨ap,np,cp⟩:=p
   rw[HT.out] at hc
   unfold PV.v
   go_wp2
   go_ret
   exact⟨(ap,np,cp),l',rfl,hc⟩
theorem D3k {d:Nat}{w:World}{B0:Nat}(hB:B0≤w.heap.size){vl:Value}{l:List (VI (BI d))}(h:RdL 4 (VAt (BAt d)) w vl l)(hl:l.length*80≤reachBytes){fn:Nat}(br:∀ (args:Array Value) (w:World),(callFunc fn args).run Tryz.prog w = .ok (.enter fn args) w)
  (aj:∀ W,Below w.heap.size w W→∀ a∈l,∀ (a1:Option Addr) (n1 c1:Nat) (a2:Option Addr) (n2 c2:Nat) (a3:Option Addr) (n3 c3:Nat),RdL 1 UAt W (.slice a1 n1 c1) a.bits→RdL 1 ZAt W (.slice a2 n2 c2) a.bytes→RdL 2 (BAt d) W (.slice a3 n3 c3) a.subs→Calls Tryz.prog fn #[.agg #[.int .i64 a.number,.slice a1 n1 c1,.slice a2 n2 c2,.slice a3 n3 c3]] W fun e W'=>∃ (a':VL (LB d)) (q0:Int) (x1:Option Addr) (y1 z1:Nat) (x2:Option Addr) (y2 z2:Nat) (x3:Option Addr) (y3 z3:Nat),(ekV (LB d)).enc a' = [.int .i64 q0,.slice x1 y1 z1,.slice x2 y2 z2,.slice x3 y3 z3]∧e = .returned (.agg #[.int .i64 q0,.slice x1 y1 z1,.slice x2 y2 z2,.slice x3 y3 z3])∧(VL.pl (LB.pl d)) a'=a∧(fun w (v:VL (LB d))=>OwnV (ekB d) (OwnB B0 d) w B0 v) W' a'∧(∀ k∈(VL.fp (LB.fp d)) a',W.heap.size≤k)∧((VL.fp (LB.fp d)) a').Nodup∧Below W.heap.size W W') :
  Calls Tryz.prog 73 #[vl,.func (.func fn) #[] #[]] w fun e w'=>∃ (p:PV) (l':List (VL (LB d))),e = .returned p.v∧Cop ((ekV (LB d))) ((VL.pl (LB.pl d))) ((fun w (v:VL (LB d))=>OwnV (ekB d) (OwnB B0 d) w B0 v)) ((VL.fp (LB.fp d))) w B0 l w' p l':=by
 obtain⟨ao,n,cap,rfl,Hn,bq⟩:=h.shape
 have hn:n*80≤reachBytes:=by rw[Hn.out];exact hl
 unfold reachBytes at hn
 go_enter Tryz.func73,Tryz.ntmps73
 go_wp2_with fail
 go_loopg [5,10] n (fun m s5 i wr=>∃ (k:Nat) (p:PV) (l':List (VL (LB d))),k+m=n∧i = .int .i64 k∧s5=p.v∧Cop ((ekV (LB d))) ((VL.pl (LB.pl d))) ((fun w (v:VL (LB d))=>OwnV (ekB d) (OwnB B0 d) w B0 v)) ((VL.fp (LB.fp d))) w B0 (l.take k) wr p l')
 case atStart=>exact⟨0,(none,0,0),[],by omega,rfl,rfl,Cop.nil w B0⟩
 case round=>
  obtain⟨k,p,l',hk,rfl,rfl,hc⟩:=hrel
  by_cases hlt:k<n
  ·obtain⟨z,Hz⟩:∃ z,Hid (l[k]?=some z):=⟨l[k]'(by rw[←Hn.out];exact hlt),List.getElem?_eq_getElem (by rw[←Hn.out];exact hlt)⟩
   obtain⟨b,off,rfl,hat⟩:=(h.below (VAt.stays (BAt.stays d)) hc.below).get VAt.plain Hz.out
   obtain⟨v1,v2,v3,t0,t1,t2,t3,r1,r2,r3⟩:=hat.at
   obtain⟨a1,n1,c1,rfl,_,_⟩:=r1.shape
   obtain⟨a2,n2,c2,rfl,_,_⟩:=r2.shape
   obtain⟨a3,n3,c3,rfl,_,_⟩:=r3.shape
   have bv:(k:Int)<(n:Int):=by omega
   have HT:Hid (l.take (k+1)=l.take k++[z]):=by show _=_;rw[List.take_add_one,Hz.out];rfl
   have au:Hid (l'.length=k):=by show _=_;rw[←List.length_map (f:=(VL.pl (LB.pl d))),hc.map,List.length_take,←Hn.out];omega
   obtain⟨ap,np,cp⟩:=p
   obtain⟨W1,bh⟩:∃ W1,Hid (W1=wr.alloc (.cells #[.int .i64 z.number,.slice a1 n1 c1,.slice a2 n2 c2,.slice a3 n3 c3] 62)):=⟨_,rfl⟩
   have hb1:Below wr.heap.size wr W1:=by rw[bh.out];exact(Below.refl _ _).alloc (Nat.le_refl _) _
   have ac:=aj W1 (BTr hc.below hb1) z (A3z Hz.out) a1 n1 c1 a2 n2 c2 a3 n3 c3 (r1.below UAt.stays hb1) (r2.below ZAt.stays hb1) (r3.below (BAt.stays d) hb1)
   clear h aj
   unfold PV.v at *
   go_wp2_with fail
   rw[←bh.out]
   refine ac.mono ?_
   rintro e w2 ⟨a',q0,x1,y1,z1,x2,y2,z2,x3,y3,z3,aw,rfl,her,hO,bk,bt,hb2⟩
   obtain⟨W3,ak⟩:∃ W3,Hid (W3=w2.alloc (.cells #[.int .i64 q0,.slice x1 y1 z1,.slice x2 y2 z2,.slice x3 y3 z3] 62)):=⟨_,rfl⟩
   have hb3:Below w2.heap.size w2 W3:=by rw[ak.out];exact(Below.refl _ _).alloc (Nat.le_refl _) _
   have x3:W3.heap[w2.heap.size]?=some (.cells #[.int .i64 q0,.slice x1 y1 z1,.slice x2 y2 z2,.slice x3 y3 z3] 62 (0,0)):=by rw[ak.out];exact heap_alloc_new _ _
   have ag:Below wr.heap.size wr w2:=BTr hb1 hb2
   have ah:Below wr.heap.size wr W3:=BTr ag hb3
   have hrow3:Row ((ekV (LB d))) W3 B0 (.slice ap np cp) l':=hc.row.below ah
   have bg:∀ ad,(some ⟨w2.heap.size,0,none⟩:Option Addr)=some ad→∀ k y,[a'][k]?=some y→∀ j u,(((ekV (LB d))).enc y)[j]?=some u→W3.cell? (ad.add (k*((ekV (LB d))).size+j))=some u:=A8z x3 (by rw[aw])
   have hlen:(l'.length + [a'].length)*((ekV (LB d))).bytes≤140737488355328:=by rw[au.out];show(k+1)*80≤_;omega
   have bp:B0≤W3.heap.size:=Nat.le_trans hB (Nat.le_trans hc.below.size ah.size)
   have a8:∀ k∈((VL.fp (LB.fp d))) a',wr.heap.size≤k:=fun k hk=>Nat.le_trans hb1.size (bk k hk)
   clear ac x3 bk
   go_wp2_with (at_builtin;rw[←ak.out];refine A1s rfl ((ekV (LB d))) _ _ rfl B0 _ l' [a'] rfl hrow3 (some ⟨w2.heap.size,0,none⟩) 1 1 rfl rfl (fun h=>by cases h) bg (show 1≤80 by omega) hlen bp ?_)
   intro v4 w4 hr4 hg4 hk4
   obtain⟨a4,n4,c4,rfl,bu⟩:=hr4.shape'
   go_wp2_with fail
   go_roundg (n-(k+1))
   case measure=>omega
   case rel=>
    refine⟨k+1,(a4,n4,c4),l'++[a'],by omega,by go_num,rfl,?_⟩
    rw[HT.out]
    exact hc.step (E1f B0 d) (by show(62:TypeId)≠5;decide) her hO a8 bt ag hb3 (p3:=(a4,n4,c4)) hr4 hg4 hk4
  ·obtain rfl:k=n:=by omega
   have HT:Hid (l.take k=l):=by show _=_;exact List.take_of_length_le (by rw[←Hn.out];exact Nat.le_refl _)
   obtain⟨ap,np,cp⟩:=p
   rw[HT.out] at hc
   unfold PV.v
   go_wp2
   go_ret
   exact⟨(ap,np,cp),l',rfl,hc⟩
def B7r (r:RI):Prop:=I64 r.number∧I64 r.how∧r.bits<18446744073709551616∧r.bytes.length*1≤reachBytes
def VOk {β:Type}(Q : β→Prop)(v:VI β):Prop:=I64 v.number∧(∀ n∈v.bits,n<18446744073709551616)∧v.bits.length*8≤reachBytes∧(∀ l∈v.bytes,l.length*1≤reachBytes)∧v.bytes.length*24≤reachBytes∧(∀ s∈v.subs,Q s)∧v.subs.length*48≤reachBytes
def BOk:(d:Nat)→BI d→Prop
 | 0=>fun _=>False
 | d+1=>fun b=>(∀ v∈BO.vals b,VOk (BOk d) v)∧(BO.vals b).length*80≤reachBytes∧(∀ r∈BO.unk b,B7r r)∧(BO.unk b).length*48≤reachBytes
def C0j (d:Nat):Prop:=∀ (w:World) (B0:Nat) (a0:Option Addr) (n0 c0:Nat) (a1:Option Addr) (n1 c1:Nat) (x:BI d),B0≤w.heap.size→BQ d w (.slice a0 n0 c0) (.slice a1 n1 c1) x→BOk d x→
 Calls Tryz.prog 31 #[.agg #[.slice a0 n0 c0,.slice a1 n1 c1]] w fun e w'=>∃ (y:LB d) (x0:Option Addr) (y0 z0:Nat) (x1:Option Addr) (y1 z1:Nat),(ekB d).enc y = [.slice x0 y0 z0,.slice x1 y1 z1]∧e = .returned (.agg #[.slice x0 y0 z0,.slice x1 y1 z1])∧LB.pl d y=x∧OwnB B0 d w' y∧(∀ k∈LB.fp d y,w.heap.size≤k)∧(LB.fp d y).Nodup∧Below w.heap.size w w'
def B5n (d:Nat):Prop:=∀ (w:World) (B0:Nat) (v:VI (BI d)) (a1:Option Addr) (n1 c1:Nat) (a2:Option Addr) (n2 c2:Nat) (a3:Option Addr) (n3 c3:Nat),B0≤w.heap.size→RdL 1 UAt w (.slice a1 n1 c1) v.bits→RdL 1 ZAt w (.slice a2 n2 c2) v.bytes→RdL 2 (BAt d) w (.slice a3 n3 c3) v.subs→VOk (BOk d) v→
 Calls Tryz.prog 32 #[.agg #[.int .i64 v.number,.slice a1 n1 c1,.slice a2 n2 c2,.slice a3 n3 c3]] w fun e w'=>∃ (y:VL (LB d)) (q0:Int) (x1:Option Addr) (y1 z1:Nat) (x2:Option Addr) (y2 z2:Nat) (x3:Option Addr) (y3 z3:Nat),(ekV (LB d)).enc y = [.int .i64 q0,.slice x1 y1 z1,.slice x2 y2 z2,.slice x3 y3 z3]∧e = .returned (.agg #[.int .i64 q0,.slice x1 y1 z1,.slice x2 y2 z2,.slice x3 y3 z3])∧VL.pl (LB.pl d) y=v∧OwnV (ekB d) (OwnB B0 d) w' B0 y∧(∀ k∈VL.fp (LB.fp d) y,w.heap.size≤k)∧(VL.fp (LB.fp d) y).Nodup∧Below w.heap.size w w'
theorem A1d {w:World}{g i:Nat}{cs:Array Value}{t:TypeId}{fr:Nat×Nat}{x:Value}(h:w.heap[g]?=some (.cells cs t fr))(ht:t≠5):FrB [g] w (w.setCell ⟨g,i,none⟩ x):=by
 refine⟨rfl,rfl,rfl,by simp,fun k _ hc=>Below.heap_setCell w ⟨g,i,none⟩ x k (show k≠g from fun e=>?_)⟩
 rcases hc with hc|⟨cs',fr',hc⟩
 ·exact hc (by simp[e])
 ·rw[e,h] at hc
  simp only[Option.some.injEq,Obj.cells.injEq] at hc
  exact ht hc.2.1
theorem C0y {V V':World}(h:V.grownBy V' (Value.slice none 0 0).ownBlock):Below V.heap.size V V':=⟨h.os,h.tape,h.output,h.size,fun k hk=>h.block k hk (by simp[Value.ownBlock])⟩
theorem A1x {g:Nat}{a b c:World}(h:FrB [g] a b)(k:FrB [g] b c):FrB [g] a c:=h.trans k (fun _ hi=>hi) (fun _ hi=>.inl hi)
theorem fr4 {w:World}{g:Nat}{cs:Array Value}{x0 x1 x2 x3:Value}(h:w.heap[g]?=some (.cells cs 62 (0,0))):FrB [g] w ((((w.setCell ⟨g,0,none⟩ x0).setCell ⟨g,1,none⟩ x1).setCell ⟨g,2,none⟩ x2).setCell ⟨g,3,none⟩ x3):=by
 have h1:=heap_setCell_same _ _ 0 _ _ x0 h
 have h2:=heap_setCell_same _ _ 1 _ _ x1 h1
 have h3:=heap_setCell_same _ _ 2 _ _ x2 h2
 exact A1x (A1x (A1x (A1d h (by decide)) (A1d h1 (by decide))) (A1d h2 (by decide))) (A1d h3 (by decide))
theorem OwnV.mono {β:Type}{E:EK β}{O O':World→β→Prop}{w:World}{base base':Nat}{v:VL β}(h:OwnV E O w base v)(hb:base'≤base)(hO:∀ s,O w s→O' w s):OwnV E O' w base' v:=⟨h.r1.mono hb,h.r2.mono hb,fun z hz=>(h.r2y z hz).mono hb,h.r3.mono hb,fun s hs=>hO s (h.r3s s hs)⟩
theorem OwnB.mono:∀ (d:Nat){w:World}{base base':Nat}{b:LB d},OwnB base d w b→base'≤base→OwnB base' d w b
 | 0,_,_,_,_,h,_=>h
 | d+1,_,_,_,_,h,hb=>⟨h.r0.mono hb,fun v hv=>(h.r0v v hv).mono hb fun _ hs=>OwnB.mono d hs hb,h.r1.mono hb,fun r hr=>(h.r1y r hr).mono hb⟩
theorem E0o {a b c:List Nat}{la ha lb hb lc hc:Nat}(na:a.Nodup)(nb:b.Nodup)(nc:c.Nodup)(ia:∀ k∈a,la≤k∧k<ha)(ib:∀ k∈b,lb≤k∧k<hb)(ic:∀ k∈c,lc≤k∧k<hc)(ac:ha≤lb∨hb≤la)(ag:ha≤lc∨hc≤la)(ah:hb≤lc∨hc≤lb):(a++b++c).Nodup:=by
 refine List.nodup_append.2 ⟨List.nodup_append.2 ⟨na,nb,fun x hx y hy e=>?_⟩,nc,fun x hx y hy e=>?_⟩
 ·subst e
  have:=ia x hx;have:=ib x hy
  omega
 ·subst e
  have:=ic x hy
  rcases List.mem_append.1 hx with hx|hx
  ·have:=ia x hx;omega
  ·have:=ib x hx;omega
theorem B6u (p:PV):(own1 p).Nodup:=by
 unfold own1
 cases p.v.ownBlock <;> simp
theorem B9g {d:Nat}(ih:C0j d):B5n d:=by
 intro w B0 v a1 n1 c1 a2 n2 c2 a3 n3 c3 hB r1 r2 r3 bq
 obtain⟨_,hu,a8,hz,hl2,hQ,bg⟩:=bq
 obtain⟨W2,aj⟩:∃ W2,Hid (W2=(w.alloc (.cells #[.int .i64 v.number,.slice a1 n1 c1,.slice a2 n2 c2,.slice a3 n3 c3] 62)).alloc (.cells #[.int .i64 0,.slice none 0 0,.slice none 0 0,.slice none 0 0] 62)):=⟨_,rfl⟩
 have hb2:Below w.heap.size w W2:=by rw[aj.out];exact((Below.refl _ _).alloc (Nat.le_refl _) _).alloc (by simp) _
 have z2:w.heap.size+2≤W2.heap.size:=by rw[aj.out];simp
 have x1:W2.heap[w.heap.size]?=some (.cells #[.int .i64 v.number,.slice a1 n1 c1,.slice a2 n2 c2,.slice a3 n3 c3] 62 (0,0)):=by rw[aj.out];exact A0l _ _ _
 have x2:W2.heap[w.heap.size+1]?=some (.cells #[.int .i64 0,.slice none 0 0,.slice none 0 0,.slice none 0 0] 62 (0,0)):=by rw[aj.out];exact A0i _ _ _
 have bk:∀ V,Below W2.heap.size W2 V→Calls Tryz.prog 76 #[.slice a2 n2 c2,.func (.func 77) #[] #[]] V fun e w'=>∃ (a:Option Addr) (n c:Nat) (l':List (List UInt8×PV)),e = .returned (.slice a n c)∧Cop ekZ Prod.fst (fun w (z:List UInt8×PV)=>Row ekY w W2.heap.size z.2.v z.1) (fun _=>[]) V W2.heap.size v.bytes w' (a,n,c) l':=fun V hV=>(D3l hV.size (r2.below ZAt.stays (BTr hb2 hV)) hl2 hz).mono fun _ _ ⟨⟨a,n,c⟩,l',h1,h2⟩=>⟨a,n,c,l',h1,h2⟩
 have hcb:∀ V,Below W2.heap.size W2 V→Calls Tryz.prog 78 #[.slice a3 n3 c3,.func (.func 31) #[] #[]] V fun e w'=>∃ (a:Option Addr) (n c:Nat) (l':List (LB d)),e = .returned (.slice a n c)∧Cop (ekB d) (LB.pl d) (OwnB W2.heap.size d) (LB.fp d) V W2.heap.size v.subs w' (a,n,c) l':=fun V hV=>(D3i hV.size (r3.below (BAt.stays d) (BTr hb2 hV)) bg (enters_of Tryz.func31 (by kernel_rfl) rfl) fun W hW a ha a0 n0 c0 a1 n1 c1 hq=>ih W W2.heap.size a0 n0 c0 a1 n1 c1 a (Nat.le_trans hV.size hW.size) hq (hQ a ha)).mono fun _ _ ⟨⟨a,n,c⟩,l',h1,h2⟩=>⟨a,n,c,l',h1,h2⟩
 have ah:∀ V,Below W2.heap.size W2 V→(V.cell? ⟨w.heap.size,0,none⟩=some (.int .i64 v.number)∧V.cell? ⟨w.heap.size,1,none⟩=some (.slice a1 n1 c1)∧V.cell? ⟨w.heap.size,2,none⟩=some (.slice a2 n2 c2)∧V.cell? ⟨w.heap.size,3,none⟩=some (.slice a3 n3 c3))∧V.cell? ⟨w.heap.size+1,0,none⟩=some (.int .i64 0)∧V.cell? ⟨w.heap.size+1,1,none⟩=some (.slice none 0 0)∧V.cell? ⟨w.heap.size+1,2,none⟩=some (.slice none 0 0)∧V.cell? ⟨w.heap.size+1,3,none⟩=some (.slice none 0 0)∧V.frozen? ⟨w.heap.size+1,0,none⟩=false∧V.frozen? ⟨w.heap.size+1,1,none⟩=false∧V.frozen? ⟨w.heap.size+1,2,none⟩=false∧V.frozen? ⟨w.heap.size+1,3,none⟩=false:=fun V hV=>by
  have y1:=(hV.block _ (by omega)).trans x1
  have y2:=(hV.block _ (by omega)).trans x2
  exact⟨⟨A0a y1 0 _ rfl,A0a y1 1 _ rfl,A0a y1 2 _ rfl,A0a y1 3 _ rfl⟩,A0a y2 0 _ rfl,A0a y2 1 _ rfl,A0a y2 2 _ rfl,A0a y2 3 _ rfl,A0b y2 0,A0b y2 1,A0b y2 2,A0b y2 3⟩
 have au:∀ V,Below W2.heap.size W2 V→Src ekU V a1 n1 c1 v.bits:=fun V hV=>(r1.below UAt.stays (BTr hb2 hV)).srcU
 have hby:(([]:List Nat).length+v.bits.length)*ekU.bytes≤140737488355328:=by
  unfold reachBytes at a8
  show(0+v.bits.length)*8≤_
  omega
 have hD:Below W2.heap.size W2 W2.drew:=(Below.refl _ _).drew
 obtain⟨⟨d0,d1,d2,d3⟩,e0,e1,e2,e3,e4,e5,e6,e7⟩:=ah _ hD
 have cj:¬ w.heap.size=w.heap.size+1:=by omega
 have cu:¬ w.heap.size+1=w.heap.size:=by omega
 have hS:∀ V,Below W2.heap.size W2 V→Below w.heap.size w V∧V.cell? ⟨w.heap.size,0,none⟩=some (.int .i64 v.number)∧V.cell? ⟨w.heap.size,1,none⟩=some (.slice a1 n1 c1)∧V.cell? ⟨w.heap.size,2,none⟩=some (.slice a2 n2 c2)∧V.cell? ⟨w.heap.size,3,none⟩=some (.slice a3 n3 c3):=fun V hV=>⟨BTr hb2 hV,(ah V hV).1⟩
 have far:∀ (V:World) (i j:Nat) (x:Value),(V.setCell ⟨w.heap.size+1,i,none⟩ x).cell? ⟨w.heap.size,j,none⟩=V.cell? ⟨w.heap.size,j,none⟩:=fun V i j x=>World.cell?_setCell_far V _ _ _ (by simp)
 have bh:∀ V,Below W2.heap.size W2 V→∀ x0 x1 x2 x3:Value,Below w.heap.size w ((((V.setCell ⟨w.heap.size+1,0,none⟩ x0).setCell ⟨w.heap.size+1,1,none⟩ x1).setCell ⟨w.heap.size+1,2,none⟩ x2).setCell ⟨w.heap.size+1,3,none⟩ x3)∧((((V.setCell ⟨w.heap.size+1,0,none⟩ x0).setCell ⟨w.heap.size+1,1,none⟩ x1).setCell ⟨w.heap.size+1,2,none⟩ x2).setCell ⟨w.heap.size+1,3,none⟩ x3).cell? ⟨w.heap.size,0,none⟩=some (.int .i64 v.number)∧((((V.setCell ⟨w.heap.size+1,0,none⟩ x0).setCell ⟨w.heap.size+1,1,none⟩ x1).setCell ⟨w.heap.size+1,2,none⟩ x2).setCell ⟨w.heap.size+1,3,none⟩ x3).cell? ⟨w.heap.size,1,none⟩=some (.slice a1 n1 c1)∧((((V.setCell ⟨w.heap.size+1,0,none⟩ x0).setCell ⟨w.heap.size+1,1,none⟩ x1).setCell ⟨w.heap.size+1,2,none⟩ x2).setCell ⟨w.heap.size+1,3,none⟩ x3).cell? ⟨w.heap.size,2,none⟩=some (.slice a2 n2 c2)∧((((V.setCell ⟨w.heap.size+1,0,none⟩ x0).setCell ⟨w.heap.size+1,1,none⟩ x1).setCell ⟨w.heap.size+1,2,none⟩ x2).setCell ⟨w.heap.size+1,3,none⟩ x3).cell? ⟨w.heap.size,3,none⟩=some (.slice a3 n3 c3):=fun V hV x0 x1 x2 x3=>by
  simp only[far]
  exact⟨A2q (A2q (A2q (A2q (BTr hb2 hV) (by omega)) (by omega)) (by omega)) (by omega),(ah V hV).1⟩
 clear ih r1 r2 r3 a8 hl2 bg hz hQ hu x1 far
 go_enter Tryz.func32,Tryz.ntmps32
 go_wp2_with fail
 rw[←aj.out]
 go_region_held3 (fun V=>Below w.heap.size w V∧V.cell? ⟨w.heap.size,0,none⟩=some (.int .i64 v.number)∧V.cell? ⟨w.heap.size,1,none⟩=some (.slice a1 n1 c1)∧V.cell? ⟨w.heap.size,2,none⟩=some (.slice a2 n2 c2)∧V.cell? ⟨w.heap.size,3,none⟩=some (.slice a3 n3 c3)) ((first|(with_reducible refine hS _ ?_;with_reducible (first|exact hD|exact hA|exact hZ|exact hY))|(with_reducible refine bh _ ?_ _ _ _ _;with_reducible (first|exact hA|exact hY)))) ((first|(refine D1o (by rfl) ekU _ _ (by rfl) W2.heap.size (.slice none 0 0) [] v.bits (by rfl) (Row.nil _ _ _) a1 n1 c1 (by rfl) (au _ hD).1 (au _ hD).2.1 (au _ (by with_reducible (first|exact hD|exact hZ|exact hY))).2.2 (by decide) hby (by with_reducible (first|exact hD.size|exact hZ.size|exact hY.size)) ?_;intro vA wA ak bp bv;obtain⟨aA,nA,cA,rfl,bu⟩:=ak.shape';have hA:Below W2.heap.size W2 wA:=BTr (by with_reducible (first|exact hD|exact hZ|exact hY)) (C0y bp);obtain⟨⟨ew,fc,fd,fe⟩,cw,df,dg,dh,di,dl,dm,dn⟩:=ah _ hA)|(go_at_call 76;refine(bk _ (by with_reducible (first|exact hD|exact hA))).mono ?_;rintro e wZ ⟨aZ,nZ,cZ,lZ,rfl,ag⟩;have hZ:Below W2.heap.size W2 wZ:=BTr (by with_reducible (first|exact hD|exact hA)) ag.below;obtain⟨⟨fq,ft,fu,fw⟩,d9,ee,eh,ei,ej,eo,et,eu⟩:=ah _ hZ)|(go_at_call 78;refine(hcb _ (by with_reducible (first|exact hZ|exact hA))).mono ?_;rintro e wY ⟨aY,nY,cY,lY,rfl,ac⟩;have hY:Below W2.heap.size W2 wY:=BTr (by with_reducible (first|exact hZ|exact hA)) ac.below;obtain⟨⟨fh,fj,fk,fo⟩,dp,dr,dt,dv,dw,dx,dy,dz⟩:=ah _ hY)))
 have bw:W2.heap.size≤wA.heap.size:=hA.size
 have bt:wA.heap.size≤wZ.heap.size:=ag.below.size
 have cg:wZ.heap.size≤wY.heap.size:=ac.below.size
 have iA:∀ k∈own1 ((aA,nA,cA):PV),W2.heap.size≤k∧k<wA.heap.size:=fun k hk=>by
  have aw:(Value.slice aA nA cA).ownBlock=some k:=A0o.1 hk
  exact⟨(ak.own k aw).1,(ak.own k aw).2⟩
 have iZ:∀ k∈own1 ((aZ,nZ,cZ):PV),wA.heap.size≤k∧k<wZ.heap.size:=fun k hk=>⟨ag.ge k (List.mem_append_left _ hk),(ag.row.own1 k hk).2⟩
 have iY:∀ k∈own1 ((aY,nY,cY):PV)++lY.flatMap (LB.fp d),wZ.heap.size≤k∧k<wY.heap.size:=fun k hk=>⟨ac.ge k hk,by
  rcases List.mem_append.1 hk with hk|hk
  ·exact(ac.row.own1 k hk).2
  ·obtain⟨s,hs,hk⟩:=List.mem_flatMap.1 hk
   exact(OwnB.inB d (ac.own s hs) k hk).2⟩
 have hx2:wY.heap[w.heap.size+1]?=some (.cells #[.int .i64 0,.slice none 0 0,.slice none 0 0,.slice none 0 0] 62 (0,0)):=(hY.block _ (by omega)).trans x2
 have hf:=fr4 hx2 (x0:=.int .i64 v.number) (x1:=.slice aA nA cA) (x2:=.slice aZ nZ cZ) (x3:=.slice aY nY cY)
 have rA:Row ekU wY W2.heap.size (PV.v (aA,nA,cA)) v.bits:=by
  have:=(ak.below ag.below).below ac.below
  rw[List.nil_append] at this
  exact this
 have br:∀ s∈lY,OwnB W2.heap.size d wY s:=fun s hs=>ac.own s hs
 go_wp2_with fail
 refine bodyPost_ret (v:=.agg #[.int .i64 v.number,.slice aA nA cA,.slice aZ nZ cZ,.slice aY nY cY]) (by simp[results,Tryz.results32,go_sem, *]) rfl ?_
 refine⟨⟨v.number,v.bits,lZ,lY,(aA,nA,cA),(aZ,nZ,cZ),(aY,nY,cY)⟩,v.number,aA,nA,cA,aZ,nZ,cZ,aY,nY,cY,rfl,rfl,?_,?_,?_,?_,?_⟩
 ·simp only[VL.pl,ag.map,ac.map]
 ·refine⟨?_,?_,fun z hz=>?_,?_,fun s hs=>?_⟩
  ·exact((((rA.set4 (by omega)).set4 (by omega)).set4 (by omega)).set4 (by omega)).mono (by omega)
  ·exact(((((ag.row.below ac.below).set4 (by omega)).set4 (by omega)).set4 (by omega)).set4 (by omega)).mono (by omega)
  ·have hz':Row ekY wZ W2.heap.size z.2.v z.1:=ag.own z hz
   exact(((((hz'.below ac.below).set4 (by omega)).set4 (by omega)).set4 (by omega)).set4 (by omega)).mono (by omega)
  ·exact((((ac.row.set4 (by omega)).set4 (by omega)).set4 (by omega)).set4 (by omega)).mono (by omega)
  ·refine OwnB.mono d (OwnB.fr d [w.heap.size+1] wY _ s (br s hs) hf fun k hk hm=>?_) (by omega)
   rw[List.mem_singleton] at hm
   have:=iY k (List.mem_append_right _ (List.mem_flatMap.2 ⟨s,hs,hk⟩))
   omega
 ·intro k hk
  simp only[VL.fp] at hk
  rw[List.append_assoc] at hk
  rcases List.mem_append.1 hk with hk|hk
  ·rcases List.mem_append.1 hk with hk|hk
   ·have:=iA k hk;omega
   ·have:=iZ k hk;omega
  ·have:=iY k hk;omega
 ·simp only[VL.fp]
  rw[List.append_assoc]
  exact E0o (B6u _) (B6u _) ac.nd iA iZ iY (.inl (Nat.le_refl _)) (.inl bt) (.inl (Nat.le_refl _))
 ·exact A2q (A2q (A2q (A2q (BTr hb2 hY) (by omega)) (by omega)) (by omega)) (by omega)
end L
end Go.Proofs.YtgaoojpakjjdnaaGreatDoor
