import Derived.Test.YtcagbdokbnpdfaaGreatDoorZ09
import Derived.Test.YtcagbdokbnpdfaaGreatDoorZ23
import Derived.Test.YtcagbdokbnpdfaaGreatDoorZ18
import Derived.Test.YtcagbdokbnpdfaaGreatDoorZ06
namespace Go.Proofs.YtcagbdokbnpdfaaGreatDoor
namespace L
open Go.RowKit
set_option linter.unusedVariables false
def Apt (F:List Nat) (w w' w'':World):Prop:=∃ G,FrB G w' w''∧∀ k∈G,k < w.heap.size∧k∉F
theorem Apt.refl (F:List Nat) (w w':World):Apt F w w' w':=⟨[],FrB.refl _ _,fun k h=>by simp at h⟩
theorem B2c {w:World}{g:Nat}{cs:Array Value}{t:TypeId}{v0 v1:Value}(h:w.heap[g]?=some (.cells cs t (0,0))) (hs:2≤cs.size):((w.setCell ⟨g,0,none⟩ v0).setCell ⟨g,1,none⟩ v1).cell? ⟨g,0,none⟩=some v0∧((w.setCell ⟨g,0,none⟩ v0).setCell ⟨g,1,none⟩ v1).cell? ⟨g,1,none⟩=some v1:=by
 have h1:=heap_setCell_same _ _ 1 _ _ v1 (heap_setCell_same _ _ 0 _ _ v0 h)
 constructor
 ·refine A0a h1 0 _ ?_
  rw[Array.getElem?_setIfInBounds_ne (by omega),Array.getElem?_setIfInBounds_self_of_lt (by omega)]
 ·refine A0a h1 1 _ ?_
  rw[Array.getElem?_setIfInBounds_self_of_lt (by simp;omega)]
set_option maxHeartbeats 8000000 in
set_option maxRecDepth 100000 in
theorem C8h {d:Nat}{W0 w:World}{g:GI}{y z:VL (LB (d+1))}(h0:Below W0.heap.size W0 w) (hy:OwnV (ekB (d+1)) (OwnB W0.heap.size (d+1)) w W0.heap.size y) (hz:OwnV (ekB (d+1)) (OwnB W0.heap.size (d+1)) w W0.heap.size z) (x:FI) (hm:x.many=false) (hk:x.kind=10){am:Option Addr}{nm cm:Nat}{ae:Option Addr}{ne ce j:Nat}(hj:A0k (fun m:MI=>decide (m.name=x.type)) g.msgs=(j:Int)) (hI:WIn g am nm cm ae ne ce (j:Int) w){s t:LB (d+1)}(hys:y.subs = [s]) (hzs:z.subs = [t]) (hab:∀ k∈own1 y.p3,k∉own1 z.p3) (oks:BOk (d+1) (LB.pl (d+1) s)) (okt:BOk (d+1) (LB.pl (d+1) t)) (hw:jWB (d+1) (LB.pl (d+1) s)+jWB (d+1) (LB.pl (d+1) t)≤1000000000) :
  Calls Tryz.prog 129 #[.agg #[.slice am nm cm,.slice ae ne ce],vFI x,.agg #[.int .i64 y.number,y.p1.v,y.p2.v,y.p3.v],.agg #[.int .i64 z.number,z.p1.v,z.p2.v,z.p3.v]] w fun e w'=>e = .returned (.tuple #[.agg #[.int .i64 z.number,z.p1.v,z.p2.v,z.p3.v],.int .i64 (A3g g d (j:Int) (LB.pl (d+1) s) (LB.pl (d+1) t))])∧FrB (own1 z.p3) w w'∧
   (A3g g d (j:Int) (LB.pl (d+1) s) (LB.pl (d+1) t)=0→∃ M,g.msgs[j]?=some M∧∀ w'',Apt (own1 z.p3) w w' w''→RdL 2 (BAt (d+1)) w'' z.p3.v [jnB g.msgs (d+1) M (LB.pl (d+1) s) (LB.pl (d+1) t)]):=by
 unfold vFI
 rw[hm]
 have hk':(x.kind == 10)=true:=beq_iff_eq.2 hk
 obtain⟨nu,bi,by',su,⟨a1,n1,c1⟩,⟨a2,n2,c2⟩,⟨a3,n3,c3⟩⟩:=y
 obtain⟨mu,bj,bz',sv,⟨b1,m1,d1⟩,⟨b2,m2,d2⟩,⟨b3,m3,d3⟩⟩:=z
 have hys:su = [s]:=hys
 have hzs:sv = [t]:=hzs
 subst hys
 subst hzs
 have hry:Row (ekB (d+1)) w W0.heap.size (.slice a3 n3 c3) [s]:=hy.r3
 have hrz:Row (ekB (d+1)) w W0.heap.size (.slice b3 m3 d3) [t]:=hz.r3
 obtain⟨ga,ca,cura,ea,hba,hga,ha1,ha2,ha3,ha4⟩:∃ g cap cur,Value.slice a3 n3 c3 = .slice (some ⟨g,0,none⟩) 1 cap∧W0.heap.size≤g∧w.heap[g]?=some (.cells cur 29 (0,0))∧1≤cap∧cap≤maxLen∧cur.size=cap*2∧cur.toList.take (1*2)=(ekB (d+1)).flat [s]:=by
  rcases hry.2 with⟨_,h⟩|h
  ·simp at h
  ·exact h
 obtain⟨gb,cb',curb,eb,hbb,hgb,hb1',hb2',hb3',hb4'⟩:∃ g cap cur,Value.slice b3 m3 d3 = .slice (some ⟨g,0,none⟩) 1 cap∧W0.heap.size≤g∧w.heap[g]?=some (.cells cur 29 (0,0))∧1≤cap∧cap≤maxLen∧cur.size=cap*2∧cur.toList.take (1*2)=(ekB (d+1)).flat [t]:=by
  rcases hrz.2 with⟨_,h⟩|h
  ·simp at h
  ·exact h
 cases ea
 cases eb
 have hs0:=hy.r3s s (List.mem_singleton.2 rfl)
 have ht0:=hz.r3s t (List.mem_singleton.2 rfl)
 obtain⟨s0,s1,s2,s3,s4,s5,es⟩:=A9t (d+1) s
 obtain⟨t0,t1,t2,t3,t4,t5,et⟩:=A9t (d+1) t
 have hsb:=B5z es rfl hs0
 have htb:=B5z et rfl ht0
 have cell2:∀ {V:World}{g:Nat}{cur:Array Value}{u0 u1:Value}{c:LB (d+1)},V.heap[g]?=some (.cells cur 29 (0,0))→cur.toList.take (1*2)=(ekB (d+1)).flat [c]→A6t (d+1) c = [u0,u1]→V.cell? ⟨g,0,none⟩=some u0∧V.cell? ⟨g,1,none⟩=some u1:=by
  intro V g cur u0 u1 c hg ht he
  have hf:(ekB (d+1)).flat [c] = [u0,u1]:=by simp only[EK.flat,List.flatMap_cons,List.flatMap_nil,List.append_nil];exact he
  rw[hf] at ht
  have e0:cur.toList[0]?=some u0:=by
   have:=congrArg (fun l=>l[0]?) ht
   simpa [List.getElem?_take] using this
  have e1:cur.toList[1]?=some u1:=by
   have:=congrArg (fun l=>l[1]?) ht
   simpa [List.getElem?_take] using this
  exact⟨A0a hg 0 _ (by rw[←Array.getElem?_toList];exact e0),A0a hg 1 _ (by rw[←Array.getElem?_toList];exact e1)⟩
 have hne:ga≠gb:=fun e=>hab ga (by show ga∈[ga];simp) (by show ga∈[gb];simp[e])
 have hgal:=(Array.getElem?_eq_some_iff.1 hga).1
 have hgbl:=(Array.getElem?_eq_some_iff.1 hgb).1
 obtain⟨W5,HW5⟩:∃ W5,Hid (W5=((((w.alloc (.cells #[.slice am nm cm,.slice ae ne ce] 25)).alloc (.cells #[.string (S x.name),.int .i64 x.number,.int .i64 x.kind,.string (S x.type),.bool false,.int .i64 x.choice] 58)).alloc (.cells #[.int .i64 nu,.slice a1 n1 c1,.slice a2 n2 c2,.slice (some ⟨ga,0,none⟩) 1 c3] 54)).alloc (.cells #[.int .i64 mu,.slice b1 m1 d1,.slice b2 m2 d2,.slice (some ⟨gb,0,none⟩) 1 d3] 54)).alloc (.cells #[.int .i64 0,.slice none 0 0,.slice none 0 0,.slice none 0 0] 54)):=⟨_,rfl⟩
 obtain⟨x0,x1,x2,x3,x4,xz⟩:=B0a w (.cells #[.slice am nm cm,.slice ae ne ce] 25) (.cells #[.string (S x.name),.int .i64 x.number,.int .i64 x.kind,.string (S x.type),.bool false,.int .i64 x.choice] 58) (.cells #[.int .i64 nu,.slice a1 n1 c1,.slice a2 n2 c2,.slice (some ⟨ga,0,none⟩) 1 c3] 54) (.cells #[.int .i64 mu,.slice b1 m1 d1,.slice b2 m2 d2,.slice (some ⟨gb,0,none⟩) 1 d3] 54) (.cells #[.int .i64 0,.slice none 0 0,.slice none 0 0,.slice none 0 0] 54)
 rw[←HW5.out] at x0 x1 x2 x3 x4 xz
 have hb5:Below w.heap.size w W5:=by rw[HW5.out];exact(((((Below.refl _ _).alloc (Nat.le_refl _) _).alloc (by simp) _).alloc (by simp;omega) _).alloc (by simp;omega) _).alloc (by simp;omega) _
 have hz5:w.heap.size+5≤W5.heap.size:=Nat.le_of_eq xz.symm
 have hga5:=(hb5.block _ hgal).trans hga
 have hgb5:=(hb5.block _ hgbl).trans hgb
 have hcl:∀ V,FrB [gb] W5 V→(V.cell? ⟨w.heap.size,0,none⟩=some (.slice am nm cm)∧V.cell? ⟨w.heap.size,1,none⟩=some (.slice ae ne ce))∧V.cell? ⟨w.heap.size+1,3,none⟩=some (.string (S x.type))∧V.cell? ⟨w.heap.size+2,3,none⟩=some (.slice (some ⟨ga,0,none⟩) 1 c3)∧V.cell? ⟨w.heap.size+3,3,none⟩=some (.slice (some ⟨gb,0,none⟩) 1 d3):=fun V hV=>
  ⟨A0v ((hV.block _ (by omega) (.inl (by simp;omega))).trans x0),A0a ((hV.block _ (by omega) (.inl (by simp;omega))).trans x1) 3 _ rfl,A0a ((hV.block _ (by omega) (.inl (by simp;omega))).trans x2) 3 _ rfl,A0a ((hV.block _ (by omega) (.inl (by simp;omega))).trans x3) 3 _ rfl⟩
 obtain⟨E,HE⟩:∃ E,Hid (A3g g d (j:Int) (LB.pl (d+1) s) (LB.pl (d+1) t)=E):=⟨_,rfl⟩
 have hmsg:∀ V,Below w.heap.size w V→Calls Tryz.prog 47 #[.agg #[.slice am nm cm,.slice ae ne ce],.string (S x.type)] V fun e w'=>e = .returned (.int .i64 (j:Int))∧Below V.heap.size V w':=fun V hV=>by
  have:=A3u (ve:=.slice ae ne ce) (hI.below hV).hg.1 ⟨_,_,_,rfl⟩ x.type
  rw[hj] at this
  exact this
 have hjn:∀ V,Below w.heap.size w V→Calls Tryz.prog 20 #[.agg #[.slice am nm cm,.slice ae ne ce],.int .i64 (j:Int),.agg #[.slice s0 s1 s2,.slice s3 s4 s5],.agg #[.slice t0 t1 t2,.slice t3 t4 t5]] V fun e w'=>∃ (i0:Option Addr) (j0 l0:Nat) (i1:Option Addr) (j1 l1:Nat),e = .returned (.tuple #[.agg #[.slice i0 j0 l0,.slice i1 j1 l1],.int .i64 E])∧Hid (E=0→∃ M,g.msgs[j]?=some M∧∃ c:LB (d+1),A6t (d+1) c = [.slice i0 j0 l0,.slice i1 j1 l1]∧LB.pl (d+1) c=jnB g.msgs (d+1) M (LB.pl (d+1) s) (LB.pl (d+1) t)∧OwnB V.heap.size (d+1) w' c)∧Below V.heap.size V w':=fun V hV=>by
  refine(B9r (hI.below hV) (hsb.below hV) oks (htb.below hV) okt hw).mono ?_
  rintro e w' ⟨hbV,⟨hne0,rfl⟩|⟨hz,M,e0,f0,g0,e1,f1,g1,_,_,hM,_,rfl,c,q1,q2,q3⟩⟩
  ·rw[HE.out] at hne0
   exact⟨_,_,_,_,_,_,by rw[HE.out],fun h=>absurd h hne0,hbV⟩
  ·rw[HE.out] at hz
   exact⟨e0,f0,g0,e1,f1,g1,by rw[hz],fun _=>⟨M,by simpa using hM,c,q1,q2,q3⟩,hbV⟩
 have hD:Below W5.heap.size W5 W5.drew:=(Below.refl _ _).drew
 have hs5:FrB [gb] W5 W5.drew:=FrB.of_below hD
 have hcla:∀ V,FrB [gb] W5 V→V.cell? ⟨ga,0,none⟩=some (.slice s0 s1 s2)∧V.cell? ⟨ga,1,none⟩=some (.slice s3 s4 s5):=fun V hV=>cell2 ((hV.block _ (by omega) (.inl (by simpa using hne))).trans hga5) ha4 es
 have hclb:∀ V,Below W5.heap.size W5 V→V.cell? ⟨gb,0,none⟩=some (.slice t0 t1 t2)∧V.cell? ⟨gb,1,none⟩=some (.slice t3 t4 t5):=fun V hV=>cell2 ((hV.block _ (by omega)).trans hgb5) hb4' et
 obtain⟨⟨z0,z1⟩,z2,z3,z4⟩:=hcl W5.drew hs5
 obtain⟨y0,y1⟩:=hcla W5.drew hs5
 obtain⟨v0,v1⟩:=hclb W5.drew hD
 have HS2:Hid (2≤curb.size):=by show _≤_;omega
 rw[HE.out]
 clear hy hz hI hj hm hk hsb htb hs0 ht0 cell2 ha4 hb4' oks okt hw
 unfold PV.v
 go_enter Tryz.func129,Tryz.ntmps129
 go_upto_region 7 with fail
 rw[←HW5.out]
 refine wp_region_held_drew (S:=fun V=>FrB [gb] W5 V) (by kernel_rfl) hs5 (fun hHeld=>?_)
 refine tK (i:=0) (v:=?vj1) rfl (fun _ _ _ h=>h) ⟨by rfl,?hyj1⟩ (by assumption) ?_
 case hyj1=>(intro W hSw;obtain⟨⟨o1,o2⟩,o3,o4,o5⟩:=hcl W hSw;obtain⟨o6,o7⟩:=hcla W hSw;go_simp;first|done|with_reducible rfl)
 try simp only[pT,Act.put]
 refine tK (i:=1) (v:=?vj2) rfl (fun _ _ _ h=>h) ⟨by rfl,?hyj2⟩ (by assumption) ?_
 case hyj2=>(intro W hSw;obtain⟨⟨o1,o2⟩,o3,o4,o5⟩:=hcl W hSw;obtain⟨o6,o7⟩:=hcla W hSw;go_simp;first|done|with_reducible rfl)
 try simp only[pT,Act.put]
 refine tK (i:=2) (v:=?vj3) rfl (fun _ _ _ h=>h) ⟨by rfl,?hyj3⟩ (by assumption) ?_
 case hyj3=>(intro W hSw;obtain⟨⟨o1,o2⟩,o3,o4,o5⟩:=hcl W hSw;obtain⟨o6,o7⟩:=hcla W hSw;go_simp;first|done|with_reducible rfl)
 try simp only[pT,Act.put]
 refine tK (i:=3) (v:=?vj4) rfl (fun _ _ _ h=>h) ⟨by rfl,?hyj4⟩ (by assumption) ?_
 case hyj4=>(intro W hSw;obtain⟨⟨o1,o2⟩,o3,o4,o5⟩:=hcl W hSw;obtain⟨o6,o7⟩:=hcla W hSw;go_simp;first|done|with_reducible rfl)
 try simp only[pT,Act.put]
 refine tK (i:=4) (v:=?vj5) rfl (fun _ _ _ h=>h) ⟨by rfl,?hyj5⟩ (by assumption) ?_
 case hyj5=>(intro W hSw;obtain⟨⟨o1,o2⟩,o3,o4,o5⟩:=hcl W hSw;obtain⟨o6,o7⟩:=hcla W hSw;go_simp;first|done|with_reducible rfl)
 try simp only[pT,Act.put]
 refine tK (i:=5) (v:=?vj6) rfl (fun _ _ _ h=>h) ⟨by rfl,?hyj6⟩ (by assumption) ?_
 case hyj6=>(intro W hSw;obtain⟨⟨o1,o2⟩,o3,o4,o5⟩:=hcl W hSw;obtain⟨o6,o7⟩:=hcla W hSw;go_simp;first|done|with_reducible rfl)
 try simp only[pT,Act.put]
 refine tK (i:=7) (v:=?vj7) rfl (fun _ _ _ h=>h) ⟨by rfl,?hyj7⟩ (by assumption) ?_
 case hyj7=>(intro W hSw;obtain⟨⟨o1,o2⟩,o3,o4,o5⟩:=hcl W hSw;obtain⟨o6,o7⟩:=hcla W hSw;go_simp;first|done|with_reducible rfl)
 try simp only[pT,Act.put]
 refine tK (i:=8) (v:=?vj8) rfl (fun _ _ _ h=>h) ⟨by rfl,?hyj8⟩ (by assumption) ?_
 case hyj8=>(intro W hSw;obtain⟨⟨o1,o2⟩,o3,o4,o5⟩:=hcl W hSw;obtain⟨o6,o7⟩:=hcla W hSw;go_simp;first|done|with_reducible rfl)
 try simp only[pT,Act.put]
 refine tK (i:=9) (v:=?vj9) rfl (fun _ _ _ h=>h) ⟨by rfl,?hyj9⟩ (by assumption) ?_
 case hyj9=>(intro W hSw;obtain⟨⟨o1,o2⟩,o3,o4,o5⟩:=hcl W hSw;obtain⟨o6,o7⟩:=hcla W hSw;go_simp;first|done|with_reducible rfl)
 try simp only[pT,Act.put]
 refine tK (i:=10) (v:=?vj10) rfl (fun _ _ _ h=>h) ⟨by rfl,?hyj10⟩ (by assumption) ?_
 case hyj10=>(intro W hSw;obtain⟨⟨o1,o2⟩,o3,o4,o5⟩:=hcl W hSw;obtain⟨o6,o7⟩:=hcla W hSw;go_simp;first|done|with_reducible rfl)
 try simp only[pT,Act.put]
 refine tK (i:=11) (v:=?vj11) rfl (fun _ _ _ h=>h) ⟨by rfl,?hyj11⟩ (by assumption) ?_
 case hyj11=>(intro W hSw;obtain⟨⟨o1,o2⟩,o3,o4,o5⟩:=hcl W hSw;obtain⟨o6,o7⟩:=hcla W hSw;go_simp;first|done|with_reducible rfl)
 try simp only[pT,Act.put]
 refine tK (i:=12) (v:=?vj12) rfl (fun _ _ _ h=>h) ⟨by rfl,?hyj12⟩ (by assumption) ?_
 case hyj12=>(intro W hSw;obtain⟨⟨o1,o2⟩,o3,o4,o5⟩:=hcl W hSw;obtain⟨o6,o7⟩:=hcla W hSw;go_simp;first|done|with_reducible rfl)
 try simp only[pT,Act.put]
 refine tK (i:=13) (v:=?vj13) rfl (fun _ _ _ h=>h) ⟨by rfl,?hyj13⟩ (by assumption) ?_
 case hyj13=>(intro W hSw;obtain⟨⟨o1,o2⟩,o3,o4,o5⟩:=hcl W hSw;obtain⟨o6,o7⟩:=hcla W hSw;go_simp;first|done|with_reducible rfl)
 try simp only[pT,Act.put]
 refine wpAnyH_ready (rs:=[6,14]) (by kernel_rfl) (by simp) ?_
 refine AllReadyH.cons rfl (fun K hK=>?_) (AllReadyH.cons rfl (fun K hK=>?_) AllReadyH.nil)
 ·skip
  go_simp
  refine(hmsg _ (BTr hb5 hD)).mono ?_
  rintro r w7 ⟨rfl,hb7⟩
  have hB7:Below W5.heap.size W5 w7:=BTr hD hb7
  have hs7:FrB [gb] W5 w7:=FrB.of_below hB7
  obtain⟨vv0,vv1⟩:=hclb w7 hB7
  have hjw:=hjn w7 (BTr hb5 hB7)
  refine hK.out _ _ ?_ (fun hHeld=>?_)
  ·(try dsimp only);with_reducible first|exact hs5|exact hs7|exact hs8|exact hs9
  clear hK K
  try simp only[pT,Act.put]
  refine wpAnyH_ready (rs:=[14]) (by kernel_rfl) (by simp) ?_
  refine AllReadyH.cons rfl (fun K hK=>?_) AllReadyH.nil
  go_simp
  refine hK.out _ _ ?_ (fun hHeld=>?_)
  ·(try dsimp only);with_reducible first|exact hs5|exact hs7|exact hs8|exact hs9
  clear hK K
  try simp only[pT,Act.put]
  refine wpAnyH_ready (rs:=[15]) (by kernel_rfl) (by simp) ?_
  refine AllReadyH.cons rfl (fun K hK=>?_) AllReadyH.nil
  go_simp
  refine hjw.mono ?_
  rintro r w8 ⟨i0,j0,l0,i1,j1,l1,rfl,HJ,hb8⟩
  have hB8:Below W5.heap.size W5 w8:=BTr hB7 hb8
  have hs8:FrB [gb] W5 w8:=FrB.of_below hB8
  have xg8:=(hB8.block _ (by omega)).trans hgb5
  have fg8:=A0b xg8
  obtain⟨vw0,vw1⟩:=hclb w8 hB8
  have hs9:FrB [gb] W5 ((w8.setCell ⟨gb,0,none⟩ (.slice i0 j0 l0)).setCell ⟨gb,1,none⟩ (.slice i1 j1 l1)):=hs8.trans (fr2 xg8) (fun i h=>h) (fun i h=>.inl h)
  refine hK.out _ _ ?_ (fun hHeld=>?_)
  ·(try dsimp only);with_reducible first|exact hs5|exact hs7|exact hs8|exact hs9
  clear hK K
  try simp only[pT,Act.put]
  refine tK (i:=16) (v:=?vj14) rfl (fun _ _ _ h=>h) ⟨by rfl,?hyj14⟩ (by assumption) ?_
  case hyj14=>(intro W hSw;obtain⟨⟨o1,o2⟩,o3,o4,o5⟩:=hcl W hSw;obtain⟨o6,o7⟩:=hcla W hSw;go_simp;first|done|with_reducible rfl)
  try simp only[pT,Act.put]
  refine tK (i:=17) (v:=?vj15) rfl (fun _ _ _ h=>h) ⟨by rfl,?hyj15⟩ (by assumption) ?_
  case hyj15=>(intro W hSw;obtain⟨⟨o1,o2⟩,o3,o4,o5⟩:=hcl W hSw;obtain⟨o6,o7⟩:=hcla W hSw;go_simp;first|done|with_reducible rfl)
  try simp only[pT,Act.put]
  refine tK (i:=18) (v:=?vj16) rfl (fun _ _ _ h=>h) ⟨by rfl,?hyj16⟩ (by assumption) ?_
  case hyj16=>(intro W hSw;obtain⟨⟨o1,o2⟩,o3,o4,o5⟩:=hcl W hSw;obtain⟨o6,o7⟩:=hcla W hSw;go_simp;first|done|with_reducible rfl)
  try simp only[pT,Act.put]
  refine tK (i:=19) (v:=?vj17) rfl (fun _ _ _ h=>h) ⟨by rfl,?hyj17⟩ (by assumption) ?_
  case hyj17=>(intro W hSw;obtain⟨⟨o1,o2⟩,o3,o4,o5⟩:=hcl W hSw;obtain⟨o6,o7⟩:=hcla W hSw;go_simp;first|done|with_reducible rfl)
  try simp only[pT,Act.put]
  refine wpAnyH_ready (rs:=[20]) (by kernel_rfl) (by simp) ?_
  refine AllReadyH.cons rfl (fun K hK=>?_) AllReadyH.nil
  go_simp
  refine hK.out _ _ ?_ (fun hHeld=>?_)
  ·(try dsimp only);with_reducible first|exact hs5|exact hs7|exact hs8|exact hs9
  clear hK K
  try simp only[pT,Act.put]
  refine tK (i:=21) (v:=?vj18) rfl (fun _ _ _ h=>h) ⟨by rfl,?hyj18⟩ (by assumption) ?_
  case hyj18=>(intro W hSw;obtain⟨⟨o1,o2⟩,o3,o4,o5⟩:=hcl W hSw;obtain⟨o6,o7⟩:=hcla W hSw;go_simp;first|done|with_reducible rfl)
  try simp only[pT,Act.put]
  refine wpAnyH_done (by kernel_rfl) ?_ _
  have hz8:=hB8.size
  have x8v:=(hB8.block _ (by omega)).trans x3
  have x8r:=(hB8.block _ (by omega)).trans x4
  obtain⟨p0,p1,p2,p3⟩:=A1r x8v
  obtain⟨r0,r1,r2,r3⟩:=A1r x8r
  have fr8:=A0b x8r
  have n1':¬ w.heap.size+3=gb:=by omega
  have n2':¬ w.heap.size+4=gb:=by omega
  have n3':¬ gb=w.heap.size+3:=by omega
  have n4':¬ gb=w.heap.size+4:=by omega
  have n5':¬ w.heap.size+3=w.heap.size+4:=by omega
  have n6':¬ w.heap.size+4=w.heap.size+3:=by omega
  go_wp2_with fail
  refine bodyPost_ret (v:=.tuple #[.agg #[.int .i64 mu,.slice b1 m1 d1,.slice b2 m2 d2,.slice (some ⟨gb,0,none⟩) 1 d3],.int .i64 E]) (by simp[results,Tryz.results129,go_sem, *]) rfl ?_
  have x9r:((w8.setCell ⟨gb,0,none⟩ (.slice i0 j0 l0)).setCell ⟨gb,1,none⟩ (.slice i1 j1 l1)).heap[w.heap.size+4]?=some (.cells #[.int .i64 0,.slice none 0 0,.slice none 0 0,.slice none 0 0] 54 (0,0)):=by rw[Below.heap_setCell _ _ _ _ (show w.heap.size+4≠gb from n2'),Below.heap_setCell _ _ _ _ (show w.heap.size+4≠gb from n2')];exact x8r
  have f4:=fr4 x9r (x0:=.int .i64 mu) (x1:=.slice b1 m1 d1) (x2:=.slice b2 m2 d2) (x3:=.slice (some ⟨gb,0,none⟩) 1 d3)
  refine⟨rfl,?_,fun hz=>?_⟩
  ·show FrB [gb] w _
   exact(FrB.of_below (F:=[gb]) hb5).trans (hs9.trans f4 (H:=[gb,w.heap.size+4]) (fun i h=>by rw[List.mem_singleton.1 h];simp) (fun i h=>.inl (by rw[List.mem_singleton.1 h];simp))) (fun i h=>h) (fun i h=>by simp only[List.mem_cons,List.not_mem_nil,or_false] at h;rcases h with rfl|rfl;exact .inl (by simp);exact .inr (by omega))
  ·obtain⟨M,hM,c,q1,q2,q3⟩:=HJ.out hz
   refine⟨M,hM,fun w'' hA=>?_⟩
   obtain⟨G,hG,hGF⟩:=hA
   have hgG:gb∉G:=fun h=>(hGF gb h).2 (by show gb∈[gb];simp)
   have hin:=OwnB.inB (d+1) q3
   have f5:=(fr2 xg8 (x0:=.slice i0 j0 l0) (x1:=.slice i1 j1 l1)).trans f4 (H:=[gb,w.heap.size+4]) (fun i h=>by rw[List.mem_singleton.1 h];simp) (fun i h=>.inl (by rw[List.mem_singleton.1 h];simp))
   have hoF:=OwnB.fr (d+1) [gb,w.heap.size+4] _ _ c q3 f5 (fun k hk hm=>by have h1:=(hin k hk).1;have h2:=hB7.size;simp only[List.mem_cons,List.not_mem_nil,or_false] at hm;omega)
   have hrd:=B5z q1 q2 (OwnB.fr (d+1) G _ _ c hoF hG (fun k hk hm=>by have h1:=(hin k hk).1;have h2:=hB7.size;have h3:=(hGF k hm).1;omega))
   obtain⟨cc0,cc1⟩:=B2c (v0:=.slice i0 j0 l0) (v1:=.slice i1 j1 l1) xg8 HS2.out
   refine⟨some ⟨gb,0,none⟩,1,d3,rfl,rfl,hb1',hb2',(fun e=>by cases e),fun u hu k r' hr'=>?_⟩
   cases hu
   match k,hr' with
   | 0,hr'=>
    obtain rfl:jnB g.msgs (d+1) M (LB.pl (d+1) s) (LB.pl (d+1) t)=r':=by simpa using hr'
    rw[Nat.zero_mul,A0f]
    refine⟨_,_,?_,?_,hrd.1,hrd.2⟩
    ·have e:∀ V:World,V=V:=fun _=>rfl
     rw[A1a (hG.blk (by simp;omega) hgG),A1a (V:=((w8.setCell ⟨gb,0,none⟩ (.slice i0 j0 l0)).setCell ⟨gb,1,none⟩ (.slice i1 j1 l1))) (by rw[Below.heap_setCell _ _ _ _ (show gb≠w.heap.size+4 from n4'),Below.heap_setCell _ _ _ _ (show gb≠w.heap.size+4 from n4'),Below.heap_setCell _ _ _ _ (show gb≠w.heap.size+4 from n4'),Below.heap_setCell _ _ _ _ (show gb≠w.heap.size+4 from n4')])]
     exact cc0
    ·rw[A0f,A1a (hG.blk (by simp;omega) hgG),A1a (V:=((w8.setCell ⟨gb,0,none⟩ (.slice i0 j0 l0)).setCell ⟨gb,1,none⟩ (.slice i1 j1 l1))) (by rw[Below.heap_setCell _ _ _ _ (show gb≠w.heap.size+4 from n4'),Below.heap_setCell _ _ _ _ (show gb≠w.heap.size+4 from n4'),Below.heap_setCell _ _ _ _ (show gb≠w.heap.size+4 from n4'),Below.heap_setCell _ _ _ _ (show gb≠w.heap.size+4 from n4')])]
     exact cc1
   | k+1,hr'=>simp at hr'
 ·skip
  go_simp
  refine hK.out _ _ ?_ (fun hHeld=>?_)
  ·(try dsimp only);with_reducible first|exact hs5|exact hs7|exact hs8|exact hs9
  clear hK K
  try simp only[pT,Act.put]
  refine wpAnyH_ready (rs:=[6]) (by kernel_rfl) (by simp) ?_
  refine AllReadyH.cons rfl (fun K hK=>?_) AllReadyH.nil
  go_simp
  refine(hmsg _ (BTr hb5 hD)).mono ?_
  rintro r w7 ⟨rfl,hb7⟩
  have hB7:Below W5.heap.size W5 w7:=BTr hD hb7
  have hs7:FrB [gb] W5 w7:=FrB.of_below hB7
  obtain⟨vv0,vv1⟩:=hclb w7 hB7
  have hjw:=hjn w7 (BTr hb5 hB7)
  refine hK.out _ _ ?_ (fun hHeld=>?_)
  ·(try dsimp only);with_reducible first|exact hs5|exact hs7|exact hs8|exact hs9
  clear hK K
  try simp only[pT,Act.put]
  refine wpAnyH_ready (rs:=[15]) (by kernel_rfl) (by simp) ?_
  refine AllReadyH.cons rfl (fun K hK=>?_) AllReadyH.nil
  go_simp
  refine hjw.mono ?_
  rintro r w8 ⟨i0,j0,l0,i1,j1,l1,rfl,HJ,hb8⟩
  have hB8:Below W5.heap.size W5 w8:=BTr hB7 hb8
  have hs8:FrB [gb] W5 w8:=FrB.of_below hB8
  have xg8:=(hB8.block _ (by omega)).trans hgb5
  have fg8:=A0b xg8
  obtain⟨vw0,vw1⟩:=hclb w8 hB8
  have hs9:FrB [gb] W5 ((w8.setCell ⟨gb,0,none⟩ (.slice i0 j0 l0)).setCell ⟨gb,1,none⟩ (.slice i1 j1 l1)):=hs8.trans (fr2 xg8) (fun i h=>h) (fun i h=>.inl h)
  refine hK.out _ _ ?_ (fun hHeld=>?_)
  ·(try dsimp only);with_reducible first|exact hs5|exact hs7|exact hs8|exact hs9
  clear hK K
  try simp only[pT,Act.put]
  refine tK (i:=16) (v:=?vj19) rfl (fun _ _ _ h=>h) ⟨by rfl,?hyj19⟩ (by assumption) ?_
  case hyj19=>(intro W hSw;obtain⟨⟨o1,o2⟩,o3,o4,o5⟩:=hcl W hSw;obtain⟨o6,o7⟩:=hcla W hSw;go_simp;first|done|with_reducible rfl)
  try simp only[pT,Act.put]
  refine tK (i:=17) (v:=?vj20) rfl (fun _ _ _ h=>h) ⟨by rfl,?hyj20⟩ (by assumption) ?_
  case hyj20=>(intro W hSw;obtain⟨⟨o1,o2⟩,o3,o4,o5⟩:=hcl W hSw;obtain⟨o6,o7⟩:=hcla W hSw;go_simp;first|done|with_reducible rfl)
  try simp only[pT,Act.put]
  refine tK (i:=18) (v:=?vj21) rfl (fun _ _ _ h=>h) ⟨by rfl,?hyj21⟩ (by assumption) ?_
  case hyj21=>(intro W hSw;obtain⟨⟨o1,o2⟩,o3,o4,o5⟩:=hcl W hSw;obtain⟨o6,o7⟩:=hcla W hSw;go_simp;first|done|with_reducible rfl)
  try simp only[pT,Act.put]
  refine tK (i:=19) (v:=?vj22) rfl (fun _ _ _ h=>h) ⟨by rfl,?hyj22⟩ (by assumption) ?_
  case hyj22=>(intro W hSw;obtain⟨⟨o1,o2⟩,o3,o4,o5⟩:=hcl W hSw;obtain⟨o6,o7⟩:=hcla W hSw;go_simp;first|done|with_reducible rfl)
  try simp only[pT,Act.put]
  refine wpAnyH_ready (rs:=[20]) (by kernel_rfl) (by simp) ?_
  refine AllReadyH.cons rfl (fun K hK=>?_) AllReadyH.nil
  go_simp
  refine hK.out _ _ ?_ (fun hHeld=>?_)
  ·(try dsimp only);with_reducible first|exact hs5|exact hs7|exact hs8|exact hs9
  clear hK K
  try simp only[pT,Act.put]
  refine tK (i:=21) (v:=?vj23) rfl (fun _ _ _ h=>h) ⟨by rfl,?hyj23⟩ (by assumption) ?_
  case hyj23=>(intro W hSw;obtain⟨⟨o1,o2⟩,o3,o4,o5⟩:=hcl W hSw;obtain⟨o6,o7⟩:=hcla W hSw;go_simp;first|done|with_reducible rfl)
  try simp only[pT,Act.put]
  refine wpAnyH_done (by kernel_rfl) ?_ _
  have hz8:=hB8.size
  have x8v:=(hB8.block _ (by omega)).trans x3
  have x8r:=(hB8.block _ (by omega)).trans x4
  obtain⟨p0,p1,p2,p3⟩:=A1r x8v
  obtain⟨r0,r1,r2,r3⟩:=A1r x8r
  have fr8:=A0b x8r
  have n1':¬ w.heap.size+3=gb:=by omega
  have n2':¬ w.heap.size+4=gb:=by omega
  have n3':¬ gb=w.heap.size+3:=by omega
  have n4':¬ gb=w.heap.size+4:=by omega
  have n5':¬ w.heap.size+3=w.heap.size+4:=by omega
  have n6':¬ w.heap.size+4=w.heap.size+3:=by omega
  go_wp2_with fail
  refine bodyPost_ret (v:=.tuple #[.agg #[.int .i64 mu,.slice b1 m1 d1,.slice b2 m2 d2,.slice (some ⟨gb,0,none⟩) 1 d3],.int .i64 E]) (by simp[results,Tryz.results129,go_sem, *]) rfl ?_
  have x9r:((w8.setCell ⟨gb,0,none⟩ (.slice i0 j0 l0)).setCell ⟨gb,1,none⟩ (.slice i1 j1 l1)).heap[w.heap.size+4]?=some (.cells #[.int .i64 0,.slice none 0 0,.slice none 0 0,.slice none 0 0] 54 (0,0)):=by rw[Below.heap_setCell _ _ _ _ (show w.heap.size+4≠gb from n2'),Below.heap_setCell _ _ _ _ (show w.heap.size+4≠gb from n2')];exact x8r
  have f4:=fr4 x9r (x0:=.int .i64 mu) (x1:=.slice b1 m1 d1) (x2:=.slice b2 m2 d2) (x3:=.slice (some ⟨gb,0,none⟩) 1 d3)
  refine⟨rfl,?_,fun hz=>?_⟩
  ·show FrB [gb] w _
   exact(FrB.of_below (F:=[gb]) hb5).trans (hs9.trans f4 (H:=[gb,w.heap.size+4]) (fun i h=>by rw[List.mem_singleton.1 h];simp) (fun i h=>.inl (by rw[List.mem_singleton.1 h];simp))) (fun i h=>h) (fun i h=>by simp only[List.mem_cons,List.not_mem_nil,or_false] at h;rcases h with rfl|rfl;exact .inl (by simp);exact .inr (by omega))
  ·obtain⟨M,hM,c,q1,q2,q3⟩:=HJ.out hz
   refine⟨M,hM,fun w'' hA=>?_⟩
   obtain⟨G,hG,hGF⟩:=hA
   have hgG:gb∉G:=fun h=>(hGF gb h).2 (by show gb∈[gb];simp)
   have hin:=OwnB.inB (d+1) q3
   have f5:=(fr2 xg8 (x0:=.slice i0 j0 l0) (x1:=.slice i1 j1 l1)).trans f4 (H:=[gb,w.heap.size+4]) (fun i h=>by rw[List.mem_singleton.1 h];simp) (fun i h=>.inl (by rw[List.mem_singleton.1 h];simp))
   have hoF:=OwnB.fr (d+1) [gb,w.heap.size+4] _ _ c q3 f5 (fun k hk hm=>by have h1:=(hin k hk).1;have h2:=hB7.size;simp only[List.mem_cons,List.not_mem_nil,or_false] at hm;omega)
   have hrd:=B5z q1 q2 (OwnB.fr (d+1) G _ _ c hoF hG (fun k hk hm=>by have h1:=(hin k hk).1;have h2:=hB7.size;have h3:=(hGF k hm).1;omega))
   obtain⟨cc0,cc1⟩:=B2c (v0:=.slice i0 j0 l0) (v1:=.slice i1 j1 l1) xg8 HS2.out
   refine⟨some ⟨gb,0,none⟩,1,d3,rfl,rfl,hb1',hb2',(fun e=>by cases e),fun u hu k r' hr'=>?_⟩
   cases hu
   match k,hr' with
   | 0,hr'=>
    obtain rfl:jnB g.msgs (d+1) M (LB.pl (d+1) s) (LB.pl (d+1) t)=r':=by simpa using hr'
    rw[Nat.zero_mul,A0f]
    refine⟨_,_,?_,?_,hrd.1,hrd.2⟩
    ·have e:∀ V:World,V=V:=fun _=>rfl
     rw[A1a (hG.blk (by simp;omega) hgG),A1a (V:=((w8.setCell ⟨gb,0,none⟩ (.slice i0 j0 l0)).setCell ⟨gb,1,none⟩ (.slice i1 j1 l1))) (by rw[Below.heap_setCell _ _ _ _ (show gb≠w.heap.size+4 from n4'),Below.heap_setCell _ _ _ _ (show gb≠w.heap.size+4 from n4'),Below.heap_setCell _ _ _ _ (show gb≠w.heap.size+4 from n4'),Below.heap_setCell _ _ _ _ (show gb≠w.heap.size+4 from n4')])]
     exact cc0
    ·rw[A0f,A1a (hG.blk (by simp;omega) hgG),A1a (V:=((w8.setCell ⟨gb,0,none⟩ (.slice i0 j0 l0)).setCell ⟨gb,1,none⟩ (.slice i1 j1 l1))) (by rw[Below.heap_setCell _ _ _ _ (show gb≠w.heap.size+4 from n4'),Below.heap_setCell _ _ _ _ (show gb≠w.heap.size+4 from n4'),Below.heap_setCell _ _ _ _ (show gb≠w.heap.size+4 from n4'),Below.heap_setCell _ _ _ _ (show gb≠w.heap.size+4 from n4')])]
     exact cc1
   | k+1,hr'=>simp at hr'
end L
end Go.Proofs.YtcagbdokbnpdfaaGreatDoor
namespace Go.Proofs.YtcagbdokbnpdfaaGreatDoor
namespace L
open Go.RowKit
set_option linter.unusedVariables false
section
variable {β:Type}
end
end L
end Go.Proofs.YtcagbdokbnpdfaaGreatDoor
