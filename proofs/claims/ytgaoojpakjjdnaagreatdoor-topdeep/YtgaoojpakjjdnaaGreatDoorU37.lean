import Derived.Test.YtgaoojpakjjdnaaGreatDoorU36
import Derived.Test.YtgaoojpakjjdnaaGreatDoorU30
import Derived.Test.YtgaoojpakjjdnaaGreatDoorU22
import Derived.Test.YtgaoojpakjjdnaaGreatDoorU04
set_option maxHeartbeats 32000000
set_option maxRecDepth 100000
namespace Go.Proofs.YtgaoojpakjjdnaaGreatDoor
namespace L
open Go.RowKit
def A4z {β:Type}(deep:List UInt8→β→List UInt8×Int) (x:FI) (v:VI β):List RI×Int:=
 if x.kind=10 then((A5z (deep x.type) [] v.subs).1.map (C3x x.number),(A5z (deep x.type) [] v.subs).2)
 else if A7a x.kind=2 then(v.bytes.map (C3x x.number),0)
 else if x.many=true then([C3x x.number (A2k (A7a x.kind) (v.bits.map (B0h x.kind)))],0)
 else([⟨x.number,A7a x.kind,B0h x.kind (v.bits.headD 0),[]⟩],0)
theorem D0j (w:World) (b:List UInt8) (ao:Option Addr) (n cap:Nat):RdL 1 ZcAt (w.alloc (.cells #[.slice ao n cap] 32)) (.slice (some ⟨w.heap.size,0,none⟩) 1 1) [(b,((ao,n,cap):PV))]:=by
 refine⟨_,1,1,rfl,rfl,Nat.le_refl _,by unfold maxLen;omega,(fun e=>by cases e),fun x hx k a ha=>?_⟩
 cases hx
 cases k with
 | succ k=>simp at ha
 | zero=>
  have ha:(b,((ao,n,cap):PV))=a:=by simpa using ha
  subst ha
  rw[A0d]
  exact A0a (heap_alloc_new w _) 0 _ rfl
theorem B5q {d:Nat}{W w:World}(hW:Below W.heap.size W w){v1 v2 v3:Value}{v:VI (BI d)}{Q:BI d→Prop}(h1:RdL 1 UAt w v1 v.bits) (h2:RdL 1 ZAt W v2 v.bytes) (h3:RdL 2 (BAt d) w v3 v.subs) (hv:VSm Q v) (x:FI) (ah:x.kind≠10→A7a x.kind≠2→x.many=false→v.bits≠[]){fn:Nat}{cap:Array Value}(bn:∀ (args:Array Value) (w:World),(callFunc fn args).run Tryz.prog w = .ok (.enter fn args) w)
  {deep:List UInt8→BI d→List UInt8×Int}(ag:x.kind=10→∀ y∈v.subs,CDeep d w fn cap x.type (deep x.type) y) :
  Calls Tryz.prog 36 #[fv x,.agg #[.int .i64 v.number,v1,v2,v3],.func (.func fn) #[] cap] w fun e w'=>∃ ao n c,e = .returned (.tuple #[.slice ao n c,.int .i64 (A4z deep x v).2])∧RecL W w' w.heap.size (.slice ao n c) (A4z deep x v).1∧Below w.heap.size w w':=by
 obtain⟨df,hv2,hv3,hv4,dg,di⟩:=hv
 obtain⟨a1,n1,c1,rfl,H1,_⟩:=h1.shape
 obtain⟨a2,n2,c2,rfl,H2,_⟩:=h2.shape
 obtain⟨a3,n3,c3,rfl,H3,_⟩:=h3.shape
 obtain⟨q,Hq⟩:∃ q,Hid (A4z deep x v=q):=⟨_,rfl⟩
 rw[Hq.out]
 obtain⟨W0,bc⟩:∃ W0,Hid (W0=(w.alloc (.cells #[.string (S x.name),.int .i64 x.number,.int .i64 x.kind,.string (S x.type),.bool x.many,.int .i64 x.choice] 40)).alloc (.cells #[.int .i64 v.number,.slice a1 n1 c1,.slice a2 n2 c2,.slice a3 n3 c3] 62)):=⟨_,rfl⟩
 have hb0:Below w.heap.size w W0:=by rw[bc.out];exact B3a _ _ _
 have hz0:w.heap.size+2≤W0.heap.size:=by rw[bc.out];simp
 have x0:W0.heap[w.heap.size]?=some (.cells #[.string (S x.name),.int .i64 x.number,.int .i64 x.kind,.string (S x.type),.bool x.many,.int .i64 x.choice] 40 (0,0)):=by rw[bc.out];exact A0l _ _ _
 have x1:W0.heap[w.heap.size+1]?=some (.cells #[.int .i64 v.number,.slice a1 n1 c1,.slice a2 n2 c2,.slice a3 n3 c3] 62 (0,0)):=by rw[bc.out];exact A0i _ _ _
 obtain⟨Hw,ba⟩:∃ Hw,Hid (Hw=A7a x.kind):=⟨_,rfl⟩
 have bp:=B1y x.kind
 rw[←ba.out] at bp ah
 have hcb:∀ V,Below W0.heap.size W0 V→Calls Tryz.prog 84 #[.int .i64 x.kind,.slice a1 n1 c1] V fun e w'=>∃ ao n cap,e = .returned (.slice ao n cap)∧Row ekU w' V.heap.size (.slice ao n cap) (v.bits.map (B0h x.kind))∧Below V.heap.size V w':=fun V hV=>C4d (h1.below UAt.stays (KBT hb0 hV)) hv2 (by omega) x.kind
 have hle:∀ y∈v.bits.map (B0h x.kind),y≤18446744073709551615:=fun y hy=>by
  obtain⟨n,hn,rfl⟩:=List.mem_map.1 hy
  exact B4u _ _ (hv2 n hn)
 have cg:(v.bits.map (B0h x.kind)).length≤1048576:=by rw[List.length_map];exact df
 obtain⟨L,HL⟩:∃ L,Hid (L=v.bits.map (B0h x.kind)):=⟨_,rfl⟩
 rw[←HL.out] at hcb hle cg
 have au:∀ V,Below W0.heap.size W0 V→Below W0.heap.size W0 V∧(V.cell? ⟨w.heap.size,0,none⟩=some (.string (S x.name))∧V.cell? ⟨w.heap.size,1,none⟩=some (.int .i64 x.number)∧V.cell? ⟨w.heap.size,2,none⟩=some (.int .i64 x.kind)∧V.cell? ⟨w.heap.size,3,none⟩=some (.string (S x.type))∧V.cell? ⟨w.heap.size,4,none⟩=some (.bool x.many)∧V.cell? ⟨w.heap.size,5,none⟩=some (.int .i64 x.choice))∧V.cell? ⟨w.heap.size+1,0,none⟩=some (.int .i64 v.number)∧V.cell? ⟨w.heap.size+1,1,none⟩=some (.slice a1 n1 c1)∧V.cell? ⟨w.heap.size+1,2,none⟩=some (.slice a2 n2 c2)∧V.cell? ⟨w.heap.size+1,3,none⟩=some (.slice a3 n3 c3):=fun V hV=>⟨hV,A8g ((hV.block _ (by omega)).trans x0),C0i ((hV.block _ (by omega)).trans x1)⟩
 have hd:Below W0.heap.size W0 W0.drew:=(Below.refl _ _).drew
 have bt:=hcb W0.drew hd
 unfold fv
 go_enter Tryz.func36,Tryz.ntmps36
 go_wp2_with fail
 rw[←bc.out]
 go_cut [8,9] from 10 to 17 (fun s8 s9 wc=>∃ (ab:Option Addr) (nb cb:Nat),s8 = .int .i64 Hw∧s9 = .slice ab nb cb∧Row ekU wc W0.heap.size (.slice ab nb cb) L∧Below W0.heap.size W0 wc)
 case first=>
  go_region_held3 (fun V=>Below W0.heap.size W0 V∧(V.cell? ⟨w.heap.size,0,none⟩=some (.string (S x.name))∧V.cell? ⟨w.heap.size,1,none⟩=some (.int .i64 x.number)∧V.cell? ⟨w.heap.size,2,none⟩=some (.int .i64 x.kind)∧V.cell? ⟨w.heap.size,3,none⟩=some (.string (S x.type))∧V.cell? ⟨w.heap.size,4,none⟩=some (.bool x.many)∧V.cell? ⟨w.heap.size,5,none⟩=some (.int .i64 x.choice))∧V.cell? ⟨w.heap.size+1,0,none⟩=some (.int .i64 v.number)∧V.cell? ⟨w.heap.size+1,1,none⟩=some (.slice a1 n1 c1)∧V.cell? ⟨w.heap.size+1,2,none⟩=some (.slice a2 n2 c2)∧V.cell? ⟨w.heap.size+1,3,none⟩=some (.slice a3 n3 c3)) ((with_reducible refine au _ ?_;with_reducible (first|exact hd|exact ak))) ((first|(go_at_call 83;refine(bp _).mono ?_;rintro e wm ⟨rfl,rfl⟩)|(go_at_call 84;refine bt.mono ?_;rintro e w1 ⟨ab,nb,cb,rfl,hr1,hb1⟩;have ak:=KBT hd hb1)))
  all_goals
   go_wp2_with fail
   go_meet
  all_goals exact⟨ab,nb,cb,rfl,rfl,hr1,ak⟩
 case rest=>
  obtain⟨ab,nb,cb,rfl,rfl,bq,ak⟩:=hcut
  have ac:Below w.heap.size w wc:=KBT hb0 ak
  obtain⟨_,⟨t0,t1,t2,t3,t4,t5⟩,t6,t7,t8,t9⟩:=au wc ak
  have hz1:=ak.size
  clear bt hcb bp
  by_cases e10:x.kind=10
  ·have bv:(x.kind == 10)=true:=by simp[e10]
   have HN:Hid (q=((A5z (deep x.type) [] v.subs).1.map (C3x x.number),(A5z (deep x.type) [] v.subs).2)):=by show _=_;rw[←Hq.out,A4z,if_pos e10]
   have hc:=B0t W (h3.below (BAt.stays d) ac) dg x bn (cap:=cap) (f:=deep x.type) (fun y hy=>(ag e10 y hy).below ac)
   unfold fv at hc
   clear e10 ag ah au
   go_wp2_with fail
   refine hc.mono ?_
   rintro e w2 ⟨a,m,c,rfl,hr,hb⟩
   go_wp2
   go_ret2
   exact⟨a,m,c,by rw[HN.out];rfl,by rw[HN.out];exact hr.mono ac.size,KBT ac hb⟩
  ·have bv:(x.kind == 10)=false:=by simp[e10]
   by_cases e2:Hw=2
   ·have b2:(Hw == 2)=true:=by simp[e2]
    have HN:Hid (q=(v.bytes.map (C3x x.number),0)):=by show _=_;rw[←Hq.out,A4z,if_neg e10,if_pos (by rw[←ba.out];exact e2)]
    obtain⟨l',k1,k2,k3⟩:=D1i h2
    have hc:=A7v (W:=W) (base:=w.heap.size) ((k2.below ZcAt.stays hW).below ZcAt.stays ac) (fun z hz=>.inl (k3 z hz)) ac.size (by rw[←List.length_map (f:=Prod.fst),k1];exact hv3) x.number
    clear e10 ag ah au e2
    go_wp2_with fail
    refine hc.mono ?_
    rintro e w2 ⟨a,m,c,rfl,hr,hb⟩
    have cw:RecL W w2 w.heap.size (.slice a m c) (v.bytes.map (C3x x.number)):=by rw[←k1,List.map_map];exact hr
    go_wp2
    go_ret2
    exact⟨a,m,c,by rw[HN.out];rfl,by rw[HN.out];exact cw,KBT ac hb⟩
   ·have b2:(Hw == 2)=false:=by simp[e2]
    by_cases aw:x.many=true
    ·have HN:Hid (q=([C3x x.number (A2k Hw L)],0)):=by show _=_;rw[←Hq.out,A4z,if_neg e10,if_neg (by rw[←ba.out];exact e2),if_pos aw,←ba.out,←HL.out]
     have bu:∀ V,Below wc.heap.size wc V→Calls Tryz.prog 87 #[.int .i64 Hw,.slice ab nb cb] V fun e w'=>∃ ao n cap,e = .returned (.slice ao n cap)∧Row ekY w' V.heap.size (.slice ao n cap) (A2k Hw L)∧Below V.heap.size V w':=fun V hV=>B9f (bq.below hV).rdU hle (by omega) Hw
     have hsz:∀ (V:World) (a:Option Addr) (m c B:Nat),w.heap.size≤B→B≤V.heap.size→Row ekY V B (.slice a m c) (A2k Hw L)→Calls Tryz.prog 86 #[.int .i64 x.number,.slice (some ⟨V.heap.size,0,none⟩) 1 1] (V.alloc (.cells #[.slice a m c] 32)) fun e w'=>∃ ao n cap,e = .returned (.slice ao n cap)∧RecL W w' w.heap.size (.slice ao n cap) [C3x x.number (A2k Hw L)]∧Below (V.alloc (.cells #[.slice a m c] 32)).heap.size (V.alloc (.cells #[.slice a m c] 32)) w':=fun V a m c B ak bg hr=>by
      have:=A7v (W:=W) (base:=w.heap.size) (D0j V (A2k Hw L) a m c) (fun z hz=>by
       rw[List.mem_singleton] at hz;subst hz
       exact .inr ((hr.mono ak).below ((Below.refl _ _).alloc (Nat.le_refl _) _))) (by simp;omega) (by simp) x.number
      exact this
     have bl:∀ V,Below wc.heap.size wc V→Below wc.heap.size wc V∧V.cell? ⟨w.heap.size,1,none⟩=some (.int .i64 x.number):=fun V hV=>⟨hV,(au V (KBT ak hV)).2.1.2.1⟩
     have bh:Below wc.heap.size wc wc.drew:=(Below.refl _ _).drew
     have cu:=bu wc.drew bh
     rw[aw] at t4
     clear e10 ag ah au e2 bu
     go_wp2_with fail
     go_region_held3 (fun V=>Below wc.heap.size wc V∧V.cell? ⟨w.heap.size,1,none⟩=some (.int .i64 x.number)) ((with_reducible refine bl _ ?_;with_reducible (first|exact bh|exact bg|exact A8o bg (Nat.le_refl _) _|exact br))) ((first|(go_at_call 87;refine cu.mono ?_;rintro e w2 ⟨ap,np,cp,rfl,hr2,hb2⟩;have bg:=KBT bh hb2)|(go_at_call 86;refine(hsz w2 ap np cp _ (Nat.le_trans ac.size bh.size) hb2.size hr2).mono ?_;rintro e w3 ⟨az,nz,cz,rfl,hr3,hb3⟩;have br:=KBT (A8o bg (Nat.le_refl _) _) hb3)))
     all_goals
      clear hr2
      go_wp2
      go_ret2
      exact⟨az,nz,cz,by rw[HN.out];rfl,by rw[HN.out];exact hr3,KBT ac br⟩
    ·have aw:x.many=false:=by simpa using aw
     have hne:=ah e10 e2 aw
     obtain⟨b0,bs,aj⟩:∃ b0 bs,v.bits=b0::bs:=by
      cases hbx:v.bits with
      | nil=>exact absurd hbx hne
      | cons b0 bs=>exact⟨b0,bs,rfl⟩
     have HN:Hid (q=([⟨x.number,Hw,B0h x.kind b0,[]⟩],0)):=by show _=_;rw[←Hq.out,A4z,if_neg e10,if_neg (by rw[←ba.out];exact e2),if_neg (by simp[aw]),←ba.out,aj];rfl
     have bk:L[0]?=some (B0h x.kind b0):=by rw[HL.out,aj];rfl
     obtain⟨gb,rfl,hcb⟩:=bq.get bk
     have s0:wc.cell? ⟨gb,0,none⟩=some (.int .u64 ((B0h x.kind b0:Nat):Int)):=by simpa [ekU,D0w] using hcb 0 _ rfl
     have dh:0 < nb:=by rw[bq.len];exact(List.getElem?_eq_some_iff.1 bk).1
     have cj:(0:Int) < (nb:Int):=by omega
     obtain⟨y,Hy⟩:∃ y,Hid (B0h x.kind b0=y):=⟨_,rfl⟩
     rw[Hy.out] at s0 HN
     rw[aw] at t4
     clear e10 ag ah au e2 hcb bk aj hne
     have hrow:RecL W (wc.alloc (.cells #[.int .i64 x.number,.int .i64 Hw,.int .u64 (y:Int),.slice none 0 0] 106)).drew w.heap.size (.slice (some ⟨wc.heap.size,0,none⟩) 1 1) [⟨x.number,Hw,y,[]⟩]:=by
      refine⟨[(⟨x.number,Hw,y,[]⟩,(none,0,0))],(Row.one ekR wc (⟨x.number,Hw,y,[]⟩,(none,0,0)) ac.size).keep fun _ _ _=>rfl,rfl,fun r hr=>?_⟩
      rw[List.mem_singleton] at hr
      subst hr
      exact .inl (RdL.nil _ _ _)
     have bw:Below w.heap.size w (wc.alloc (.cells #[.int .i64 x.number,.int .i64 Hw,.int .u64 (y:Int),.slice none 0 0] 106)).drew:=(KBT ac ((Below.refl _ _).alloc (Nat.le_refl _) _)).drew
     go_wp2_with fail
     go_region
     all_goals
      go_wp2_with fail
      go_ret2
      exact⟨_,_,_,by rw[HN.out];rfl,by rw[HN.out];exact hrow,bw⟩
open Go.RowKit
def A3w {β:Type}(deep:List UInt8→β→List UInt8×Int) (fs:List FI):List RI→List (VI β)→List RI×Int
 | acc,[]=>(acc,0)
 | acc,v::r=>if (A4z deep (A2e fs v.number) v).2≠0 then([],(A4z deep (A2e fs v.number) v).2) else A3w deep fs (acc++(A4z deep (A2e fs v.number) v).1) r
theorem C2n {β:Type}{deep:List UInt8→β→List UInt8×Int}{fs:List FI}{l:List (VI β)}{k:Nat}{v:VI β}(h:l[k]?=some v) (acc:List RI):A3w deep fs acc (l.drop k)=if (A4z deep (A2e fs v.number) v).2≠0 then([],(A4z deep (A2e fs v.number) v).2) else A3w deep fs (acc++(A4z deep (A2e fs v.number) v).1) (l.drop (k+1)):=by
 obtain⟨hk,rfl⟩:=List.getElem?_eq_some_iff.1 h
 rw[List.drop_eq_getElem_cons hk]
 rfl
def C9g {β:Type}(deep:List UInt8→β→List UInt8×Int) (m:MI) (b:BO β):List UInt8×Int:=
 if (A3w deep m.fields [] b.vals).2≠0 then([],(A3w deep m.fields [] b.vals).2) else A6g [] ((A3w deep m.fields [] b.vals).1++b.unk)
def D0q:MI:=⟨[],[],[]⟩
def B0i (g:GI) (t:List UInt8):MI:=(g.msgs.find? fun m=>decide (m.name=t)).getD D0q
def A3k (g:GI):(d:Nat)→MI→BI d→List UInt8×Int
 | 0,_,_=>([],0)
 | d+1,m,b=>C9g (fun t x=>A3k g d (B0i g t) x) m b
def D1y {β:Type}(g:GI) (Q:List UInt8→β→Prop) (m:MI) (v:VI β):Prop:=
 (∃ f∈m.fields,f.number=v.number)∧
 ((A2e m.fields v.number).kind≠10→A7a (A2e m.fields v.number).kind≠2→(A2e m.fields v.number).many=false→v.bits≠[])∧
 ((A2e m.fields v.number).kind=10→(∃ mm∈g.msgs,mm.name=(A2e m.fields v.number).type)∧∀ s∈v.subs,Q (A2e m.fields v.number).type s)
def D1k {β:Type}(g:GI) (Q:List UInt8→β→Prop) (m:MI) (b:BO β):Prop:=b.vals.length≤1048576∧∀ v∈b.vals,D1y g Q m v
def C9h (g:GI):(d:Nat)→MI→BI d→Prop
 | 0,_,_=>True
 | d+1,m,b=>D1k g (fun t x=>C9h g d (B0i g t) x) m b
theorem B2u:∀ (l:List RI) (acc:List UInt8),acc.length≤4000→(A6g acc l).1.length≤4000
 | [],acc,h=>h
 | r::l,acc,_=>by
  rw[A6g]
  split
  ·simp
  ·split
   ·simp
   ·exact B2u l _ (by omega)
theorem B4l (g:GI):∀ (d:Nat) (m:MI) (b:BI d),(A3k g d m b).1.length≤4000
 | 0,_,_=>by simp[A3k]
 | _+1,m,b=>by
  show(C9g _ m b).1.length≤4000
  unfold C9g
  split
  ·simp
  ·exact B2u _ _ (by simp)
theorem C2y {β:Type}(f : β→List UInt8×Int) (hf:∀ x,(f x).1.length≤4000):∀ (l:List β) (acc:List (List UInt8)),(∀ z∈acc,z.length≤4000)→(∀ z∈(A5z f acc l).1,z.length≤4000)∧(A5z f acc l).1.length≤acc.length+l.length
 | [],acc,h=>⟨h,by simp[A5z]⟩
 | b::r,acc,h=>by
  rw[A5z]
  split
  ·exact⟨(fun z hz=>by cases hz),by simp⟩
  ·have:=C2y f hf r (acc++[(f b).1]) fun z hz=>by
    rcases List.mem_append.1 hz with hz|hz
    ·exact h z hz
    ·rw[List.mem_singleton] at hz;subst hz;exact hf b
   refine⟨this.1,?_⟩
   have h2:=this.2
   rw[List.length_append] at h2
   simp only[List.length_cons,List.length_nil] at h2 ⊢
   omega
def RSm (r:RI):Prop:=r.bits≤18446744073709551615∧r.bytes.length≤100000000
theorem B7c {β:Type}{Q : β→Prop}(deep:List UInt8→β→List UInt8×Int) (hf:∀ t x,(deep t x).1.length≤4000) (x:FI) (v:VI β) (hv:VSm Q v):(∀ r∈(A4z deep x v).1,RSm r)∧(A4z deep x v).1.length≤1048576:=by
 obtain⟨h1,h2,h3,h4,h5,_⟩:=hv
 unfold A4z
 split
 ·have:=C2y (deep x.type) (hf x.type) v.subs [] (fun z hz=>by cases hz)
  refine⟨fun r hr=>?_,?_⟩
  ·obtain⟨z,hz,rfl⟩:=List.mem_map.1 hr
   have:=this.1 z hz
   exact⟨Nat.zero_le _,by show z.length≤_;omega⟩
  ·rw[List.length_map];have:=this.2;simp only[List.length_nil] at this;omega
 ·split
  ·refine⟨fun r hr=>?_,by rw[List.length_map];exact h3⟩
   obtain⟨z,hz,rfl⟩:=List.mem_map.1 hr
   have:=h4 z hz
   exact⟨Nat.zero_le _,by show z.length≤_;omega⟩
  ·split
   ·refine⟨fun r hr=>?_,by simp⟩
    rw[List.mem_singleton] at hr
    subst hr
    have:=B9g (A7a x.kind) (v.bits.map (B0h x.kind))
    rw[List.length_map] at this
    exact⟨Nat.zero_le _,by show(A2k _ _).length≤_;omega⟩
   ·refine⟨fun r hr=>?_,by simp⟩
    rw[List.mem_singleton] at hr
    subst hr
    refine⟨?_,by simp⟩
    show B0h x.kind (v.bits.headD 0)≤_
    cases hb:v.bits with
    | nil=>exact B4u _ _ (by simp)
    | cons a r=>exact B4u _ _ (h2 a (by rw[hb];simp))
theorem B4a {β:Type}{Q : β→Prop}(deep:List UInt8→β→List UInt8×Int) (hf:∀ t x,(deep t x).1.length≤4000) (fs:List FI):∀ (l:List (VI β)) (acc:List RI),(∀ v∈l,VSm Q v)→(∀ r∈acc,RSm r)→(∀ r∈(A3w deep fs acc l).1,RSm r)∧(A3w deep fs acc l).1.length≤acc.length+l.length*1048576
 | [],acc,_,h=>⟨h,by simp[A3w]⟩
 | v::r,acc,hv,h=>by
  rw[A3w]
  split
  ·exact⟨(fun z hz=>by cases hz),by simp⟩
  ·have h0:=B7c deep hf (A2e fs v.number) v (hv v (by simp))
   have:=B4a deep hf fs r (acc++(A4z deep (A2e fs v.number) v).1) (fun v hv'=>hv v (List.mem_cons_of_mem _ hv')) fun z hz=>by
    rcases List.mem_append.1 hz with hz|hz
    ·exact h z hz
    ·exact h0.1 z hz
   refine⟨this.1,?_⟩
   have h2:=this.2
   rw[List.length_append] at h2
   have h3:=h0.2
   rw[List.length_cons,Nat.succ_mul]
   omega
theorem C8m {l:List MI}{t:List UInt8}(h:∃ m∈l,m.name=t):∃ k:Nat,A0m (fun m=>decide (m.name=t)) l=(k:Int)∧l[k]?=some ((l.find? fun m=>decide (m.name=t)).getD D0q)∧((l.find? fun m=>decide (m.name=t)).getD D0q).name=t∧(l.find? fun m=>decide (m.name=t)).getD D0q∈l:=by
 unfold A0m
 induction l with
 | nil=>obtain⟨f,hf,_⟩:=h;cases hf
 | cons a r ih=>
  by_cases ha:a.name=t
  ·refine⟨0,?_,?_,?_,?_⟩ <;> simp[List.findIdx?_cons,ha]
  ·have h':∃ f∈r,f.name=t:=by
    obtain⟨f,hf,hn⟩:=h
    rcases List.mem_cons.1 hf with rfl|hf
    ·exact absurd hn ha
    ·exact⟨f,hf,hn⟩
   obtain⟨k,h1,h2,h3,h4⟩:=ih h'
   have e:(a::r).find? (fun f=>decide (f.name=t))=r.find? fun f=>decide (f.name=t):=by simp[ha]
   rw[e]
   refine⟨k+1,?_,by simpa using h2,h3,List.mem_cons_of_mem _ h4⟩
   rw[List.findIdx?_cons]
   simp only[ha,decide_false,Bool.false_eq_true,if_false]
   cases hx:r.findIdx? (fun f=>decide (f.name=t)) with
   | none=>rw[hx] at h1;simp at h1
   | some j=>rw[hx] at h1;simp at h1 ⊢;omega
theorem D0a {g:GI}{t:List UInt8}(h:∃ m∈g.msgs,m.name=t):∃ k:Nat,A0m (fun m=>decide (m.name=t)) g.msgs=(k:Int)∧g.msgs[k]?=some (B0i g t)∧(B0i g t).name=t∧B0i g t∈g.msgs:=C8m h
def OSw {β:Type}(Q : β→Prop) (b:BO β):Prop:=(∀ v∈b.vals,VSm Q v)∧b.unk.length*48≤reachBytes∧∀ r∈b.unk,r.bits≤18446744073709551615∧r.bytes.length≤1048576
def BSw:(d:Nat)→BI d→Prop
 | 0=>fun _=>True
 | d+1=>fun b=>OSw (BSw d) b
def A8p (g:GI) (d:Nat):Prop:=∀ (w:World) (vm ve vf vb v0 v1:Value) (m:MI) (b:BI d),GRd w vm ve g→RdL 6 FAt w vf m.fields→RdL 1 NAt w vb m.barred→KQ d w v0 v1 b→BSw d b→C9h g d m b→
 Calls Tryz.prog 19 #[.agg #[vm,ve],.agg #[.string (S m.name),vf,vb],.agg #[v0,v1]] w fun e w'=>∃ ao n c,e = .returned (.tuple #[.slice ao n c,.int .i64 (A3k g d m b).2])∧Row ekY w' w.heap.size (.slice ao n c) (A3k g d m b).1∧Below w.heap.size w w'
open Go.RowKit
theorem C3r {g:GI}{d:Nat}(ih:A8p g d){W:World}{vm ve:Value}{cf:Nat}(hg:GRd W vm ve g) (xf:W.heap[cf]?=some (.cells #[vm,ve] 25 (0,0))){t:List UInt8}(ht:∃ m∈g.msgs,m.name=t){x:BI d}(hx:BSw d x) (hf:C9h g d (B0i g t) x) :
  CDeep d W 34 #[.pointer (some ⟨cf,0,none⟩)] t (fun y=>A3k g d (B0i g t) y) x:=by
 intro V v0 v1 hV hq
 show Calls Tryz.prog 34 #[.string (S t),.agg #[v0,v1],.pointer (some ⟨cf,0,none⟩)] V _
 obtain⟨e0,m0,p0,e1,m1,p1,rfl,rfl⟩:=hq.shape
 obtain⟨am,nm,cm,rfl,bh,_⟩:=hg.1.shape
 obtain⟨ae,ne,ce,rfl,_,_⟩:=hg.2.shape
 have bk:=(Array.getElem?_eq_some_iff.1 xf).1
 obtain⟨j,hj,ak,bg,ac⟩:=D0a ht
 have bq:j < nm:=by rw[bh.out];exact(List.getElem?_eq_some_iff.1 ak).1
 have bp:(j:Int) < (nm:Int):=by omega
 obtain⟨M,HM⟩:∃ M,Hid (M=B0i g t):=⟨_,rfl⟩
 rw[←HM.out] at ak bg hf ⊢
 obtain⟨bm,om,rfl,hat⟩:=(hg.below hV).1.get MAt.plain ak
 obtain⟨vf,vb,s0,s1,s2,ba,aw⟩:=hat.at
 obtain⟨af,nf,kf,rfl,_,_⟩:=ba.shape
 obtain⟨ab,nb,kb,rfl,_,_⟩:=aw.shape
 obtain⟨W1,ag⟩:∃ W1,Hid (W1=V.alloc (.cells #[.slice e0 m0 p0,.slice e1 m1 p1] 29)):=⟨_,rfl⟩
 have hb1:Below V.heap.size V W1:=by rw[ag.out];exact(Below.refl _ _).alloc (Nat.le_refl _) _
 have hz1:V.heap.size+1≤W1.heap.size:=by rw[ag.out];simp
 have x1:W1.heap[V.heap.size]?=some (.cells #[.slice e0 m0 p0,.slice e1 m1 p1] 29 (0,0)):=by rw[ag.out];exact heap_alloc_new _ _
 have y1:=(hV.block _ bk).trans xf
 have bl:∀ U,Below W1.heap.size W1 U→Below W1.heap.size W1 U∧(U.cell? ⟨cf,0,none⟩=some (.slice (some ⟨bm,om,none⟩) nm cm)∧U.cell? ⟨cf,1,none⟩=some (.slice ae ne ce))∧(U.cell? ⟨V.heap.size,0,none⟩=some (.slice e0 m0 p0)∧U.cell? ⟨V.heap.size,1,none⟩=some (.slice e1 m1 p1))∧U.cell? ⟨bm,om+j*3,none⟩=some (.string (S M.name))∧U.cell? ⟨bm,om+j*3+1,none⟩=some (.slice af nf kf)∧U.cell? ⟨bm,om+j*3+2,none⟩=some (.slice ab nb kb):=fun U hU=>by
  have aj:=KBT hb1 hU
  have hcv:=(Array.getElem?_eq_some_iff.1 y1).1
  exact⟨hU,A0s ((aj.block _ hcv).trans y1),A0s ((hU.block _ (by omega)).trans x1),A0c aj s0,A0c aj s1,A0c aj s2⟩
 have bn:∀ U,Below W1.heap.size W1 U→Calls Tryz.prog 35 #[.agg #[.slice (some ⟨bm,om,none⟩) nm cm,.slice ae ne ce],.string (S t)] U fun e w'=>e = .returned (.int .i64 (j:Int))∧Below U.heap.size U w':=fun U hU=>by
  have:=A2c ((hg.below hV).below (KBT hb1 hU)).1 ⟨ae,ne,ce,rfl⟩ t
  rw[hj] at this
  exact this
 have hwt:∀ U,Below W1.heap.size W1 U→Calls Tryz.prog 19 #[.agg #[.slice (some ⟨bm,om,none⟩) nm cm,.slice ae ne ce],.agg #[.string (S M.name),.slice af nf kf,.slice ab nb kb],.agg #[.slice e0 m0 p0,.slice e1 m1 p1]] U fun e w'=>∃ ao n c,e = .returned (.tuple #[.slice ao n c,.int .i64 (A3k g d M x).2])∧Row ekY w' U.heap.size (.slice ao n c) (A3k g d M x).1∧Below U.heap.size U w':=fun U hU=>ih U _ _ _ _ _ _ M x ((hg.below hV).below (KBT hb1 hU)) (ba.below FAt.stays (KBT hb1 hU)) (aw.below NAt.stays (KBT hb1 hU)) (hq.below (KBT hb1 hU)) hx hf
 obtain⟨R,HR⟩:∃ R,Hid (A3k g d M x=R):=⟨_,rfl⟩
 show Calls Tryz.prog 34 #[.string (S t),.agg #[.slice e0 m0 p0,.slice e1 m1 p1],.pointer (some ⟨cf,0,none⟩)] V fun e w'=>∃ ao n c,e = .returned (.tuple #[.slice ao n c,.int .i64 (A3k g d M x).2])∧Row ekY w' V.heap.size (.slice ao n c) (A3k g d M x).1∧Below V.heap.size V w'
 rw[HR.out] at hwt ⊢
 have hd:Below W1.heap.size W1 W1.drew:=(Below.refl _ _).drew
 clear hat s0 s1 s2 ak bg hj ac ht ih hx hf hq ba aw hg
 go_enter Tryz.func34,Tryz.ntmps34
 go_wp2_with fail
 rw[←ag.out]
 go_region_held3 (fun U=>Below W1.heap.size W1 U∧(U.cell? ⟨cf,0,none⟩=some (.slice (some ⟨bm,om,none⟩) nm cm)∧U.cell? ⟨cf,1,none⟩=some (.slice ae ne ce))∧(U.cell? ⟨V.heap.size,0,none⟩=some (.slice e0 m0 p0)∧U.cell? ⟨V.heap.size,1,none⟩=some (.slice e1 m1 p1))∧U.cell? ⟨bm,om+j*3,none⟩=some (.string (S M.name))∧U.cell? ⟨bm,om+j*3+1,none⟩=some (.slice af nf kf)∧U.cell? ⟨bm,om+j*3+2,none⟩=some (.slice ab nb kb)) ((with_reducible refine bl _ ?_;with_reducible (first|exact hd|exact ah|exact bc))) ((first|(go_at_call 35;refine(bn _ (by with_reducible exact hd)).mono ?_;rintro e w2 ⟨rfl,hb2⟩;have ah:=KBT hd hb2)|(go_at_call 19;refine(hwt _ (by with_reducible exact ah)).mono ?_;rintro e w3 ⟨az,nz,cz,rfl,hr3,hb3⟩;have bc:=KBT ah hb3)))
 all_goals
  have au:Row ekY w3 V.heap.size (.slice az nz cz) R.1:=hr3.mono (Nat.le_trans hb1.size ah.size)
  clear hr3
  go_wp2
  go_ret2
  exact⟨az,nz,cz,rfl,au,KBT hb1 bc⟩
open Go.RowKit
theorem B1d (need:Nat):∀ r c,c≤need+(need+768) / 4→Builtin.growBy need r c≤need+(need+768) / 4
 | 0,c,h=>h
 | r+1,c,h=>by
  unfold Builtin.growBy
  split
  ·exact h
  ·exact B1d need r _ (by omega)
theorem D0x {need old:Nat}(h:old < need) (hb:need*48≤200000000000000):Builtin.nextslicecap need old*48≤281474976710656:=by
 have h1:Builtin.nextslicecap need old≤need+(need+768) / 4+512:=by
  unfold Builtin.nextslicecap
  split
  ·omega
  ·split
   ·omega
   ·have:=B1d need 4 old (by omega)
    omega
 omega
section
variable {α:Type}{w:World}
theorem C6l (E:EK α) (hB:E.bytes=48) (ty:TypeId) (base:Nat) (v:Value) (l m:List α) (hown:Row E w base v l) (ad:Addr) (n cap:Nat) (hm:m.length=n) (h0:0 < n)
  (hcell:∀ k y,m[k]?=some y→∀ j u,(E.enc y)[j]?=some u→w.cell? (ad.add (k*E.size+j))=some u)
  (hlen:(l.length+n)*48≤200000000000000) (hb:base≤w.heap.size) :
  ∃ v' w',(Builtin.append_ #[E.slice,E.slice] ty #[v,.slice (some ad) n cap]).run Tryz.prog w = .ok v' w'∧Row E w' base v' (l++m)∧w.grownBy w' v.ownBlock:=by
 obtain⟨i0,hi,hz0,hz1,hz2⟩:=info_parts E.info
 have h63:l.length+n≤maxLen:=by unfold maxLen;omega
 have hl:(E.flat m).length=n*i0.size:=by rw[E.flat_len,hm,hz1]
 have hnews:∀ j u,(E.flat m)[j]?=some u→w.cell? (ad.add j)=some u:=by
  intro j u hu
  obtain⟨y,h1,h2⟩:=E.flat_get hu
  have:=hcell _ y h1 _ u h2
  rwa [Nat.mul_comm,Nat.div_add_mod] at this
 have h1c:∀ u∈E.flat m,u.oneCell'=true:=by
  intro y hy
  simp only[EK.flat,List.mem_flatMap] at hy
  obtain⟨p,hp,hy⟩:=hy
  exact E.one p y hy
 have ag:(E.flat l).length=l.length*i0.size:=by rw[E.flat_len,hz1]
 have hall:(E.flat (l++m)).length=(l++m).length*E.size:=E.flat_len _
 have hsz:(l++m).length=l.length+n:=by rw[List.length_append,hm]
 have new:∀ (old:Nat),(w.drew.alloc (.cells ((E.flat l).toArray++(E.flat m).toArray++Builtin.zeroCells (Value.cells (E.zero)) (grownCap w (l.length+n) old E.elem - (l.length+n))) E.elem)).ownsRow base E.elem E.size (.slice (some ⟨w.heap.size,0,none⟩) (l.length+n) (grownCap w (l.length+n) old E.elem)) (l++m).length (E.flat (l++m)):=by
  intro old
  obtain⟨C,hC⟩:∃ C,C=grownCap w (l.length+n) old E.elem:=⟨_,rfl⟩
  have aj:=grownCap_ge w (l.length+n) old E.elem
  have hle:=grownCap_le_maxLen w _ old E.elem h63
  rw[←hC] at aj hle ⊢
  refine⟨hall,.inr ⟨w.heap.size,_,_,by rw[hsz],hb,heap_alloc_new w.drew _,by rw[hsz];exact aj,hle,?_,?_⟩⟩
  ·rw[Array.size_append,Array.size_append,List.size_toArray,List.size_toArray,size_zeroCells,E.zs,ag,hl,hz1,←Nat.add_mul,←Nat.add_mul]
   rw[show l.length+n+(C - (l.length+n))=C by omega]
  ·have e:(E.flat (l++m))=E.flat l++E.flat m:=E.flat_append _ _
   rw[e]
   simp only[Array.toList_append]
   rw[hsz]
   have:(l.length+n)*E.size=(E.flat l++E.flat m).length:=by rw[List.length_append,ag,hl,hz1,Nat.add_mul]
   rw[this]
   exact List.take_left
 have ah:∀ (o:Obj) (row:Option Nat),w.grownBy (w.drew.alloc o) row:=fun o row=>⟨rfl,rfl,rfl,by simp,fun k hk _=>heap_alloc_old w.drew _ hk⟩
 rcases hown.2 with⟨hv,hn⟩|⟨g,cap',cur,hv,hbg,hg,hnc,hcm,hcs,htake⟩
 ·subst hv
  have hl0:l = []:=List.eq_nil_of_length_eq_zero hn
  subst hl0
  have hr:=run_append_nil (P:=Tryz.prog) w E.slice ty E.elem i0 _ E.under hi hz0 ad n cap (E.flat m) hl hnews h0 (by unfold maxLen at h63;simp at h63;omega) (by rw[hz2,hB];simp at hlen;omega)
  have h2:=new 0
  simp only[List.length_nil,Nat.zero_add,List.nil_append,EK.flat,List.flatMap_nil,Array.empty_append] at h2 hr ⊢
  exact⟨_,_,hr,h2,ah _ _⟩
 ·subst hv
  by_cases hroom:l.length+n≤cap'
  ·have ac:l.length*i0.size+(E.flat m).length≤cur.size:=by rw[hl,hcs,hz1,←Nat.add_mul];exact Nat.mul_le_mul_right _ hroom
   have hr:=run_append_room (P:=Tryz.prog) w E.slice ty E.elem i0 E.under hi g l.length cap' cur hg ad n cap (E.flat m) hl hnews h1c hroom ac
   refine⟨_,_,hr,⟨hall,.inr ⟨g,cap',_,by rw[hsz],hbg,setRow_heap w g cur _ _ _ hg,by rw[hsz];exact hroom,hcm,?_,?_⟩⟩,⟨rfl,rfl,rfl,by simp,fun k _ hk=>setRow_other w g k _ (fun e=>hk (by simp[Value.ownBlock,e]))⟩⟩
   ·simp only[List.size_toArray,List.length_append,List.length_take,List.length_drop,Array.length_toList]
    rw[hz1] at ac ⊢
    omega
   ·have e:(E.flat (l++m))=E.flat l++E.flat m:=E.flat_append _ _
    rw[e,hz1,htake,hsz]
    have:(l.length+n)*E.size=(E.flat l++E.flat m).length:=by rw[List.length_append,ag,hl,hz1,Nat.add_mul]
    rw[this]
    exact List.take_left
  ·have holds:=World.ownsRow.cells hown (g:=g) rfl
   have hr:=run_append_grow (P:=Tryz.prog) w E.slice ty E.elem i0 _ E.under hi hz0 ⟨g,0,none⟩ l.length cap' (E.flat l) ag holds ad n cap (E.flat m) hl hnews (by omega) (by unfold maxLen at h63;omega) (by rw[hz2,hB];exact D0x (by omega) hlen)
   exact⟨_,_,hr,new cap',ah _ _⟩
theorem B6a {ops:Array Oper}{rest:List Oper}{o:Oper}{a:Act}{Q:Exit→Act→World→Prop}(hgd:o.guard=none) (E:EK α) (hB:E.bytes=48) (s x:Operand)
  (ho:o.op = .call { callee:=.builtin .append,args:=#[s,x],argTypes:=#[E.slice,E.slice] })
  (base:Nat) (v:Value) (l m:List α) (hs:a.eval s=v) (hown:Row E w base v l) (ao:Option Addr) (n cap:Nat) (hx:a.eval x = .slice ao n cap) (hm:m.length=n) (hnil:ao=none→n=0∧cap=0)
  (hcell:∀ ad,ao=some ad→∀ k y,m[k]?=some y→∀ j u,(E.enc y)[j]?=some u→w.cell? (ad.add (k*E.size+j))=some u)
  (hl:l.length*48≤140737488355328) (hlen:(l.length+m.length)*48≤200000000000000) (hb:base≤w.heap.size)
  (h:∀ v' w',Row E w' base v' (l++m)→w.grownBy w' v.ownBlock→wpList Tryz.prog ops Q rest (a.put o.dst v') w'):wpList Tryz.prog ops Q (o::rest) a w:=by
 by_cases hsm:(l.length+m.length)*48≤140737488355328
 ·exact A1n hgd E s x ho base v l m hs hown ao n cap hx hm hnil hcell (by rw[hB];decide) (by rw[hB];exact hsm) hb h
 ·by_cases hn0:0 < n
  ·cases ao with
   | none=>obtain⟨h1,_⟩:=hnil rfl;omega
   | some ad=>
    obtain⟨v',w',hr,h1,h2⟩:=C6l E hB o.type base v l m hown ad n cap hm hn0 (fun k y hy j u hu=>hcell ad rfl k y hy j u hu) (by rw[←hm];exact hlen) hb
    refine wpList_plain hgd fun _ hK=>?_
    unfold Oper.wp execOp
    simp only[ho,resolve,invoke,builtin,Sem.run_bind,Sem.run_pure,Result.andThen_ok,List.map_toArray,List.map_cons,List.map_nil,hs,hx,hr]
    exact hK _ _ (h v' w' h1 h2)
  ·exfalso
   have:m.length=0:=by omega
   exact hsm (by rw[this];exact hl)
end
end L
end Go.Proofs.YtgaoojpakjjdnaaGreatDoor
