import Derived.Test.YtgaoojpakjjdnaaGreatDoorV06
import Derived.Deep.RegionHeld3
import Derived.Deep.DrawnRows
import Derived.Deep.CutRange
set_option maxHeartbeats 32000000
set_option maxRecDepth 100000
namespace Go.Proofs.YtgaoojpakjjdnaaGreatDoor
namespace L
open Go.RowKit
attribute [local go_sem ↓] Go.wp_at_zero Go.wp_at_succ
theorem B0j {W V:World}{B:Nat}(h:Below B W V) (hB:B≤W.heap.size) (o:Obj):Below B W (V.alloc o):=h.alloc (Nat.le_trans hB h.size) o
theorem A4y {W V:World}{B g i:Nat}{x:Value}(h:Below B W V) (hg:B≤g):Below B W (V.setCell ⟨g,i,none⟩ x):=h.setCell (p:=⟨g,i,none⟩) hg x
theorem C8t {W V V':World}{B:Nat}{r:Option Nat}(h:Below B W V) (hB:B≤W.heap.size) (hg:V.grownBy V' r) (hr:∀ k,r=some k→B≤k):Below B W V':=h.grown hg (Nat.le_trans hB h.size) hr
theorem C6a {α:Type}(E:EK α) (w:World) (y : α):∀ ad,some (⟨w.heap.size,0,none⟩:Addr)=some ad→∀ k z,[y][k]?=some z→∀ j u,(E.enc z)[j]?=some u→(w.alloc (.cells (E.enc y).toArray E.elem)).cell? (ad.add (k*E.size+j))=some u:=by
 intro ad had k z hz j u hu
 cases had
 cases k with
 | succ k=>simp at hz
 | zero=>
  have hz:y=z:=by simpa using hz
  subst hz
  rw[A0d,Nat.zero_mul,Nat.zero_add,Nat.zero_add]
  exact A0a (heap_alloc_new w _) j u (by simpa using hu)
theorem OwnG.set2 {w:World}{base base' h:Nat}{vm ve:Value}{lm:List (MI×LV×LV)}{le:List (EI×LV)}(hg:OwnG w base vm ve lm le) (hb:base'≤base){cs:Array Value}{fr:Nat×Nat}(hh:w.heap[h]?=some (.cells cs 25 fr)){x y:Value}{i j:Nat}:OwnG ((w.setCell ⟨h,i,none⟩ x).setCell ⟨h,j,none⟩ y) base' vm ve lm le:=by
 have k:∀ {α:Type}{E:EK α}{v:Value}{l:List α},Row E w base v l→25≠E.elem→Row E ((w.setCell ⟨h,i,none⟩ x).setCell ⟨h,j,none⟩ y) base' v l:=fun hr hne=>(((hr.other (hr.ne_blk hh hne) i x).other (hr.ne_blk hh hne) j y)).mono hb
 exact⟨k hg.rowm (by decide),k hg.rowe (by decide),fun p hp=>⟨k (hg.ms p hp).1 (by decide),k (hg.ms p hp).2 (by decide)⟩,fun p hp=>k (hg.es p hp) (by decide)⟩
theorem OwnG.below {w w':World}{base:Nat}{vm ve:Value}{lm:List (MI×LV×LV)}{le:List (EI×LV)}(h:OwnG w base vm ve lm le) (hb:Below w.heap.size w w'):OwnG w' base vm ve lm le:=
 ⟨h.rowm.below hb,h.rowe.below hb,fun p hp=>⟨(h.ms p hp).1.below hb,(h.ms p hp).2.below hb⟩,fun p hp=>(h.es p hp).below hb⟩
theorem RdL.srcT {w:World}{ao:Option Addr}{n cap:Nat}{l:List II}(h:RdL 2 TAt w (.slice ao n cap) l):l.length=n∧(ao=none→n=0∧cap=0)∧∀ ad,ao=some ad→∀ k y,l[k]?=some y→∀ j u,(ekT.enc y)[j]?=some u→w.cell? (ad.add (k*ekT.size+j))=some u:=by
 have hl:=h.len
 have hn:ao=none→n=0∧cap=0:=by obtain⟨ac,n',cap',e,_,_,_,h4,_⟩:=h;cases e;exact h4
 refine⟨hl.1.symm,hn,fun ad had k y hy j u hu=>?_⟩
 obtain⟨b,o,e,h6⟩:=h.get TAt.plain hy
 rw[e] at had
 cases had
 rw[A0d]
 obtain⟨t0,t1⟩:=h6.at
 show w.cell? ⟨b,o+(k*2+j),none⟩=some u
 match j,hu with
 | 0,hu=>
  have hu:Value.string (S y.name)=u:=by simpa [ekT,D4x] using hu
  rw[←hu];simpa using t0
 | 1,hu=>
  have hu:Value.int .i64 y.value=u:=by simpa [ekT,D4x] using hu
  rw[←hu,←Nat.add_assoc];exact t1
 | j+2,hu=>simp[ekT,D4x] at hu
section
variable {w3 w5 w7:World}{base G:Nat}{vx:Value}{le:List (EI×LV)}{o:Obj}
theorem D1b {α:Type}{E:EK α}{w:World}{base:Nat}{v:Value}{l:List α}(h:Row E w base v l):Row E w.drew base v l:=h.keep fun _ _ _=>rfl
theorem C0n {α:Type}{E:EK α}{v:Value}{l:List α}(h:Row E w3 base v l) (ac:w3.drew.grownBy w5 (Value.slice none 0 0).ownBlock):Row E w5 base v l:=(D1b h).grown ac (by
 cases hv:v.ownBlock with
 | none=>exact .inl rfl
 | some k=>right;simp[Value.ownBlock])
theorem D5n {α:Type}{E:EK α}{v:Value}{l:List α}(h:Row E w3 base v l) (ac:w3.drew.grownBy w5 (Value.slice none 0 0).ownBlock) (o:Obj):Row E (w5.alloc o) base v l:=(C0n h ac).below ((Below.refl _ _).alloc (Nat.le_refl _) _)
theorem C9z (hx:Row ekE w3 base vx le) (ac:w3.drew.grownBy w5 (Value.slice none 0 0).ownBlock) (ag:(w5.alloc o).grownBy w7 vx.ownBlock){cs:Array Value}{fr:Nat×Nat}(hG:w7.heap[G]?=some (.cells cs 25 fr)){i:Nat}{x:Value}{α:Type}{E:EK α}{v:Value}{l:List α}(h:Row E w3 base v l) (hne:E.elem≠ekE.elem) (hf:25≠E.elem):Row E (w7.setCell ⟨G,i,none⟩ x) base v l:=by
 have h3:=(D5n h ac o).grown ag (h.ne hx hne)
 exact h3.other (h3.ne_blk hG hf) i x
theorem OwnG.appE {vm v7:Value}{lm:List (MI×LV×LV)}(hg:OwnG w3 base vm vx lm le){e:EI}{p5:LV}(ah:Row ekT w5 base p5.v ([]++e.items)) (ac:w3.drew.grownBy w5 (Value.slice none 0 0).ownBlock) (ag:(w5.alloc o).grownBy w7 vx.ownBlock) (aj:Row ekE w7 base v7 (le++[(e,p5)])){cs:Array Value}{fr:Nat×Nat}(hG:w7.heap[G]?=some (.cells cs 25 fr)){i:Nat}{x:Value}:OwnG (w7.setCell ⟨G,i,none⟩ x) base vm v7 lm (le++[(e,p5)]):=by
 have ak:=C0n hg.rowe ac
 refine⟨C9z hg.rowe ac ag hG hg.rowm (by decide) (by decide),aj.other (aj.ne_blk hG (by decide)) i x,fun p hp=>⟨C9z hg.rowe ac ag hG (hg.ms p hp).1 (by decide) (by decide),C9z hg.rowe ac ag hG (hg.ms p hp).2 (by decide) (by decide)⟩,fun p hp=>?_⟩
 rcases List.mem_append.1 hp with hp|hp
 ·exact C9z hg.rowe ac ag hG (hg.es p hp) (by decide) (by decide)
 ·rw[List.mem_singleton] at hp
  subst hp
  have h3:=(ah.below ((Below.refl _ _).alloc (Nat.le_refl _) o)).grown ag (ah.ne ak (by decide))
  exact h3.other (h3.ne_blk hG (by decide)) i x
end
def C5q (g:GI) (m:MI):MI:=⟨m.name,m.fields.map (A7h g),m.barred⟩
theorem C1s {w:World}{vm ve:Value}{g g0:GI}{p:Nat}{gz gw:Value}(hg:GRd w vm ve g) (gj:g.msgs.length≤10) (gl:g.enums.length≤10) (ew:GOk g) (hp:w.heap[p]?=some (.cells #[gz,gw] 25 (0,0))) (hg0:GRd w gz gw g0) :
  Calls Tryz.prog 52 #[.agg #[vm,ve],.func (.func 53) #[] #[.pointer (some ⟨p,0,none⟩)]] w fun e w'=>∃ gy gu lm le,e = .returned (.agg #[gy,gu])∧OwnG w' w.heap.size gy gu lm le∧lm.map Prod.fst=g.msgs.map (C5q g0)∧le.map Prod.fst=g.enums∧Below w.heap.size w w':=by
 obtain⟨a1,n1,c1,rfl,H1,_⟩:=hg.1.shape
 obtain⟨a2,n2,c2,rfl,H2,_⟩:=hg.2.shape
 have h1:n1≤10:=by rw[H1.out];exact gj
 have h2:n2≤10:=by rw[H2.out];exact gl
 obtain⟨W0,bk⟩:∃ W0,Hid (W0=((w.alloc (.cells #[.slice a1 n1 c1,.slice a2 n2 c2] 25)).alloc (.cells #[.slice none 0 0,.slice none 0 0] 25)).alloc (.cells #[.slice none 0 0,.slice none 0 0] 25)):=⟨_,rfl⟩
 have hb0:Below w.heap.size w W0:=by rw[bk.out];exact(((Below.refl _ _).alloc (Nat.le_refl _) _).alloc (by simp) _).alloc (by simp;omega) _
 obtain⟨G,HG⟩:∃ G,Hid (G=w.heap.size+1+1):=⟨_,rfl⟩
 have iu:G≤w.heap.size+2:=Nat.le_of_eq HG.out
 have iw:w.heap.size+2≤G:=Nat.le_of_eq HG.out.symm
 have hz0:W0.heap.size≤w.heap.size+3:=by rw[bk.out];simp
 have hz0':w.heap.size+3≤W0.heap.size:=by rw[bk.out];simp
 have x1:W0.heap[w.heap.size]?=some (.cells #[.slice a1 n1 c1,.slice a2 n2 c2] 25 (0,0)):=by
  rw[bk.out,Below.heap_alloc _ _ _ (by simp;omega)];exact A0m _ _ _
 have x2:W0.heap[w.heap.size+1]?=some (.cells #[.slice none 0 0,.slice none 0 0] 25 (0,0)):=by
  rw[bk.out,Below.heap_alloc _ _ _ (by simp)];exact A0i _ _ _
 have x3:W0.heap[G]?=some (.cells #[.slice none 0 0,.slice none 0 0] 25 (0,0)):=by
  have:=heap_alloc_new ((w.alloc (.cells #[.slice a1 n1 c1,.slice a2 n2 c2] 25)).alloc (.cells #[.slice none 0 0,.slice none 0 0] 25)) (.cells #[.slice none 0 0,.slice none 0 0] 25)
  rw[←bk.out] at this
  rw[HG.out];simpa using this
 go_enter Tryz.func52,Tryz.ntmps52
 go_wp2_with fail
 rw[←bk.out,←HG.out]
 go_loopg [16] n1 (fun m i wr=>∃ (k:Nat) (lo:List (MI×LV×LV)) (vo:Value),k+m=n1∧i = .int .i64 k∧Row ekM wr (G+1) vo lo∧(∀ p∈lo,Row ekF wr (G+1) p.2.1.v p.1.fields∧Row ekN wr (G+1) p.2.2.v p.1.barred)∧wr.heap[G]?=some (.cells #[vo,.slice none 0 0] 25 (0,0))∧Hid (lo.map Prod.fst=(g.msgs.take k).map (C5q g0))∧lo.length=k∧Below G W0 wr)
 case atStart=>exact⟨0,[],.slice none 0 0,by omega,rfl,Row.nil _ _ _,fun _ hp=>(List.not_mem_nil hp).elim,x3,by show _=_;simp,rfl,Below.refl _ _⟩
 case round=>
  obtain⟨k,lo,vo,hk,rfl,hro,dv,bp,HL,il,hbr⟩:=hrel
  obtain⟨wo,ig⟩:∃ wo,wo=wr:=⟨_,rfl⟩
  subst ig
  have bq:Below w.heap.size w wo:=hb0.trans (hbr.mono (by omega))
  have gq:w.heap.size+3≤wo.heap.size:=by have:=hbr.size;omega
  have fy:G < wo.heap.size:=by omega
  obtain⟨ao,no,co,rfl,iq⟩:=hro.shape'
  by_cases hlt:k < n1
  ·obtain⟨a,Ha⟩:∃ a,Hid (g.msgs[k]?=some a):=⟨g.msgs[k]'(by rw[←H1.out];exact hlt),List.getElem?_eq_getElem (by rw[←H1.out];exact hlt)⟩
   obtain⟨b,off,rfl,hat⟩:=(hg.below bq).1.get MAt.plain Ha.out
   obtain⟨vf,vb,s0,s1,s2,gp,fe⟩:=hat.at
   obtain⟨af,nf,cf,rfl,Hf,_⟩:=gp.shape
   obtain⟨ab,nb,cb,rfl,Hb,_⟩:=fe.shape
   have gh:(k:Int) < (n1:Int):=by omega
   have gi:=ew.1 a (A3g Ha.out)
   have hbytes:Hid ((([]:List Int).length+a.barred.length)*ekN.bytes≤140737488355328):=by
    show _≤_;have:=gi.2.2.2.2;unfold reachBytes at this;simp[ekN];omega
   obtain⟨W1,cw⟩:∃ W1,Hid (W1=wo.alloc (.cells #[.string (S a.name),.slice af nf cf,.slice ab nb cb] 38)):=⟨_,rfl⟩
   have f9:Below wo.heap.size wo W1:=by rw[cw.out];exact(Below.refl _ _).alloc (Nat.le_refl _) _
   have hz1:W1.heap.size≤wo.heap.size+1:=by rw[cw.out];simp
   have im:wo.heap.size+1≤W1.heap.size:=by rw[cw.out];simp
   have hx1:W1.heap[wo.heap.size]?=some (.cells #[.string (S a.name),.slice af nf cf,.slice ab nb cb] 38 (0,0)):=by rw[cw.out];exact heap_alloc_new _ _
   have dw:∀ V,Below W1.heap.size W1 V→∀ ad,ab=some ad→∀ k y,a.barred[k]?=some y→∀ j u,(ekN.enc y)[j]?=some u→V.cell? (ad.add (k*ekN.size+j))=some u:=fun V hV=>((fe.below NAt.stays f9).below NAt.stays hV).srcN.2.2
   have hnil:ab=none→nb=0∧cb=0:=fe.srcN.2.1
   have gc:∀ V,Below W1.heap.size W1 V→Below W1.heap.size W1 V∧V.cell? ⟨wo.heap.size,0,none⟩=some (.string (S a.name))∧V.cell? ⟨wo.heap.size,2,none⟩=some (.slice ab nb cb):=fun V hV=>⟨hV,A0c hV (A0a hx1 0 _ rfl),A0c hV (A0a hx1 2 _ rfl)⟩
   have ft:∀ V,(W1.alloc (.cells #[.string ⟨#[]⟩,.slice none 0 0,.slice none 0 0] 38)).drew.grownBy V (Value.slice none 0 0).ownBlock→V.heap[W1.heap.size]?=some (.cells #[.string ⟨#[]⟩,.slice none 0 0,.slice none 0 0] 38 (0,0)):=fun V hV=>(hV.block W1.heap.size (by show _ < (W1.alloc _).heap.size;simp) (by simp[Value.ownBlock])).trans (heap_alloc_new W1 _)
   clear hat
   go_wp2_with fail
   rw[←cw.out]
   go_cut [8,16] from 16 to 48 (fun s8 io wc=>io = .int .i64 k∧∃ (C:Nat) (a5:Option Addr) (n5 c5:Nat),s8 = .pointer (some ⟨C,0,none⟩)∧W1.heap.size≤C∧wc.heap[C]?=some (.cells #[.string (S a.name),.slice none 0 0,.slice a5 n5 c5] 38 (0,0))∧Row ekN wc W1.heap.size (.slice a5 n5 c5) a.barred∧Below W1.heap.size W1 wc)
   case first=>
    go_region_held3 (fun V=>Below W1.heap.size W1 V∧V.cell? ⟨wo.heap.size,0,none⟩=some (.string (S a.name))∧V.cell? ⟨wo.heap.size,2,none⟩=some (.slice ab nb cb)) ((refine gc _ ?_;first|exact(Below.refl _ _).drew|exact bl|exact B0j bl (Nat.le_refl _) _|exact B0j (Below.refl _ _).drew (Nat.le_refl _) _|exact A4y (A4y (A4y bl (Nat.le_refl _)) (Nat.le_refl _)) (Nat.le_refl _))) ((go_split_ands;refine A6j (by rfl) ekN _ _ (by rfl) W1.heap.size (.slice none 0 0) [] a.barred (by rfl) (Row.nil _ _ _) ab nb cb (by rfl) Hb.out.symm hnil (dw _ (by assumption)) (by decide) hbytes.out (Below.size (by assumption)) ?_;intro v5 w5 aj ag;obtain⟨a5,n5,c5,rfl,H5⟩:=aj.shape';have bl:Below W1.heap.size W1 w5:=C8t (by assumption) (Nat.le_refl _) ag (fun k hk=>by simp[Value.ownBlock] at hk);try(have cj:=ft _ ag;obtain⟨q0,q1,q2⟩:=A4s cj;have r0:=A0b cj 0;have r1:=A0b cj 1;have r2:=A0b cj 2)))
    ·have bg:(w5.alloc (.cells #[.string (S a.name),.slice none 0 0,.slice a5 n5 c5] 38)).heap[w5.heap.size]?=some (.cells #[.string (S a.name),.slice none 0 0,.slice a5 n5 c5] 38 (0,0)):=heap_alloc_new _ _
     have fc:=aj.below ((Below.refl _ _).alloc (Nat.le_refl _) (.cells #[.string (S a.name),.slice none 0 0,.slice a5 n5 c5] 38))
     go_wp2_with fail
     go_meet
     case rel=>exact⟨rfl,w5.heap.size,a5,n5,c5,rfl,bl.size,bg,fc,B0j bl (Nat.le_refl _) _⟩
    ·have hne:=aj.ne_blk cj (by decide)
     have bg:=heap_setCell_same _ _ 2 _ _ (.slice a5 n5 c5) (heap_setCell_same _ _ 1 _ _ (.slice none 0 0) (heap_setCell_same _ _ 0 _ _ (.string (S a.name)) cj))
     have fc:=((aj.other hne 0 (.string (S a.name))).other hne 1 (.slice none 0 0)).other hne 2 (.slice a5 n5 c5)
     have ee:Below W1.heap.size W1 (((w5.setCell ⟨W1.heap.size,0,none⟩ (.string (S a.name))).setCell ⟨W1.heap.size,1,none⟩ (.slice none 0 0)).setCell ⟨W1.heap.size,2,none⟩ (.slice a5 n5 c5)):=A4y (A4y (A4y bl (Nat.le_refl _)) (Nat.le_refl _)) (Nat.le_refl _)
     go_wp2_with fail
     go_meet
     case rel=>exact⟨rfl,W1.heap.size,a5,n5,c5,rfl,Nat.le_refl _,bg,fc,ee⟩
   case rest=>
    obtain⟨rfl,C,a5,n5,c5,rfl,hC,bu,cu,eh⟩:=hcut
    obtain⟨m0,m1,m2⟩:=A4s ((eh.block wo.heap.size (by omega)).trans hx1)
    clear dw hnil gc ft hbytes
    go_wp2_with fail
    go_loopg [29] nf (fun m i wi=>∃ (j:Nat) (fs:List FI) (vf:Value),j+m=nf∧i = .int .i64 j∧Row ekF wi W1.heap.size vf fs∧Row ekN wi W1.heap.size (.slice a5 n5 c5) a.barred∧wi.heap[C]?=some (.cells #[.string (S a.name),vf,.slice a5 n5 c5] 38 (0,0))∧Hid (fs=(a.fields.take j).map (A7h g0))∧fs.length=j∧Below W1.heap.size W1 wi)
    case atStart=>exact⟨0,[],.slice none 0 0,by omega,rfl,Row.nil _ _ _,cu,bu,by show _=_;simp,rfl,eh⟩
    case round=>
     clear m0 m1 m2 bu cu eh
     obtain⟨j,fs,vf,hj,rfl,hrow,cu,bu,HJ,ix,ej⟩:=hrel
     obtain⟨wi,ie⟩:∃ wi,wi=wr:=⟨_,rfl⟩
     subst ie
     have ak:Below wo.heap.size wo wi:=f9.trans (ej.mono (by omega))
     have ij:C < wi.heap.size:=(Array.getElem?_eq_some_iff.1 bu).1
     by_cases hjl:j < nf
     ·obtain⟨f,fq⟩:∃ f,Hid (a.fields[j]?=some f):=⟨a.fields[j]'(by rw[←Hf.out];exact hjl),List.getElem?_eq_getElem (by rw[←Hf.out];exact hjl)⟩
      obtain⟨bf,of,rfl,gg⟩:=(gp.below FAt.stays ak).get FAt.plain fq.out
      obtain⟨y0,y1,y2,y3,y4,y5⟩:=gg.at
      have iy:(j:Int) < (nf:Int):=by omega
      obtain⟨W2,dx⟩:∃ W2,Hid (W2=wi.alloc (.cells #[.string (S f.name),.int .i64 f.number,.int .i64 f.kind,.string (S f.type),.bool f.many,.int .i64 f.choice] 40)):=⟨_,rfl⟩
      have hb2:Below wi.heap.size wi W2:=by rw[dx.out];exact(Below.refl _ _).alloc (Nat.le_refl _) _
      have hz2:wi.heap.size+1≤W2.heap.size:=by rw[dx.out];simp
      have cg:W2.heap[wi.heap.size]?=some (.cells #[.string (S f.name),.int .i64 f.number,.int .i64 f.kind,.string (S f.type),.bool f.many,.int .i64 f.choice] 40 (0,0)):=by rw[dx.out];exact heap_alloc_new _ _
      have dg:Below W1.heap.size W1 W2:=ej.trans (hb2.mono (by have:=ej.size;omega))
      have hk2:=(hb2.block C ij).trans bu
      have hrow2:=hrow.below hb2
      have bv:=cu.below hb2
      obtain⟨av,nv,cv,rfl,g9⟩:=hrow.shape'
      have dh:Below w.heap.size w W2:=(bq.trans (ak.mono (by omega))).trans (hb2.mono (by have:=ak.size;omega))
      obtain⟨f2,fk⟩:∃ f2,Hid (f2=A7h g0 f):=⟨_,rfl⟩
      have hlk:∀ V,Below W2.heap.size W2 V→Calls Tryz.prog 53 #[.agg #[.string (S f.name),.int .i64 f.number,.int .i64 f.kind,.string (S f.type),.bool f.many,.int .i64 f.choice],.pointer (some ⟨p,0,none⟩)] V fun e V'=>e = .returned (.agg #[.string (S f2.name),.int .i64 f2.number,.int .i64 f2.kind,.string (S f2.type),.bool f2.many,.int .i64 f2.choice])∧Below V.heap.size V V':=by
       intro V hV
       have fw:Below w.heap.size w V:=dh.trans (hV.mono dh.size)
       have:=C2n ((fw.block p (Array.getElem?_eq_some_iff.1 hp).1).trans hp) (hg0.below fw) f
       rw[←fk.out] at this
       exact this
      have dl:∀ V,Below W2.heap.size W2 V→Below W1.heap.size W1 V∧V.cell? ⟨wi.heap.size,0,none⟩=some (.string (S f.name))∧V.cell? ⟨wi.heap.size,1,none⟩=some (.int .i64 f.number)∧V.cell? ⟨wi.heap.size,2,none⟩=some (.int .i64 f.kind)∧V.cell? ⟨wi.heap.size,3,none⟩=some (.string (S f.type))∧V.cell? ⟨wi.heap.size,4,none⟩=some (.bool f.many)∧V.cell? ⟨wi.heap.size,5,none⟩=some (.int .i64 f.choice):=fun V hV=>⟨dg.trans (hV.mono dg.size),A0c hV (A0a cg 0 _ rfl),A0c hV (A0a cg 1 _ rfl),A0c hV (A0a cg 2 _ rfl),A0c hV (A0a cg 3 _ rfl),A0c hV (A0a cg 4 _ rfl),A0c hV (A0a cg 5 _ rfl)⟩
      have et:Hid ((fs.length + [f2].length)*ekF.bytes≤140737488355328):=by
       show _≤_
       have:=gi.2.2.2.1
       unfold reachBytes at this
       rw[←Hf.out] at this
       simp[ekF];omega
      have hc1:=A0a hk2 1 _ rfl
      clear gg
      go_wp2_with fail
      rw[←dx.out]
      obtain⟨_,d0,d1,d2,d3,d4,d5⟩:=dl W2.drew (Below.refl _ _).drew
      clear dl
      go_region_law (first|(rw[if_pos (by rfl)];go_simp;refine(hlk _ (Below.refl _ _).drew).mono ?_;rintro e w3 ⟨rfl,hb3⟩;have bc:Below W2.heap.size W2 w3:=(Below.refl _ _).drew.trans hb3;have hk3:=(bc.block C (by omega)).trans hk2;have hc3:=A0a hk3 1 _ rfl;have ik:=fun o=>A0a ((Below.heap_alloc w3 o C (Array.getElem?_eq_some_iff.1 hk3).1).trans hk3) 1 _ rfl)|(refine A6j (by rfl) ekF _ _ (by rfl) W1.heap.size (.slice av nv cv) fs [f2] (by rfl) ((hrow2.below bc).below ((Below.refl _ _).alloc (Nat.le_refl _) _)) (some ⟨w3.heap.size,0,none⟩) 1 1 (by rfl) rfl (fun h=>by cases h) (C6a ekF w3 f2) (by decide) et.out (by have:=bc.size;have:=dg.size;simp;omega) ?_;intro v5 w5 aj ag;obtain⟨a6,n6,c6,rfl,H6⟩:=aj.shape';have bl:Below W1.heap.size W1 w5:=C8t (B0j (dg.trans (bc.mono dg.size)) (Nat.le_refl _) _) (Nat.le_refl _) ag (fun k hk=>((hrow2.below bc).own k hk).1);have bg:w5.heap[C]?=some (.cells #[.string (S a.name),.slice av nv cv,.slice a5 n5 c5] 38 (0,0)):=(ag.block C (by have:=bc.size;simp;omega) (fun hh=>hrow2.ne_blk hk2 (by decide) hh.symm)).trans ((Below.heap_alloc w3 _ C (by have:=bc.size;omega)).trans hk3);obtain⟨e0,e1,e2⟩:=A4s bg;have e3:=A0b bg 1))
      all_goals
       have bw:=((bv.below bc).below ((Below.refl _ _).alloc (Nat.le_refl _) (.cells #[.string (S f2.name),.int .i64 f2.number,.int .i64 f2.kind,.string (S f2.type),.bool f2.many,.int .i64 f2.choice] 40))).grown ag (bv.ne hrow2 (by decide))
       have q1:=aj.other (aj.ne_blk bg (by decide)) 1 (.slice a6 n6 c6)
       have q2:=bw.other (bw.ne_blk bg (by decide)) 1 (.slice a6 n6 c6)
       have q3:=heap_setCell_same _ _ 1 _ _ (.slice a6 n6 c6) bg
       have q4:=A4y (i:=1) (x:=.slice a6 n6 c6) bl hC
       clear bg bw aj ag e0 e1 e2 e3 d0 d1 d2 d3 d4 d5 hc3 ik hk3 hlk hc1 hrow2 bv hk2
       go_wp2_with fail
       go_roundg (nf - (j+1))
       case measure=>omega
       case rel=>
        refine⟨j+1,fs++[f2],.slice a6 n6 c6,by omega,by go_num,q1,q2,q3,?_,by simp;omega,q4⟩
        show _=_
        rw[A0z fq.out,List.map_append,←HJ.out,fk.out];rfl
     ·obtain⟨av,nv,cv,rfl,g9⟩:=hrow.shape'
      obtain⟨e0,e1,e2⟩:=A4s bu
      have hoi:=(ak.block G fy).trans bp
      obtain⟨p0,p1⟩:=A0t hoi
      have HF:Hid (fs=a.fields.map (A7h g0)):=by
       show _=_;rw[HJ.out,List.take_of_length_le (by rw[←Hf.out];omega)]
      have fj:=hro.below ak
      have dm:Row ekM (wi.alloc (.cells #[.string (S a.name),.slice av nv cv,.slice a5 n5 c5] 38)) (G+1) (.slice (some ⟨wi.heap.size,0,none⟩) 1 1) [(⟨a.name,fs,a.barred⟩,(av,nv,cv),(a5,n5,c5))]:=Row.one ekM wi (⟨a.name,fs,a.barred⟩,(av,nv,cv),(a5,n5,c5)) (by have:=ak.size;omega)
      have bt:=(Below.refl wi.heap.size wi).alloc (Nat.le_refl _) (.cells #[.string (S a.name),.slice av nv cv,.slice a5 n5 c5] 38)
      have ac:=fj.below bt
      have eu:=(bt.block G (by have:=ak.size;omega)).trans hoi
      have dt:=(hrow.mono (show G+1≤W1.heap.size by omega)).below bt
      have dp:=(cu.mono (show G+1≤W1.heap.size by omega)).below bt
      have a8:∀ p∈lo,Row ekF (wi.alloc (.cells #[.string (S a.name),.slice av nv cv,.slice a5 n5 c5] 38)) (G+1) p.2.1.v p.1.fields∧Row ekN (wi.alloc (.cells #[.string (S a.name),.slice av nv cv,.slice a5 n5 c5] 38)) (G+1) p.2.2.v p.1.barred:=fun p hp=>⟨((dv p hp).1.below ak).below bt,((dv p hp).2.below ak).below bt⟩
      have fx:Below G W0 (wi.alloc (.cells #[.string (S a.name),.slice av nv cv,.slice a5 n5 c5] 38)):=(hbr.trans (ak.mono (by omega))).trans (bt.mono (by have:=ak.size;omega))
      have iz:G+1≤wi.heap.size:=by have:=ak.size;omega
      clear dv bu hrow cu bp
      go_wp2_with (at_builtin;refine A3b rfl ekM _ _ rfl (G+1) _ lo [(⟨a.name,fs,a.barred⟩,(av,nv,cv),(a5,n5,c5))] rfl ac (G+1) _ rfl dm ?e1 ?e2 ?_)
      case e1=>(try simp);omega
      case e2=>(try simp);omega
      intro v6 w6 aw ah
      have hown:=ac.own
      have ee:Below G W0 w6:=fx.grown ah (by(try simp);omega) (fun k hk=>by have:=(hown k hk).1;omega)
      have br:=(ah.block G (Array.getElem?_eq_some_iff.1 eu).1 (fun hh=>by have:=(hown G hh.symm).1;omega)).trans eu
      have g1:=A0b br 0
      obtain⟨k0,k1⟩:=A0t br
      obtain⟨a6,n6,c6,rfl,ip⟩:=aw.shape'
      have dr:=dt.grown ah (dt.ne ac (by decide))
      have dn:=dp.grown ah (dp.ne ac (by decide))
      have bh:∀ p∈lo,Row ekF w6 (G+1) p.2.1.v p.1.fields∧Row ekN w6 (G+1) p.2.2.v p.1.barred:=fun p hp=>⟨(a8 p hp).1.grown ah ((a8 p hp).1.ne ac (by decide)),(a8 p hp).2.grown ah ((a8 p hp).2.ne ac (by decide))⟩
      clear hown dm ac eu fx a8 p0 p1 e0 e1 e2
      go_wp2_with fail
      go_roundg (n1 - (k+1))
      case measure=>omega
      case rel=>
       refine⟨k+1,lo++[(⟨a.name,fs,a.barred⟩,(av,nv,cv),(a5,n5,c5))],.slice a6 n6 c6,by omega,by go_num,aw.other (fun hh=>by have:=(aw.own G hh).1;omega) 0 _,?_,heap_setCell_same _ _ 0 _ _ _ br,?_,by simp;omega,ee.setCell (p:=⟨G,0,none⟩) (show G≤(⟨G,0,none⟩:Addr).block from Nat.le_refl _) _⟩
       ·intro p hp
        rw[List.mem_append,List.mem_singleton] at hp
        rcases hp with hp|rfl
        ·exact⟨(bh p hp).1.other ((bh p hp).1.ne_blk br (by decide)) 0 _,(bh p hp).2.other ((bh p hp).2.ne_blk br (by decide)) 0 _⟩
        ·exact⟨dr.other (dr.ne_blk br (by decide)) 0 _,dn.other (dn.ne_blk br (by decide)) 0 _⟩
       ·show _=_
        rw[A0z Ha.out,List.map_append,List.map_append,HL.out]
        simp[C5q,HF.out]
  ·have fo:Hid (lo.map Prod.fst=g.msgs.map (C5q g0)):=by
    show _=_;rw[HL.out,List.take_of_length_le (by rw[←H1.out];omega)]
   have g7:=(hbr.block w.heap.size (by omega)).trans x1
   obtain⟨z0,z1⟩:=A0t g7
   go_wp2_with fail
   go_loopg [52] n2 (fun m i wr=>∃ (k:Nat) (le:List (EI×LV)) (vx:Value),k+m=n2∧i = .int .i64 k∧OwnG wr (G+1) (.slice ao no co) vx lo le∧wr.heap[G]?=some (.cells #[.slice ao no co,vx] 25 (0,0))∧Hid (le.map Prod.fst=g.enums.take k)∧le.length=k∧Below G W0 wr)
   case atStart=>exact⟨0,[],.slice none 0 0,by omega,rfl,⟨hro,Row.nil _ _ _,dv,fun _ hp=>(List.not_mem_nil hp).elim⟩,bp,by show _=_;simp,rfl,hbr⟩
   case round=>
    clear g7 z0 z1 hro dv bp hbr bq gq fy
    obtain⟨k2,le,vx,hk2,rfl,dz,bp,HE,hle,hbr⟩:=hrel
    obtain⟨wq,ii⟩:∃ wq,wq=wr:=⟨_,rfl⟩
    subst ii
    have bq:Below w.heap.size w wq:=hb0.trans (hbr.mono (by omega))
    have gq:w.heap.size+3≤wq.heap.size:=by have:=hbr.size;omega
    obtain⟨ax,nx,cx,rfl,ir⟩:=dz.rowe.shape'
    by_cases hlt2:k2 < n2
    ·obtain⟨e,d9⟩:∃ e,Hid (g.enums[k2]?=some e):=⟨g.enums[k2]'(by rw[←H2.out];exact hlt2),List.getElem?_eq_getElem (by rw[←H2.out];exact hlt2)⟩
     obtain⟨be,oe,rfl,hat⟩:=(hg.below bq).2.get EAt.plain d9.out
     obtain⟨vi,s0,s1,fh⟩:=hat.at
     obtain⟨ai,ni,ci,rfl,Hi,_⟩:=fh.shape
     have gh:(k2:Int) < (n2:Int):=by omega
     have eo:Hid ((([]:List II).length+e.items.length)*ekT.bytes≤140737488355328):=by
      show _≤_;have:=(ew.2.1 e (A3g d9.out)).2.2;unfold reachBytes at this;simp[ekT];omega
     obtain⟨W3,df⟩:∃ W3,Hid (W3=wq.alloc (.cells #[.string (S e.name),.slice ai ni ci] 100)):=⟨_,rfl⟩
     have hb3:Below wq.heap.size wq W3:=by rw[df.out];exact(Below.refl _ _).alloc (Nat.le_refl _) _
     have hz3:wq.heap.size+1≤W3.heap.size:=by rw[df.out];simp
     have fz:W3.heap[wq.heap.size]?=some (.cells #[.string (S e.name),.slice ai ni ci] 100 (0,0)):=by rw[df.out];exact heap_alloc_new _ _
     have ei:=(hb3.block G (by omega)).trans bp
     have ba:=((fh.below TAt.stays hb3).below TAt.stays (Below.refl W3.heap.size W3).drew).srcT
     have au:=dz.below hb3
     have hlx:(le.length + [(e,((none,0,0):LV))].length)*ekE.bytes≤140737488355328:=by simp[ekE];omega
     obtain⟨d0,d1⟩:=A0t (w:=W3.drew) fz
     have d2:=(A0t (w:=W3.drew) ei).2
     have bc:Below G W0 W3:=hbr.trans (hb3.mono (by omega))
     clear hat bp hbr dz
     go_wp2_with fail
     rw[←df.out]
     clear s0 s1 hg hg0 hp ew gj gl HL fo x1 x2 x3 hb0 bk bq H1 H2 fh hb3 df gh il HG
     go_region_law (first|(refine A6j (by rfl) ekT _ _ (by rfl) (G+1) (.slice none 0 0) [] e.items (by rfl) (Row.nil _ _ _) ai ni ci (by rfl) Hi.out.symm ba.2.1 ba.2.2 (by decide) eo.out (by show G+1≤W3.heap.size;omega) ?_;intro v5 w5 aj ag;obtain⟨a5,n5,c5,rfl,H5⟩:=aj.shape';have f6:w5.heap[wq.heap.size]?=some (.cells #[.string (S e.name),.slice ai ni ci] 100 (0,0)):=(ag.block wq.heap.size (by show _ < W3.heap.size;omega) (by simp[Value.ownBlock])).trans fz;have bn:w5.heap[G]?=some (.cells #[.slice ao no co,.slice ax nx cx] 25 (0,0)):=(ag.block G (by show _ < W3.heap.size;omega) (by simp[Value.ownBlock])).trans ei;have t0:=A0a f6 0 _ rfl;have t1:=A0a bn 1 _ rfl;have t2:=fun o=>A0a ((Below.heap_alloc w5 o G (Array.getElem?_eq_some_iff.1 bn).1).trans bn) 1 _ rfl)|(refine A6j (by rfl) ekE _ _ (by rfl) (G+1) (.slice ax nx cx) le [(e,(a5,n5,c5))] (by rfl) (D5n au.rowe ag _) (some ⟨w5.heap.size,0,none⟩) 1 1 (by rfl) rfl (fun h=>by cases h) (C6a ekE w5 (e,(a5,n5,c5))) (by decide) hlx (by have:=(Array.getElem?_eq_some_iff.1 bn).1;simp;omega) ?_;intro v7 w7 fd dy;obtain⟨a7,n7,c7,rfl,H7⟩:=fd.shape';have di:w7.heap[G]?=some (.cells #[.slice ao no co,.slice ax nx cx] 25 (0,0)):=(dy.block G (by have:=(Array.getElem?_eq_some_iff.1 bn).1;simp;omega) (fun hh=>au.rowe.ne_blk ei (by decide) hh.symm)).trans ((Below.heap_alloc w5 _ G (Array.getElem?_eq_some_iff.1 bn).1).trans bn);have e1:=A0a di 1 _ rfl;have e3:=A0b di 1))
     all_goals
      have fu:Below G W0 w7:=C8t (B0j (C8t (bc.drew) (by omega) ag (fun k hk=>by simp[Value.ownBlock] at hk)) (by omega) _) (by omega) dy (fun k hk=>by have:=(au.rowe.own k hk).1;omega)
      have hq:=au.appE (e:=e) aj ag dy fd di (i:=1) (x:=.slice a7 n7 c7)
      have q3:=heap_setCell_same _ _ 1 _ _ (.slice a7 n7 c7) di
      have q4:=A4y (i:=1) (x:=.slice a7 n7 c7) fu (Nat.le_refl _)
      clear aj ag dy fd di e1 e3 t0 t1 t2 f6 bn fu au ba d0 d1 d2
      go_wp2_with fail
      go_roundg (n2 - (k2+1))
      case measure=>omega
      case rel=>
       refine⟨k2+1,le++[(e,(a5,n5,c5))],.slice a7 n7 c7,by omega,by go_num,hq,q3,?_,by simp;omega,q4⟩
       show _=_
       rw[A0z d9.out,List.map_append,HE.out];rfl
    ·have g8:Hid (le.map Prod.fst=g.enums):=by
      show _=_;rw[HE.out,List.take_of_length_le (by rw[←H2.out];omega)]
     have hR:=(hbr.block (w.heap.size+1) (by omega)).trans x2
     obtain⟨q0,q1⟩:=A0t hR
     have f0:=A0b hR 0
     have f1:=A0b hR 1
     obtain⟨o0,o1⟩:=A0t bp
     go_wp2
     refine bodyPost_ret (v:=.agg #[.slice ao no co,.slice ax nx cx]) (by simp[results,Tryz.results52,go_sem, *]) rfl ?_
     refine⟨_,_,lo,le,rfl,?_,fo.out,g8.out,?_⟩
     ·exact dz.set2 (by omega) hR
     ·exact D4s bq _ _
end L
end Go.Proofs.YtgaoojpakjjdnaaGreatDoor
