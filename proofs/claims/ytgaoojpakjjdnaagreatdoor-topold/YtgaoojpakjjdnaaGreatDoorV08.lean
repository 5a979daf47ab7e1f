import Derived.Test.YtgaoojpakjjdnaaGreatDoorV07
import Derived.Deep.DrawnRows
import Derived.Deep.CutRange
set_option maxHeartbeats 32000000
set_option maxRecDepth 100000
namespace Go.Proofs.YtgaoojpakjjdnaaGreatDoor
namespace L
open Go.RowKit
attribute [local go_sem ↓] Go.wp_at_zero Go.wp_at_succ
theorem B1y {W V:World}{B:Nat}(h:Below B W V)(hB:B≤W.heap.size)(o:Obj):Below B W (V.alloc o):=h.alloc (Nat.le_trans hB h.size) o
theorem A5r {W V:World}{B g i:Nat}{x:Value}(h:Below B W V)(hg:B≤g):Below B W (V.setCell ⟨g,i,none⟩ x):=h.setCell (p:=⟨g,i,none⟩) hg x
theorem D0x {W V V':World}{B:Nat}{r:Option Nat}(h:Below B W V)(hB:B≤W.heap.size)(hg:V.grownBy V' r)(hr:∀ k,r=some k→B≤k):Below B W V':=h.grown hg (Nat.le_trans hB h.size) hr
theorem C8n {α:Type}(E:EK α)(w:World)(y : α):∀ ad,some (⟨w.heap.size,0,none⟩:Addr)=some ad→∀ k z,[y][k]?=some z→∀ j u,(E.enc z)[j]?=some u→(w.alloc (.cells (E.enc y).toArray E.elem)).cell? (ad.add (k*E.size+j))=some u:=by
 intro ad had k z hz j u hu
 cases had
 cases k with
 | succ k=>simp at hz
 | zero=>
  have hz:y=z:=by simpa using hz
  subst hz
  rw[A0e,Nat.zero_mul,Nat.zero_add,Nat.zero_add]
  exact A0a (heap_alloc_new w _) j u (by simpa using hu)
theorem OwnG.set2 {w:World}{base base' h:Nat}{vm ve:Value}{lm:List (MI×LV×LV)}{le:List (EI×LV)}(hg:OwnG w base vm ve lm le)(hb:base'≤base){cs:Array Value}{fr:Nat×Nat}(hh:w.heap[h]?=some (.cells cs 25 fr)){x y:Value}{i j:Nat}:OwnG ((w.setCell ⟨h,i,none⟩ x).setCell ⟨h,j,none⟩ y) base' vm ve lm le:=by
 have k:∀ {α:Type}{E:EK α}{v:Value}{l:List α},Row E w base v l→25≠E.elem→Row E ((w.setCell ⟨h,i,none⟩ x).setCell ⟨h,j,none⟩ y) base' v l:=fun hr hne=>(((hr.other (hr.ne_blk hh hne) i x).other (hr.ne_blk hh hne) j y)).mono hb
 exact⟨k hg.rowm (by decide),k hg.rowe (by decide),fun p hp=>⟨k (hg.ms p hp).1 (by decide),k (hg.ms p hp).2 (by decide)⟩,fun p hp=>k (hg.es p hp) (by decide)⟩
theorem OwnG.below {w w':World}{base:Nat}{vm ve:Value}{lm:List (MI×LV×LV)}{le:List (EI×LV)}(h:OwnG w base vm ve lm le)(hb:Below w.heap.size w w'):OwnG w' base vm ve lm le:=
 ⟨h.rowm.below hb,h.rowe.below hb,fun p hp=>⟨(h.ms p hp).1.below hb,(h.ms p hp).2.below hb⟩,fun p hp=>(h.es p hp).below hb⟩
theorem RdL.srcT {w:World}{ao:Option Addr}{n cap:Nat}{l:List II}(h:RdL 2 TAt w (.slice ao n cap) l):l.length=n∧(ao=none→n=0∧cap=0)∧∀ ad,ao=some ad→∀ k y,l[k]?=some y→∀ j u,(ekT.enc y)[j]?=some u→w.cell? (ad.add (k*ekT.size+j))=some u:=by
 have hl:=h.len
 have hn:ao=none→n=0∧cap=0:=by obtain⟨ac,n',cap',e,_,_,_,h4,_⟩:=h;cases e;exact h4
 refine⟨hl.1.symm,hn,fun ad had k y hy j u hu=>?_⟩
 obtain⟨b,o,e,h6⟩:=h.get TAt.plain hy
 rw[e] at had
 cases had
 rw[A0e]
 obtain⟨t0,t1⟩:=h6.at
 show w.cell? ⟨b,o+(k*2+j),none⟩=some u
 match j,hu with
 | 0,hu=>
  have hu:Value.string (S y.name)=u:=by simpa [ekT,D7g] using hu
  rw[←hu];simpa using t0
 | 1,hu=>
  have hu:Value.int .i64 y.value=u:=by simpa [ekT,D7g] using hu
  rw[←hu,←Nat.add_assoc];exact t1
 | j+2,hu=>simp[ekT,D7g] at hu
section
variable {w3 w5 w7:World}{base G:Nat}{vx:Value}{le:List (EI×LV)}{o:Obj}
theorem D3l {α:Type}{E:EK α}{w:World}{base:Nat}{v:Value}{l:List α}(h:Row E w base v l):Row E w.drew base v l:=h.keep fun _ _ _=>rfl
theorem C2v {α:Type}{E:EK α}{v:Value}{l:List α}(h:Row E w3 base v l)(ac:w3.drew.grownBy w5 (Value.slice none 0 0).ownBlock):Row E w5 base v l:=(D3l h).grown ac (by
 cases hv:v.ownBlock with
 | none=>exact .inl rfl
 | some k=>right;simp[Value.ownBlock])
theorem D7v {α:Type}{E:EK α}{v:Value}{l:List α}(h:Row E w3 base v l)(ac:w3.drew.grownBy w5 (Value.slice none 0 0).ownBlock)(o:Obj):Row E (w5.alloc o) base v l:=(C2v h ac).below ((Below.refl _ _).alloc (Nat.le_refl _) _)
theorem D2d (hx:Row ekE w3 base vx le)(ac:w3.drew.grownBy w5 (Value.slice none 0 0).ownBlock)(ag:(w5.alloc o).grownBy w7 vx.ownBlock){cs:Array Value}{fr:Nat×Nat}(hG:w7.heap[G]?=some (.cells cs 25 fr)){i:Nat}{x:Value}{α:Type}{E:EK α}{v:Value}{l:List α}(h:Row E w3 base v l)(hne:E.elem≠ekE.elem)(hf:25≠E.elem):Row E (w7.setCell ⟨G,i,none⟩ x) base v l:=by
 have h3:=(D7v h ac o).grown ag (h.ne hx hne)
 exact h3.other (h3.ne_blk hG hf) i x
theorem OwnG.appE {vm v7:Value}{lm:List (MI×LV×LV)}(hg:OwnG w3 base vm vx lm le){e:EI}{p5:LV}(ah:Row ekT w5 base p5.v ([]++e.items))(ac:w3.drew.grownBy w5 (Value.slice none 0 0).ownBlock)(ag:(w5.alloc o).grownBy w7 vx.ownBlock)(aj:Row ekE w7 base v7 (le++[(e,p5)])){cs:Array Value}{fr:Nat×Nat}(hG:w7.heap[G]?=some (.cells cs 25 fr)){i:Nat}{x:Value}:OwnG (w7.setCell ⟨G,i,none⟩ x) base vm v7 lm (le++[(e,p5)]):=by
 have ak:=C2v hg.rowe ac
 refine⟨D2d hg.rowe ac ag hG hg.rowm (by decide) (by decide),aj.other (aj.ne_blk hG (by decide)) i x,fun p hp=>⟨D2d hg.rowe ac ag hG (hg.ms p hp).1 (by decide) (by decide),D2d hg.rowe ac ag hG (hg.ms p hp).2 (by decide) (by decide)⟩,fun p hp=>?_⟩
 rcases List.mem_append.1 hp with hp|hp
 ·exact D2d hg.rowe ac ag hG (hg.es p hp) (by decide) (by decide)
 ·rw[List.mem_singleton] at hp
  subst hp
  have h3:=(ah.below ((Below.refl _ _).alloc (Nat.le_refl _) o)).grown ag (ah.ne ak (by decide))
  exact h3.other (h3.ne_blk hG (by decide)) i x
end
def C8d (g:GI)(m:MI):MI:=⟨m.name,m.fields.map (A8j g),m.barred⟩
theorem C3z {w:World}{vm ve:Value}{g g0:GI}{p:Nat}{g8 gz:Value}(hg:GRd w vm ve g)(gp:g.msgs.length≤10)(gq:g.enums.length≤10)(fd:GOk g)(hp:w.heap[p]?=some (.cells #[g8,gz] 25 (0,0)))(hg0:GRd w g8 gz g0) :
  Calls Tryz.prog 52 #[.agg #[vm,ve],.func (.func 53) #[] #[.pointer (some ⟨p,0,none⟩)]] w fun e w'=>∃ g7 gy lm le,e = .returned (.agg #[g7,gy])∧OwnG w' w.heap.size g7 gy lm le∧lm.map Prod.fst=g.msgs.map (C8d g0)∧le.map Prod.fst=g.enums∧Below w.heap.size w w':=by
 obtain⟨a1,n1,c1,rfl,H1,_⟩:=hg.1.shape
 obtain⟨a2,n2,c2,rfl,H2,_⟩:=hg.2.shape
 have h1:n1≤10:=by rw[H1.out];exact gp
 have h2:n2≤10:=by rw[H2.out];exact gq
 obtain⟨W0,bn⟩:∃ W0,Hid (W0=((w.alloc (.cells #[.slice a1 n1 c1,.slice a2 n2 c2] 25)).alloc (.cells #[.slice none 0 0,.slice none 0 0] 25)).alloc (.cells #[.slice none 0 0,.slice none 0 0] 25)):=⟨_,rfl⟩
 have hb0:Below w.heap.size w W0:=by rw[bn.out];exact(((Below.refl _ _).alloc (Nat.le_refl _) _).alloc (by simp) _).alloc (by simp;omega) _
 obtain⟨G,HG⟩:∃ G,Hid (G=w.heap.size+1+1):=⟨_,rfl⟩
 have ix:G≤w.heap.size+2:=Nat.le_of_eq HG.out
 have iy:w.heap.size+2≤G:=Nat.le_of_eq HG.out.symm
 have hz0:W0.heap.size≤w.heap.size+3:=by rw[bn.out];simp
 have hz0':w.heap.size+3≤W0.heap.size:=by rw[bn.out];simp
 have x1:W0.heap[w.heap.size]?=some (.cells #[.slice a1 n1 c1,.slice a2 n2 c2] 25 (0,0)):=by
  rw[bn.out,Below.heap_alloc _ _ _ (by simp;omega)];exact A0o _ _ _
 have x2:W0.heap[w.heap.size+1]?=some (.cells #[.slice none 0 0,.slice none 0 0] 25 (0,0)):=by
  rw[bn.out,Below.heap_alloc _ _ _ (by simp)];exact A0j _ _ _
 have x3:W0.heap[G]?=some (.cells #[.slice none 0 0,.slice none 0 0] 25 (0,0)):=by
  have:=heap_alloc_new ((w.alloc (.cells #[.slice a1 n1 c1,.slice a2 n2 c2] 25)).alloc (.cells #[.slice none 0 0,.slice none 0 0] 25)) (.cells #[.slice none 0 0,.slice none 0 0] 25)
  rw[←bn.out] at this
  rw[HG.out];simpa using this
 go_enter Tryz.func52,Tryz.ntmps52
 go_wp2_with fail
 rw[←bn.out,←HG.out]
 go_loopg [16] n1 (fun m i wr=>∃ (k:Nat) (lo:List (MI×LV×LV)) (vo:Value),k+m=n1∧i = .int .i64 k∧Row ekM wr (G+1) vo lo∧(∀ p∈lo,Row ekF wr (G+1) p.2.1.v p.1.fields∧Row ekN wr (G+1) p.2.2.v p.1.barred)∧wr.heap[G]?=some (.cells #[vo,.slice none 0 0] 25 (0,0))∧Hid (lo.map Prod.fst=(g.msgs.take k).map (C8d g0))∧lo.length=k∧Below G W0 wr)
 case atStart=>exact⟨0,[],.slice none 0 0,by omega,rfl,Row.nil _ _ _,fun _ hp=>(List.not_mem_nil hp).elim,x3,by show _=_;simp,rfl,Below.refl _ _⟩
 case round=>
  obtain⟨k,lo,vo,hk,rfl,hro,dx,br,HL,io,hbr⟩:=hrel
  obtain⟨wo,ij⟩:∃ wo,wo=wr:=⟨_,rfl⟩
  subst ij
  have bt:Below w.heap.size w wo:=hb0.trans (hbr.mono (by omega))
  have gw:w.heap.size+3≤wo.heap.size:=by have:=hbr.size;omega
  have f6:G<wo.heap.size:=by omega
  obtain⟨ao,no,co,rfl,iu⟩:=hro.shape'
  by_cases hlt:k<n1
  ·obtain⟨a,Ha⟩:∃ a,Hid (g.msgs[k]?=some a):=⟨g.msgs[k]'(by rw[←H1.out];exact hlt),List.getElem?_eq_getElem (by rw[←H1.out];exact hlt)⟩
   obtain⟨b,off,rfl,hat⟩:=(hg.below bt).1.get MAt.plain Ha.out
   obtain⟨vf,vb,s0,s1,s2,gu,fj⟩:=hat.at
   obtain⟨af,nf,cf,rfl,Hf,_⟩:=gu.shape
   obtain⟨ab,nb,cb,rfl,Hb,_⟩:=fj.shape
   have gj:(k:Int)<(n1:Int):=by omega
   have gl:=fd.1 a (A3u Ha.out)
   have hbytes:Hid ((([]:List Int).length+a.barred.length)*ekN.bytes≤140737488355328):=by
    show _≤_;have:=gl.2.2.2.2;unfold reachBytes at this;simp[ekN];omega
   obtain⟨W1,dg⟩:∃ W1,Hid (W1=wo.alloc (.cells #[.string (S a.name),.slice af nf cf,.slice ab nb cb] 38)):=⟨_,rfl⟩
   have gg:Below wo.heap.size wo W1:=by rw[dg.out];exact(Below.refl _ _).alloc (Nat.le_refl _) _
   have hz1:W1.heap.size≤wo.heap.size+1:=by rw[dg.out];simp
   have ip:wo.heap.size+1≤W1.heap.size:=by rw[dg.out];simp
   have hx1:W1.heap[wo.heap.size]?=some (.cells #[.string (S a.name),.slice af nf cf,.slice ab nb cb] 38 (0,0)):=by rw[dg.out];exact heap_alloc_new _ _
   have dy:∀ V,Below W1.heap.size W1 V→∀ ad,ab=some ad→∀ k y,a.barred[k]?=some y→∀ j u,(ekN.enc y)[j]?=some u→V.cell? (ad.add (k*ekN.size+j))=some u:=fun V hV=>((fj.below NAt.stays gg).below NAt.stays hV).srcN.2.2
   have hnil:ab=none→nb=0∧cb=0:=fj.srcN.2.1
   have gh:∀ V,Below W1.heap.size W1 V→Below W1.heap.size W1 V∧V.cell? ⟨wo.heap.size,0,none⟩=some (.string (S a.name))∧V.cell? ⟨wo.heap.size,2,none⟩=some (.slice ab nb cb):=fun V hV=>⟨hV,A0c hV (A0a hx1 0 _ rfl),A0c hV (A0a hx1 2 _ rfl)⟩
   have fw:∀ V,(W1.alloc (.cells #[.string ⟨#[]⟩,.slice none 0 0,.slice none 0 0] 38)).drew.grownBy V (Value.slice none 0 0).ownBlock→V.heap[W1.heap.size]?=some (.cells #[.string ⟨#[]⟩,.slice none 0 0,.slice none 0 0] 38 (0,0)):=fun V hV=>(hV.block W1.heap.size (by show _<(W1.alloc _).heap.size;simp) (by simp[Value.ownBlock])).trans (heap_alloc_new W1 _)
   clear hat
   go_wp2_with fail
   rw[←dg.out]
   go_cut [8,16] from 16 to 48 (fun s8 iq wc=>iq = .int .i64 k∧∃ (C:Nat) (a5:Option Addr) (n5 c5:Nat),s8 = .pointer (some ⟨C,0,none⟩)∧W1.heap.size≤C∧wc.heap[C]?=some (.cells #[.string (S a.name),.slice none 0 0,.slice a5 n5 c5] 38 (0,0))∧Row ekN wc W1.heap.size (.slice a5 n5 c5) a.barred∧Below W1.heap.size W1 wc)
   case first=>
    go_region_held3 (fun V=>Below W1.heap.size W1 V∧V.cell? ⟨wo.heap.size,0,none⟩=some (.string (S a.name))∧V.cell? ⟨wo.heap.size,2,none⟩=some (.slice ab nb cb)) ((refine gh _ ?_;first|exact(Below.refl _ _).drew|exact bp|exact B1y bp (Nat.le_refl _) _|exact B1y (Below.refl _ _).drew (Nat.le_refl _) _|exact A5r (A5r (A5r bp (Nat.le_refl _)) (Nat.le_refl _)) (Nat.le_refl _))) ((go_split_ands;refine A7i (by rfl) ekN _ _ (by rfl) W1.heap.size (.slice none 0 0) [] a.barred (by rfl) (Row.nil _ _ _) ab nb cb (by rfl) Hb.out.symm hnil (dy _ (by assumption)) (by decide) hbytes.out (Below.size (by assumption)) ?_;intro v5 w5 aj ag;obtain⟨a5,n5,c5,rfl,H5⟩:=aj.shape';have bp:Below W1.heap.size W1 w5:=D0x (by assumption) (Nat.le_refl _) ag (fun k hk=>by simp[Value.ownBlock] at hk);try(have cw:=fw _ ag;obtain⟨q0,q1,q2⟩:=A4p cw;have r0:=A0b cw 0;have r1:=A0b cw 1;have r2:=A0b cw 2)))
    ·have bh:(w5.alloc (.cells #[.string (S a.name),.slice none 0 0,.slice a5 n5 c5] 38)).heap[w5.heap.size]?=some (.cells #[.string (S a.name),.slice none 0 0,.slice a5 n5 c5] 38 (0,0)):=heap_alloc_new _ _
     have fe:=aj.below ((Below.refl _ _).alloc (Nat.le_refl _) (.cells #[.string (S a.name),.slice none 0 0,.slice a5 n5 c5] 38))
     go_wp2_with fail
     go_meet
     case rel=>exact⟨rfl,w5.heap.size,a5,n5,c5,rfl,bp.size,bh,fe,B1y bp (Nat.le_refl _) _⟩
    ·have hne:=aj.ne_blk cw (by decide)
     have bh:=heap_setCell_same _ _ 2 _ _ (.slice a5 n5 c5) (heap_setCell_same _ _ 1 _ _ (.slice none 0 0) (heap_setCell_same _ _ 0 _ _ (.string (S a.name)) cw))
     have fe:=((aj.other hne 0 (.string (S a.name))).other hne 1 (.slice none 0 0)).other hne 2 (.slice a5 n5 c5)
     have ei:Below W1.heap.size W1 (((w5.setCell ⟨W1.heap.size,0,none⟩ (.string (S a.name))).setCell ⟨W1.heap.size,1,none⟩ (.slice none 0 0)).setCell ⟨W1.heap.size,2,none⟩ (.slice a5 n5 c5)):=A5r (A5r (A5r bp (Nat.le_refl _)) (Nat.le_refl _)) (Nat.le_refl _)
     go_wp2_with fail
     go_meet
     case rel=>exact⟨rfl,W1.heap.size,a5,n5,c5,rfl,Nat.le_refl _,bh,fe,ei⟩
   case rest=>
    obtain⟨rfl,C,a5,n5,c5,rfl,hC,bw,df,ej⟩:=hcut
    obtain⟨m0,m1,m2⟩:=A4p ((ej.block wo.heap.size (by omega)).trans hx1)
    clear dy hnil gh fw hbytes
    go_wp2_with fail
    go_loopg [29] nf (fun m i wi=>∃ (j:Nat) (fs:List FI) (vf:Value),j+m=nf∧i = .int .i64 j∧Row ekF wi W1.heap.size vf fs∧Row ekN wi W1.heap.size (.slice a5 n5 c5) a.barred∧wi.heap[C]?=some (.cells #[.string (S a.name),vf,.slice a5 n5 c5] 38 (0,0))∧Hid (fs=(a.fields.take j).map (A8j g0))∧fs.length=j∧Below W1.heap.size W1 wi)
    case atStart=>exact⟨0,[],.slice none 0 0,by omega,rfl,Row.nil _ _ _,df,bw,by show _=_;simp,rfl,ej⟩
    case round=>
     clear m0 m1 m2 bw df ej
     obtain⟨j,fs,vf,hj,rfl,hrow,df,bw,HJ,iz,et⟩:=hrel
     obtain⟨wi,ii⟩:∃ wi,wi=wr:=⟨_,rfl⟩
     subst ii
     have ak:Below wo.heap.size wo wi:=gg.trans (et.mono (by omega))
     have il:C<wi.heap.size:=(Array.getElem?_eq_some_iff.1 bw).1
     by_cases hjl:j<nf
     ·obtain⟨f,fu⟩:∃ f,Hid (a.fields[j]?=some f):=⟨a.fields[j]'(by rw[←Hf.out];exact hjl),List.getElem?_eq_getElem (by rw[←Hf.out];exact hjl)⟩
      obtain⟨bf,of,rfl,gi⟩:=(gu.below FAt.stays ak).get FAt.plain fu.out
      obtain⟨y0,y1,y2,y3,y4,y5⟩:=gi.at
      have i6:(j:Int)<(nf:Int):=by omega
      obtain⟨W2,dz⟩:∃ W2,Hid (W2=wi.alloc (.cells #[.string (S f.name),.int .i64 f.number,.int .i64 f.kind,.string (S f.type),.bool f.many,.int .i64 f.choice] 40)):=⟨_,rfl⟩
      have hb2:Below wi.heap.size wi W2:=by rw[dz.out];exact(Below.refl _ _).alloc (Nat.le_refl _) _
      have hz2:wi.heap.size+1≤W2.heap.size:=by rw[dz.out];simp
      have cu:W2.heap[wi.heap.size]?=some (.cells #[.string (S f.name),.int .i64 f.number,.int .i64 f.kind,.string (S f.type),.bool f.many,.int .i64 f.choice] 40 (0,0)):=by rw[dz.out];exact heap_alloc_new _ _
      have di:Below W1.heap.size W1 W2:=et.trans (hb2.mono (by have:=et.size;omega))
      have hk2:=(hb2.block C il).trans bw
      have hrow2:=hrow.below hb2
      have cg:=df.below hb2
      obtain⟨av,nv,cv,rfl,ig⟩:=hrow.shape'
      have dl:Below w.heap.size w W2:=(bt.trans (ak.mono (by omega))).trans (hb2.mono (by have:=ak.size;omega))
      obtain⟨f2,fq⟩:∃ f2,Hid (f2=A8j g0 f):=⟨_,rfl⟩
      have hlk:∀ V,Below W2.heap.size W2 V→Calls Tryz.prog 53 #[.agg #[.string (S f.name),.int .i64 f.number,.int .i64 f.kind,.string (S f.type),.bool f.many,.int .i64 f.choice],.pointer (some ⟨p,0,none⟩)] V fun e V'=>e = .returned (.agg #[.string (S f2.name),.int .i64 f2.number,.int .i64 f2.kind,.string (S f2.type),.bool f2.many,.int .i64 f2.choice])∧Below V.heap.size V V':=by
       intro V hV
       have fy:Below w.heap.size w V:=dl.trans (hV.mono dl.size)
       have:=C4y ((fy.block p (Array.getElem?_eq_some_iff.1 hp).1).trans hp) (hg0.below fy) f
       rw[←fq.out] at this
       exact this
      have dn:∀ V,Below W2.heap.size W2 V→Below W1.heap.size W1 V∧V.cell? ⟨wi.heap.size,0,none⟩=some (.string (S f.name))∧V.cell? ⟨wi.heap.size,1,none⟩=some (.int .i64 f.number)∧V.cell? ⟨wi.heap.size,2,none⟩=some (.int .i64 f.kind)∧V.cell? ⟨wi.heap.size,3,none⟩=some (.string (S f.type))∧V.cell? ⟨wi.heap.size,4,none⟩=some (.bool f.many)∧V.cell? ⟨wi.heap.size,5,none⟩=some (.int .i64 f.choice):=fun V hV=>⟨di.trans (hV.mono di.size),A0c hV (A0a cu 0 _ rfl),A0c hV (A0a cu 1 _ rfl),A0c hV (A0a cu 2 _ rfl),A0c hV (A0a cu 3 _ rfl),A0c hV (A0a cu 4 _ rfl),A0c hV (A0a cu 5 _ rfl)⟩
      have ew:Hid ((fs.length + [f2].length)*ekF.bytes≤140737488355328):=by
       show _≤_
       have:=gl.2.2.2.1
       unfold reachBytes at this
       rw[←Hf.out] at this
       simp[ekF];omega
      have hc1:=A0a hk2 1 _ rfl
      clear gi
      go_wp2_with fail
      rw[←dz.out]
      obtain⟨_,d0,d1,d2,d3,d4,d5⟩:=dn W2.drew (Below.refl _ _).drew
      clear dn
      go_region_law (first|(rw[if_pos (by rfl)];go_simp;refine(hlk _ (Below.refl _ _).drew).mono ?_;rintro e w3 ⟨rfl,hb3⟩;have bg:Below W2.heap.size W2 w3:=(Below.refl _ _).drew.trans hb3;have hk3:=(bg.block C (by omega)).trans hk2;have hc3:=A0a hk3 1 _ rfl;have im:=fun o=>A0a ((Below.heap_alloc w3 o C (Array.getElem?_eq_some_iff.1 hk3).1).trans hk3) 1 _ rfl)|(refine A7i (by rfl) ekF _ _ (by rfl) W1.heap.size (.slice av nv cv) fs [f2] (by rfl) ((hrow2.below bg).below ((Below.refl _ _).alloc (Nat.le_refl _) _)) (some ⟨w3.heap.size,0,none⟩) 1 1 (by rfl) rfl (fun h=>by cases h) (C8n ekF w3 f2) (by decide) ew.out (by have:=bg.size;have:=di.size;simp;omega) ?_;intro v5 w5 aj ag;obtain⟨a6,n6,c6,rfl,H6⟩:=aj.shape';have bp:Below W1.heap.size W1 w5:=D0x (B1y (di.trans (bg.mono di.size)) (Nat.le_refl _) _) (Nat.le_refl _) ag (fun k hk=>((hrow2.below bg).own k hk).1);have bh:w5.heap[C]?=some (.cells #[.string (S a.name),.slice av nv cv,.slice a5 n5 c5] 38 (0,0)):=(ag.block C (by have:=bg.size;simp;omega) (fun hh=>hrow2.ne_blk hk2 (by decide) hh.symm)).trans ((Below.heap_alloc w3 _ C (by have:=bg.size;omega)).trans hk3);obtain⟨e0,e1,e2⟩:=A4p bh;have e3:=A0b bh 1))
      all_goals
       have cj:=((cg.below bg).below ((Below.refl _ _).alloc (Nat.le_refl _) (.cells #[.string (S f2.name),.int .i64 f2.number,.int .i64 f2.kind,.string (S f2.type),.bool f2.many,.int .i64 f2.choice] 40))).grown ag (cg.ne hrow2 (by decide))
       have q1:=aj.other (aj.ne_blk bh (by decide)) 1 (.slice a6 n6 c6)
       have q2:=cj.other (cj.ne_blk bh (by decide)) 1 (.slice a6 n6 c6)
       have q3:=heap_setCell_same _ _ 1 _ _ (.slice a6 n6 c6) bh
       have q4:=A5r (i:=1) (x:=.slice a6 n6 c6) bp hC
       clear bh cj aj ag e0 e1 e2 e3 d0 d1 d2 d3 d4 d5 hc3 im hk3 hlk hc1 hrow2 cg hk2
       go_wp2_with fail
       go_roundg (nf-(j+1))
       case measure=>omega
       case rel=>
        refine⟨j+1,fs++[f2],.slice a6 n6 c6,by omega,by go_num,q1,q2,q3,?_,by simp;omega,q4⟩
        show _=_
        rw[A0z fu.out,List.map_append,←HJ.out,fq.out];rfl
     ·obtain⟨av,nv,cv,rfl,ig⟩:=hrow.shape'
      obtain⟨e0,e1,e2⟩:=A4p bw
      have hoi:=(ak.block G f6).trans br
      obtain⟨p0,p1⟩:=A0y hoi
      have HF:Hid (fs=a.fields.map (A8j g0)):=by
       show _=_;rw[HJ.out,List.take_of_length_le (by rw[←Hf.out];omega)]
      have fo:=hro.below ak
      have dp:Row ekM (wi.alloc (.cells #[.string (S a.name),.slice av nv cv,.slice a5 n5 c5] 38)) (G+1) (.slice (some ⟨wi.heap.size,0,none⟩) 1 1) [(⟨a.name,fs,a.barred⟩,(av,nv,cv),(a5,n5,c5))]:=Row.one ekM wi (⟨a.name,fs,a.barred⟩,(av,nv,cv),(a5,n5,c5)) (by have:=ak.size;omega)
      have bv:=(Below.refl wi.heap.size wi).alloc (Nat.le_refl _) (.cells #[.string (S a.name),.slice av nv cv,.slice a5 n5 c5] 38)
      have ac:=fo.below bv
      have fc:=(bv.block G (by have:=ak.size;omega)).trans hoi
      have dw:=(hrow.mono (show G+1≤W1.heap.size by omega)).below bv
      have dt:=(df.mono (show G+1≤W1.heap.size by omega)).below bv
      have ba:∀ p∈lo,Row ekF (wi.alloc (.cells #[.string (S a.name),.slice av nv cv,.slice a5 n5 c5] 38)) (G+1) p.2.1.v p.1.fields∧Row ekN (wi.alloc (.cells #[.string (S a.name),.slice av nv cv,.slice a5 n5 c5] 38)) (G+1) p.2.2.v p.1.barred:=fun p hp=>⟨((dx p hp).1.below ak).below bv,((dx p hp).2.below ak).below bv⟩
      have fz:Below G W0 (wi.alloc (.cells #[.string (S a.name),.slice av nv cv,.slice a5 n5 c5] 38)):=(hbr.trans (ak.mono (by omega))).trans (bv.mono (by have:=ak.size;omega))
      have i7:G+1≤wi.heap.size:=by have:=ak.size;omega
      clear dx bw hrow df br
      go_wp2_with (at_builtin;refine A2r rfl ekM _ _ rfl (G+1) _ lo [(⟨a.name,fs,a.barred⟩,(av,nv,cv),(a5,n5,c5))] rfl ac (G+1) _ rfl dp ?e1 ?e2 ?_)
      case e1=>(try simp);omega
      case e2=>(try simp);omega
      intro v6 w6 aw ah
      have hown:=ac.own
      have ei:Below G W0 w6:=fz.grown ah (by(try simp);omega) (fun k hk=>by have:=(hown k hk).1;omega)
      have bu:=(ah.block G (Array.getElem?_eq_some_iff.1 fc).1 (fun hh=>by have:=(hown G hh.symm).1;omega)).trans fc
      have g1:=A0b bu 0
      obtain⟨k0,k1⟩:=A0y bu
      obtain⟨a6,n6,c6,rfl,ir⟩:=aw.shape'
      have dv:=dw.grown ah (dw.ne ac (by decide))
      have dr:=dt.grown ah (dt.ne ac (by decide))
      have bk:∀ p∈lo,Row ekF w6 (G+1) p.2.1.v p.1.fields∧Row ekN w6 (G+1) p.2.2.v p.1.barred:=fun p hp=>⟨(ba p hp).1.grown ah ((ba p hp).1.ne ac (by decide)),(ba p hp).2.grown ah ((ba p hp).2.ne ac (by decide))⟩
      clear hown dp ac fc fz ba p0 p1 e0 e1 e2
      go_wp2_with fail
      go_roundg (n1-(k+1))
      case measure=>omega
      case rel=>
       refine⟨k+1,lo++[(⟨a.name,fs,a.barred⟩,(av,nv,cv),(a5,n5,c5))],.slice a6 n6 c6,by omega,by go_num,aw.other (fun hh=>by have:=(aw.own G hh).1;omega) 0 _,?_,heap_setCell_same _ _ 0 _ _ _ bu,?_,by simp;omega,ei.setCell (p:=⟨G,0,none⟩) (show G≤(⟨G,0,none⟩:Addr).block from Nat.le_refl _) _⟩
       ·intro p hp
        rw[List.mem_append,List.mem_singleton] at hp
        rcases hp with hp|rfl
        ·exact⟨(bk p hp).1.other ((bk p hp).1.ne_blk bu (by decide)) 0 _,(bk p hp).2.other ((bk p hp).2.ne_blk bu (by decide)) 0 _⟩
        ·exact⟨dv.other (dv.ne_blk bu (by decide)) 0 _,dr.other (dr.ne_blk bu (by decide)) 0 _⟩
       ·show _=_
        rw[A0z Ha.out,List.map_append,List.map_append,HL.out]
        simp[C8d,HF.out]
  ·have ft:Hid (lo.map Prod.fst=g.msgs.map (C8d g0)):=by
    show _=_;rw[HL.out,List.take_of_length_le (by rw[←H1.out];omega)]
   have g9:=(hbr.block w.heap.size (by omega)).trans x1
   obtain⟨z0,z1⟩:=A0y g9
   go_wp2_with fail
   go_loopg [52] n2 (fun m i wr=>∃ (k:Nat) (le:List (EI×LV)) (vx:Value),k+m=n2∧i = .int .i64 k∧OwnG wr (G+1) (.slice ao no co) vx lo le∧wr.heap[G]?=some (.cells #[.slice ao no co,vx] 25 (0,0))∧Hid (le.map Prod.fst=g.enums.take k)∧le.length=k∧Below G W0 wr)
   case atStart=>exact⟨0,[],.slice none 0 0,by omega,rfl,⟨hro,Row.nil _ _ _,dx,fun _ hp=>(List.not_mem_nil hp).elim⟩,br,by show _=_;simp,rfl,hbr⟩
   case round=>
    clear g9 z0 z1 hro dx br hbr bt gw f6
    obtain⟨k2,le,vx,hk2,rfl,ee,br,HE,hle,hbr⟩:=hrel
    obtain⟨wq,ik⟩:∃ wq,wq=wr:=⟨_,rfl⟩
    subst ik
    have bt:Below w.heap.size w wq:=hb0.trans (hbr.mono (by omega))
    have gw:w.heap.size+3≤wq.heap.size:=by have:=hbr.size;omega
    obtain⟨ax,nx,cx,rfl,iw⟩:=ee.rowe.shape'
    by_cases hlt2:k2<n2
    ·obtain⟨e,eh⟩:∃ e,Hid (g.enums[k2]?=some e):=⟨g.enums[k2]'(by rw[←H2.out];exact hlt2),List.getElem?_eq_getElem (by rw[←H2.out];exact hlt2)⟩
     obtain⟨be,oe,rfl,hat⟩:=(hg.below bt).2.get EAt.plain eh.out
     obtain⟨vi,s0,s1,fk⟩:=hat.at
     obtain⟨ai,ni,ci,rfl,Hi,_⟩:=fk.shape
     have gj:(k2:Int)<(n2:Int):=by omega
     have eu:Hid ((([]:List II).length+e.items.length)*ekT.bytes≤140737488355328):=by
      show _≤_;have:=(fd.2.1 e (A3u eh.out)).2.2;unfold reachBytes at this;simp[ekT];omega
     obtain⟨W3,dh⟩:∃ W3,Hid (W3=wq.alloc (.cells #[.string (S e.name),.slice ai ni ci] 100)):=⟨_,rfl⟩
     have hb3:Below wq.heap.size wq W3:=by rw[dh.out];exact(Below.refl _ _).alloc (Nat.le_refl _) _
     have hz3:wq.heap.size+1≤W3.heap.size:=by rw[dh.out];simp
     have f9:W3.heap[wq.heap.size]?=some (.cells #[.string (S e.name),.slice ai ni ci] 100 (0,0)):=by rw[dh.out];exact heap_alloc_new _ _
     have eo:=(hb3.block G (by omega)).trans br
     have bc:=((fk.below TAt.stays hb3).below TAt.stays (Below.refl W3.heap.size W3).drew).srcT
     have au:=ee.below hb3
     have hlx:(le.length + [(e,((none,0,0):LV))].length)*ekE.bytes≤140737488355328:=by simp[ekE];omega
     obtain⟨d0,d1⟩:=A0y (w:=W3.drew) f9
     have d2:=(A0y (w:=W3.drew) eo).2
     have bg:Below G W0 W3:=hbr.trans (hb3.mono (by omega))
     clear hat br hbr ee
     go_wp2_with fail
     rw[←dh.out]
     clear s0 s1 hg hg0 hp fd gp gq HL ft x1 x2 x3 hb0 bn bt H1 H2 fk hb3 dh gj io HG
     go_region_law (first|(refine A7i (by rfl) ekT _ _ (by rfl) (G+1) (.slice none 0 0) [] e.items (by rfl) (Row.nil _ _ _) ai ni ci (by rfl) Hi.out.symm bc.2.1 bc.2.2 (by decide) eu.out (by show G+1≤W3.heap.size;omega) ?_;intro v5 w5 aj ag;obtain⟨a5,n5,c5,rfl,H5⟩:=aj.shape';have gc:w5.heap[wq.heap.size]?=some (.cells #[.string (S e.name),.slice ai ni ci] 100 (0,0)):=(ag.block wq.heap.size (by show _<W3.heap.size;omega) (by simp[Value.ownBlock])).trans f9;have bq:w5.heap[G]?=some (.cells #[.slice ao no co,.slice ax nx cx] 25 (0,0)):=(ag.block G (by show _<W3.heap.size;omega) (by simp[Value.ownBlock])).trans eo;have t0:=A0a gc 0 _ rfl;have t1:=A0a bq 1 _ rfl;have t2:=fun o=>A0a ((Below.heap_alloc w5 o G (Array.getElem?_eq_some_iff.1 bq).1).trans bq) 1 _ rfl)|(refine A7i (by rfl) ekE _ _ (by rfl) (G+1) (.slice ax nx cx) le [(e,(a5,n5,c5))] (by rfl) (D7v au.rowe ag _) (some ⟨w5.heap.size,0,none⟩) 1 1 (by rfl) rfl (fun h=>by cases h) (C8n ekE w5 (e,(a5,n5,c5))) (by decide) hlx (by have:=(Array.getElem?_eq_some_iff.1 bq).1;simp;omega) ?_;intro v7 w7 fh d9;obtain⟨a7,n7,c7,rfl,H7⟩:=fh.shape';have dm:w7.heap[G]?=some (.cells #[.slice ao no co,.slice ax nx cx] 25 (0,0)):=(d9.block G (by have:=(Array.getElem?_eq_some_iff.1 bq).1;simp;omega) (fun hh=>au.rowe.ne_blk eo (by decide) hh.symm)).trans ((Below.heap_alloc w5 _ G (Array.getElem?_eq_some_iff.1 bq).1).trans bq);have e1:=A0a dm 1 _ rfl;have e3:=A0b dm 1))
     all_goals
      have fx:Below G W0 w7:=D0x (B1y (D0x (bg.drew) (by omega) ag (fun k hk=>by simp[Value.ownBlock] at hk)) (by omega) _) (by omega) d9 (fun k hk=>by have:=(au.rowe.own k hk).1;omega)
      have hq:=au.appE (e:=e) aj ag d9 fh dm (i:=1) (x:=.slice a7 n7 c7)
      have q3:=heap_setCell_same _ _ 1 _ _ (.slice a7 n7 c7) dm
      have q4:=A5r (i:=1) (x:=.slice a7 n7 c7) fx (Nat.le_refl _)
      clear aj ag d9 fh dm e1 e3 t0 t1 t2 gc bq fx au bc d0 d1 d2
      go_wp2_with fail
      go_roundg (n2-(k2+1))
      case measure=>omega
      case rel=>
       refine⟨k2+1,le++[(e,(a5,n5,c5))],.slice a7 n7 c7,by omega,by go_num,hq,q3,?_,by simp;omega,q4⟩
       show _=_
       rw[A0z eh.out,List.map_append,HE.out];rfl
    ·have ie:Hid (le.map Prod.fst=g.enums):=by
      show _=_;rw[HE.out,List.take_of_length_le (by rw[←H2.out];omega)]
     have hR:=(hbr.block (w.heap.size+1) (by omega)).trans x2
     obtain⟨q0,q1⟩:=A0y hR
     have f0:=A0b hR 0
     have f1:=A0b hR 1
     obtain⟨o0,o1⟩:=A0y br
     go_wp2
     refine bodyPost_ret (v:=.agg #[.slice ao no co,.slice ax nx cx]) (by simp[results,Tryz.results52,go_sem, *]) rfl ?_
     refine⟨_,_,lo,le,rfl,?_,ft.out,ie.out,?_⟩
     ·exact ee.set2 (by omega) hR
     ·exact D7a bt _ _
end L
end Go.Proofs.YtgaoojpakjjdnaaGreatDoor
