import Derived.Test.YtgaoojpakjjdnaaGreatDoorV44
import Derived.Defers
import Derived.Recover
set_option maxHeartbeats 32000000
set_option maxRecDepth 100000
namespace Go.Proofs.YtgaoojpakjjdnaaGreatDoor
open Go.RowKit
abbrev SV:=Option Addr×Nat×Nat
def SV.v (s:SV):Value:=.slice s.1 s.2.1 s.2.2
def D4n (p:Msg×SV×SV):List Value:=[.string (S p.1.name),.slice p.2.1.1 p.2.1.2.1 p.2.1.2.2,.slice p.2.2.1 p.2.2.2.1 p.2.2.2.2]
def B2m:EK (Msg×SV×SV) where
 elem:=38
 slice:=22
 size:=3
 bytes:=64
 zero:=.agg #[.string ⟨#[]⟩,.slice none 0 0,.slice none 0 0]
 enc:=D4n
 under:=Tryz.underlying22
 info:=by kernel_rfl
 zs:=rfl
 pos:=by decide
 small:=by decide
 len:=fun _=>rfl
 one:=by intro a u hu;simp only[D4n,List.mem_cons,List.mem_nil_iff,or_false] at hu;rcases hu with rfl|rfl|rfl <;> rfl
def D4l (p:Enm×SV):List Value:=[.string (S p.1.name),.slice p.2.1 p.2.2.1 p.2.2.2]
def B2l:EK (Enm×SV) where
 elem:=100
 slice:=23
 size:=2
 bytes:=40
 zero:=.agg #[.string ⟨#[]⟩,.slice none 0 0]
 enc:=D4l
 under:=Tryz.underlying23
 info:=by kernel_rfl
 zs:=rfl
 pos:=by decide
 small:=by decide
 len:=fun _=>rfl
 one:=by intro a u hu;simp only[D4l,List.mem_cons,List.mem_nil_iff,or_false] at hu;rcases hu with rfl|rfl <;> rfl
structure FilR (w:World) (base:Nat) (vm ve:Value) (lm:List (Msg×SV×SV)) (le:List (Enm×SV)):Prop where
 rowm:Row B2m w base vm lm
 rowe:Row B2l w base ve le
 ms:∀ p∈lm,Row A4i w base p.2.1.v p.1.fields∧Row A6x w base p.2.2.v p.1.barred
 es:∀ p∈le,Row A6y w base p.2.v p.1.items
section
variable {w w':World}{base b:Nat}{vm ve:Value}{lm:List (Msg×SV×SV)}{le:List (Enm×SV)}
theorem FilR.nil (w:World)(base:Nat):FilR w base (.slice none 0 0) (.slice none 0 0) [] []:=⟨Row.nil _ _ _,Row.nil _ _ _,fun _ hp=>(List.not_mem_nil hp).elim,fun _ hp=>(List.not_mem_nil hp).elim⟩
theorem FilR.keep (h:FilR w base vm ve lm le)(hb:∀ k,base≤k→k<w.heap.size→w'.heap[k]?=w.heap[k]?):FilR w' base vm ve lm le:=
 ⟨h.rowm.keep hb,h.rowe.keep hb,fun p hp=>⟨(h.ms p hp).1.keep hb,(h.ms p hp).2.keep hb⟩,fun p hp=>(h.es p hp).keep hb⟩
theorem FilR.kp (h:FilR w base vm ve lm le)(hk:Kp b w w')(hb:b<base):FilR w' base vm ve lm le:=h.keep fun k h1 h2=>hk.block k h2 (by omega)
theorem FilR.below (h:FilR w base vm ve lm le)(hk:Below w.heap.size w w'):FilR w' base vm ve lm le:=h.keep fun k _ h2=>hk.block k h2
theorem FilR.drew (h:FilR w base vm ve lm le):FilR w.drew base vm ve lm le:=h.keep fun _ _ _=>rfl
theorem FilR.drewN (h:FilR w base vm ve lm le)(n:Nat):FilR (w.drewN n) base vm ve lm le:=h.keep fun _ _ _=>rfl
theorem FilR.set (h:FilR w base vm ve lm le)(hb:b<base)(i:Nat)(v:Value):FilR (w.setCell ⟨b,i,none⟩ v) base vm ve lm le:=h.keep fun k h1 _=>Below.heap_setCell _ _ _ _ (by show k≠b;omega)
theorem FilR.addm (h:FilR w base vm ve lm le)(x:Msg×SV×SV){ac:Value}(hg:w.grownBy w' vm.ownBlock)(hr:Row B2m w' base ac (lm++[x]))(hf:Row A4i w base x.2.1.v x.1.fields)(hb:Row A6x w base x.2.2.v x.1.barred):FilR w' base ac ve (lm++[x]) le:=by
 refine⟨hr,h.rowe.grown hg (h.rowe.ne h.rowm (by decide)),?_,fun p hp=>(h.es p hp).grown hg ((h.es p hp).ne h.rowm (by decide))⟩
 intro p hp
 rw[List.mem_append,List.mem_singleton] at hp
 rcases hp with hp|rfl
 ·exact⟨(h.ms p hp).1.grown hg ((h.ms p hp).1.ne h.rowm (by decide)),(h.ms p hp).2.grown hg ((h.ms p hp).2.ne h.rowm (by decide))⟩
 ·exact⟨hf.grown hg (hf.ne h.rowm (by decide)),hb.grown hg (hb.ne h.rowm (by decide))⟩
theorem FilR.adde (h:FilR w base vm ve lm le)(x:Enm×SV){ac:Value}(hg:w.grownBy w' ve.ownBlock)(hr:Row B2l w' base ac (le++[x]))(hf:Row A6y w base x.2.v x.1.items):FilR w' base vm ac lm (le++[x]):=by
 refine⟨h.rowm.grown hg (h.rowm.ne h.rowe (by decide)),hr,fun p hp=>⟨(h.ms p hp).1.grown hg ((h.ms p hp).1.ne h.rowe (by decide)),(h.ms p hp).2.grown hg ((h.ms p hp).2.ne h.rowe (by decide))⟩,?_⟩
 intro p hp
 rw[List.mem_append,List.mem_singleton] at hp
 rcases hp with hp|rfl
 ·exact(h.es p hp).grown hg ((h.es p hp).ne h.rowe (by decide))
 ·exact hf.grown hg (hf.ne h.rowe (by decide))
theorem St.c23 {txt r:List UInt8}{m e:Value}(h:St w b txt r m e):w.cell? ⟨b,2,none⟩=some m∧w.cell? ⟨b,3,none⟩=some e:=⟨A0a h.2.2.2 2 _ rfl,A0a h.2.2.2 3 _ rfl⟩
theorem St.fr {txt r:List UInt8}{m e:Value}(h:St w b txt r m e)(i:Nat):w.frozen? ⟨b,i,none⟩=false:=A0b h.2.2.2 i
theorem St.set2 {txt r:List UInt8}{m e:Value}(h:St w b txt r m e)(v:Value):St (w.setCell ⟨b,2,none⟩ v) b txt r v e:=⟨h.1,h.2.1,h.2.2.1,heap_setCell_same _ _ 2 _ _ v h.2.2.2⟩
theorem St.set3 {txt r:List UInt8}{m e:Value}(h:St w b txt r m e)(v:Value):St (w.setCell ⟨b,3,none⟩ v) b txt r m v:=⟨h.1,h.2.1,h.2.2.1,heap_setCell_same _ _ 3 _ _ v h.2.2.2⟩
end
def D8n (b:Nat)(txt:List UInt8)(w:World)(x:R Fil)(en:Ending)(w':World):Prop:=
 Kp b w w'∧
  match x with
  | .ok (f,t)=>en = .returned (.tuple #[])∧∃ vm ve lm le,FilR w' w.heap.size vm ve lm le∧lm.map Prod.fst=f.msgs∧le.map Prod.fst=f.enums∧lm.length+le.length≤10∧St w' b txt t vm ve
  | .error (some (c,t))=>t.length≤txt.length∧en = .panicked (Ft c (txt.length-t.length))
  | .error none=>False
theorem D5l {B b:Nat}{txt r:List UInt8}{w:World}(h:St w b txt r (.slice none 0 0) (.slice none 0 0))(hg:Gl B w)(hB:B≤b)(K:Nat)(fo:K≤1000000)(hN:A1x K K ⟨[],[]⟩ r≠.error none) :
  Calls Tryz.prog 115 #[.pointer (some ⟨b,0,none⟩)] w (D8n b txt w (A1x K K ⟨[],[]⟩ r)):=by
 have df:=h.lt
 have HN:Hid (A1x K K ⟨[],[]⟩ r≠.error none):=hN
 clear hN
 go_enter Tryz.func115,Tryz.ntmps115
 go_wp2_with fail
 go_loopg [] K (fun k wr=>∃ lm le q vm ve,FilR wr w.heap.size vm ve lm le∧St wr b txt q vm ve∧Kp b w wr∧lm.length+le.length≤10∧Hid (A1x K K ⟨[],[]⟩ r=A1x K k ⟨lm.map Prod.fst,le.map Prod.fst⟩ q))
 case atStart=>exact⟨[],[],r,.slice none 0 0,.slice none 0 0,FilR.nil _ _,h,Kp.refl _ _,by simp,rfl⟩
 case round=>
  obtain⟨lm,le,q,vm,ve,hF,hs,hk,hlen,HR⟩:=hrel
  obtain⟨fw,dt,ft,rfl,dw⟩:=hF.rowm.shape'
  obtain⟨fu,dr,fq,rfl,dv⟩:=hF.rowe.shape'
  cases gk with
  | zero=>exact absurd HR.out HN.out
  | succ k=>
   go_wp2_with fail
   refine(D5p hs).mono ?_
   rintro en w4 ⟨rfl,eu,hk4⟩
   have fe:=hF.kp hk4 df
   have cw:=hk.trans hk4
   clear hF hs hk hk4
   generalize hq:A1o q=t3 at eu ⊢
   by_cases h0:t3 = []
   ·have bw:Hid (A1x K K ⟨[],[]⟩ r = .ok (⟨lm.map Prod.fst,le.map Prod.fst⟩,[])):=by show _=_;rw[HR.out,A1x,hq,if_pos h0]
    have hd:decide (t3 = [])=true:=by simpa using h0
    rw[hd]
    clear hq HR hd
    subst h0
    go_wp2
    go_end0
    exact⟨cw,by rw[bw.out];exact⟨rfl,_,_,lm,le,fe,rfl,rfl,hlen,eu⟩⟩
   ·have bw:Hid (A1x K K ⟨[],[]⟩ r=R.thn (C4b K ⟨lm.map Prod.fst,le.map Prod.fst⟩ t3) fun g u=>if 10<g.msgs.length+g.enums.length then .error (some (5,u)) else A1x K k g u):=by show _=_;rw[HR.out,A1x,hq,if_neg h0]
    have hd:decide (t3 = [])=false:=by simpa using h0
    rw[hd]
    clear hq HR hd h0
    go_wp2_with fail
    refine(A4x eu B2y (by decide)).mono ?_
    rintro en w5 ⟨rfl,hs5,fh⟩
    have et:=fe.kp fh df
    replace cw:=cw.trans fh
    clear eu fe fh
    generalize hq:B2w B2y t3=mq at hs5 ⊢
    obtain⟨ok,t5⟩:=mq
    cases ok with
    | true=>
     obtain⟨w7,fd⟩:∃ w7,w7=w5:=⟨_,rfl⟩
     obtain⟨t7,fc⟩:∃ t7,t7=t5:=⟨_,rfl⟩
     subst fd fc
     have HP:Hid (C4b K ⟨lm.map Prod.fst,le.map Prod.fst⟩ t3=R.thn (A0g K t7) fun m u=>.ok (⟨lm.map Prod.fst++[m],le.map Prod.fst⟩,u)):=by show _=_;rw[C4b,hq]
     have ee:A0g K t7≠.error none:=by intro hh;apply HN.out;rw[bw.out,HP.out,hh];rfl
     have dx:St w7 b txt t7 _ _:=hs5
     have d9:=et
     have eh:Gl B w7:=hg.kp hB df cw
     clear hq hs5 et
     go_wp2_with fail
     obtain⟨c2,c3⟩:=dx.c23
     refine wp_region_any (by kernel_rfl) ?_
     change wpAny _ _ _ _ _ _ _ (World.drew _)
     refine wpAny_take (i:=0) (v:=.pointer (some ⟨b,0,none⟩)) rfl (by kernel_rfl) (by kernel_rfl) (by kernel_rfl) (fun _ _ _ h=>h) (Or.inl ⟨by rfl,by intro w;go_simp⟩) ?_
     refine wpAny_take (i:=1) (v:=.pointer (some ⟨b,0,none⟩)) rfl (by kernel_rfl) (by kernel_rfl) (by kernel_rfl) (fun _ _ _ h=>h) (Or.inl ⟨by rfl,by intro w;go_simp⟩) ?_
     refine wpAny_take (i:=2) (v:=.pointer (some ⟨b,0,none⟩)) rfl (by kernel_rfl) (by kernel_rfl) (by kernel_rfl) (fun _ _ _ h=>h) (Or.inl ⟨by rfl,by intro w;go_simp⟩) ?_
     refine wpAny_take (i:=3) (v:=.pointer (some ⟨b,2,none⟩)) rfl (by kernel_rfl) (by kernel_rfl) (by kernel_rfl) (fun _ _ _ h=>h) (Or.inl ⟨by rfl,by intro w;go_simp⟩) ?_
     refine wpAny_take (i:=4) (v:=.pointer (some ⟨b,2,none⟩)) rfl (by kernel_rfl) (by kernel_rfl) (by kernel_rfl) (fun _ _ _ h=>h) (Or.inl ⟨by rfl,by intro w;go_simp⟩) ?_
     refine wpAny_take (i:=6) (v:=.pointer (some ⟨b,0,none⟩)) rfl (by kernel_rfl) (by kernel_rfl) (by kernel_rfl) (fun _ _ _ h=>h) (Or.inl ⟨by rfl,by intro w;go_simp⟩) ?_
     refine wpAny_ready (rs:=[5,7]) (by kernel_rfl) (by simp) ?_
     refine AllReady.cons rfl (fun Kc hK=>?_) (AllReady.cons rfl (fun Kc hK=>?_) AllReady.nil)
     ·go_simp
      refine hK _ _ ?_
      clear hK
      refine wpAny_ready (rs:=[7]) (by kernel_rfl) (by simp) ?_
      refine AllReady.cons rfl (fun Kc hK=>?_) AllReady.nil
      go_simp
      refine(A2y dx.drew eh.drew' hB K fo ee).mono ?_
      rintro en w8 ⟨di,hx⟩
      have dn:=d9.drew.kp di df
      have bg:=cw.drew.trans di
      cases hn:A0g K t7 with
      | error E=>
       rw[hn] at hx
       match E,hx with
       | none,hx=>exact hx.elim
       | some (c,t),hx=>
        obtain⟨ht,rfl⟩:=hx
        have HY:Hid (A1x K K ⟨[],[]⟩ r = .error (some (c,t))):=by show _=_;rw[bw.out,HP.out,hn];rfl
        clear hn bw hK
        go_wp2
        exact⟨rfl,bg,by rw[HY.out];exact⟨ht,rfl⟩⟩
      | ok p=>
       obtain⟨x,t8⟩:=p
       rw[hn] at hx
       obtain⟨cu,_,rfl,vf,vb,rfl,dg,dy⟩:=hx
       obtain⟨ah,nf,ac,rfl,_⟩:=dg.shape'
       obtain⟨ba,nb,ag,rfl,_⟩:=dy.shape'
       have HI:Hid (A0g K t7 = .ok (x,t8)):=hn
       clear hn
       obtain⟨c2,c3⟩:=cu.c23
       have hbl:b<w8.heap.size:=cu.lt
       have dp:w.heap.size≤w8.heap.size:=bg.size
       have dh:w.heap.size≤w7.drew.heap.size:=cw.size
       refine hK _ _ ?_
       clear hK
       refine wpAny_ready (rs:=[8]) (by kernel_rfl) (by simp) ?_
       refine AllReady.cons rfl (fun Kc hK=>?_) AllReady.nil
       go_simp
       refine hK _ _ ?_
       clear hK
       refine wpAny_ready (rs:=[9]) (by kernel_rfl) (by simp) ?_
       refine AllReady.cons rfl (fun Kc hK=>?_) AllReady.nil
       simp only[Region.wanted]
       have bv:Row B2m (w8.alloc (.cells #[.string (S x.name),.slice ah nf ac,.slice ba nb ag] 38)) w.heap.size (.slice (some ⟨w8.heap.size,0,none⟩) 1 1) [(x,(ah,nf,ac),(ba,nb,ag))]:=Row.one B2m w8 (x,(ah,nf,ac),(ba,nb,ag)) dp
       have br:=dn.below ((Below.refl _ w8).alloc (Nat.le_refl _) (.cells #[.string (S x.name),.slice ah nf ac,.slice ba nb ag] 38))
       have bh:=((dg.mono dh).below ((Below.refl _ w8).alloc (Nat.le_refl _) (.cells #[.string (S x.name),.slice ah nf ac,.slice ba nb ag] 38)))
       have bu:=((dy.mono dh).below ((Below.refl _ w8).alloc (Nat.le_refl _) (.cells #[.string (S x.name),.slice ah nf ac,.slice ba nb ag] 38)))
       have dm:=cu.alloc (.cells #[.string (S x.name),.slice ah nf ac,.slice ba nb ag] 38)
       have dl:=bg.alloc (.cells #[.string (S x.name),.slice ah nf ac,.slice ba nb ag] 38)
       refine A3r B2m _ _ rfl w.heap.size _ lm [(x,(ah,nf,ac),(ba,nb,ag))] rfl br.rowm _ _ rfl bv (by(try simp);omega) (by simp;omega) ?_
       intro vn eo ak hgr
       obtain⟨bn,nn,au,rfl,cj⟩:=ak.shape'
       have hown:=br.rowm.own
       have aw:=dm.grown hgr (fun k hk=>by have:=(hown k hk).1;omega)
       have bt:=dl.grown hgr (fun k hk=>(hown k hk).1)
       have bp:=br.addm (x,(ah,nf,ac),(ba,nb,ag)) hgr ak bh bu
       obtain⟨k2,k3⟩:=aw.c23
       have g1:=aw.fr 2
       clear c2 c3
       refine hK _ _ ?_
       clear hK
       refine wpAny_take (i:=10) (v:=.pointer (some ⟨b,0,none⟩)) rfl (by kernel_rfl) (by kernel_rfl) (by kernel_rfl) (fun _ _ _ h=>h) (Or.inl ⟨by rfl,by intro w;go_simp⟩) ?_
       refine wpAny_take (i:=11) (v:=.pointer (some ⟨b,2,none⟩)) rfl (by kernel_rfl) (by kernel_rfl) (by kernel_rfl) (fun _ _ _ h=>h) (Or.inl ⟨by rfl,by intro w;go_simp⟩) ?_
       refine wpAny_take (i:=12) (v:=.pointer (some ⟨b,2,none⟩)) rfl (by kernel_rfl) (by kernel_rfl) (by kernel_rfl) (fun _ _ _ h=>h) (Or.inl ⟨by rfl,by intro w;go_simp⟩) ?_
       refine wpAny_ready (rs:=[13]) (by kernel_rfl) (by simp) ?_
       refine AllReady.cons rfl (fun Kc hK=>?_) AllReady.nil
       go_simp
       refine hK _ _ ?_
       clear hK
       refine wpAny_done (by kernel_rfl) ?_ _
       have aj:=aw.set2 (.slice bn nn au)
       have bc:=bt.set 2 (.slice bn nn au)
       have bq:=bp.set (b:=b) df 2 (.slice bn nn au)
       have bk:=dv
       obtain⟨c2,c3⟩:=aj.c23
       have cg:Hid (nn=lm.length+1):=by show _=_;rw[cj.out];simp
       have HG:Hid (C4b K ⟨lm.map Prod.fst,le.map Prod.fst⟩ t3 = .ok (⟨(lm++[(x,(ah,nf,ac),(ba,nb,ag))]).map Prod.fst,le.map Prod.fst⟩,t8)):=by show _=_;rw[HP.out,HI.out];simp[R.thn]
       have HQ:Hid (A1x K K ⟨[],[]⟩ r=if 10<nn+dr then .error (some (5,t8)) else A1x K k ⟨(lm++[(x,(ah,nf,ac),(ba,nb,ag))]).map Prod.fst,le.map Prod.fst⟩ t8):=by
        show _=_
        rw[bw.out,HG.out]
        simp only[R.thn,List.length_map]
        rw[bk.out,cj.out]
       have ei:nn≤1000:=by rw[cg.out];omega
       have hne:dr≤1000:=by rw[bk.out];omega
       by_cases h10:10<nn+dr
       ·have HY:Hid (A1x K K ⟨[],[]⟩ r = .error (some (5,t8))):=by show _=_;rw[HQ.out,if_pos h10]
        go_wp2_with fail
        go_quiet (fail)
        go_wp2_with fail
        refine(A0s (aj.drewN _) 5).mono ?_
        rintro en dz ⟨rfl,rfl⟩
        go_wp2
        exact⟨rfl,bc.drewN _,by rw[HY.out];exact⟨aj.2.1,rfl⟩⟩
       ·have HY:Hid (A1x K K ⟨[],[]⟩ r=A1x K k ⟨(lm++[(x,(ah,nf,ac),(ba,nb,ag))]).map Prod.fst,le.map Prod.fst⟩ t8):=by show _=_;rw[HQ.out,if_neg h10]
        go_wp2_with fail
        go_quiet (fail)
        go_wp2_with fail
        go_roundg k
        case measure=>omega
        case rel=>exact⟨_,_,t8,_,_,bq.drewN _,aj.drewN _,bc.drewN _,by rw[List.length_append];simp;have:=cg.out;have:=bk.out;omega,HY⟩
     ·go_simp
      refine(A2y dx.drew eh.drew' hB K fo ee).mono ?_
      rintro en w8 ⟨di,hx⟩
      have dn:=d9.drew.kp di df
      have bg:=cw.drew.trans di
      cases hn:A0g K t7 with
      | error E=>
       rw[hn] at hx
       match E,hx with
       | none,hx=>exact hx.elim
       | some (c,t),hx=>
        obtain⟨ht,rfl⟩:=hx
        have HY:Hid (A1x K K ⟨[],[]⟩ r = .error (some (c,t))):=by show _=_;rw[bw.out,HP.out,hn];rfl
        clear hn bw hK
        go_wp2
        exact⟨rfl,bg,by rw[HY.out];exact⟨ht,rfl⟩⟩
      | ok p=>
       obtain⟨x,t8⟩:=p
       rw[hn] at hx
       obtain⟨cu,_,rfl,vf,vb,rfl,dg,dy⟩:=hx
       obtain⟨ah,nf,ac,rfl,_⟩:=dg.shape'
       obtain⟨ba,nb,ag,rfl,_⟩:=dy.shape'
       have HI:Hid (A0g K t7 = .ok (x,t8)):=hn
       clear hn
       obtain⟨c2,c3⟩:=cu.c23
       have hbl:b<w8.heap.size:=cu.lt
       have dp:w.heap.size≤w8.heap.size:=bg.size
       have dh:w.heap.size≤w7.drew.heap.size:=cw.size
       refine hK _ _ ?_
       clear hK
       refine wpAny_ready (rs:=[5,8]) (by kernel_rfl) (by simp) ?_
       refine AllReady.cons rfl (fun Kc hK=>?_) (AllReady.cons rfl (fun Kc hK=>?_) AllReady.nil)
       rotate_right
       focus
        go_simp
        refine hK _ _ ?_
        clear hK
        refine wpAny_ready (rs:=[5]) (by kernel_rfl) (by simp) ?_
       rotate_right
       focus
        go_simp
        refine hK _ _ ?_
        clear hK
        refine wpAny_ready (rs:=[8]) (by kernel_rfl) (by simp) ?_
       all_goals
        refine AllReady.cons rfl (fun Kc hK=>?_) AllReady.nil
        go_simp
        refine hK _ _ ?_
        clear hK
        refine wpAny_ready (rs:=[9]) (by kernel_rfl) (by simp) ?_
        refine AllReady.cons rfl (fun Kc hK=>?_) AllReady.nil
        simp only[Region.wanted]
        have bv:Row B2m (w8.alloc (.cells #[.string (S x.name),.slice ah nf ac,.slice ba nb ag] 38)) w.heap.size (.slice (some ⟨w8.heap.size,0,none⟩) 1 1) [(x,(ah,nf,ac),(ba,nb,ag))]:=Row.one B2m w8 (x,(ah,nf,ac),(ba,nb,ag)) dp
        have br:=dn.below ((Below.refl _ w8).alloc (Nat.le_refl _) (.cells #[.string (S x.name),.slice ah nf ac,.slice ba nb ag] 38))
        have bh:=((dg.mono dh).below ((Below.refl _ w8).alloc (Nat.le_refl _) (.cells #[.string (S x.name),.slice ah nf ac,.slice ba nb ag] 38)))
        have bu:=((dy.mono dh).below ((Below.refl _ w8).alloc (Nat.le_refl _) (.cells #[.string (S x.name),.slice ah nf ac,.slice ba nb ag] 38)))
        have dm:=cu.alloc (.cells #[.string (S x.name),.slice ah nf ac,.slice ba nb ag] 38)
        have dl:=bg.alloc (.cells #[.string (S x.name),.slice ah nf ac,.slice ba nb ag] 38)
        refine A3r B2m _ _ rfl w.heap.size _ lm [(x,(ah,nf,ac),(ba,nb,ag))] rfl br.rowm _ _ rfl bv (by(try simp);omega) (by simp;omega) ?_
        intro vn eo ak hgr
        obtain⟨bn,nn,au,rfl,cj⟩:=ak.shape'
        have hown:=br.rowm.own
        have aw:=dm.grown hgr (fun k hk=>by have:=(hown k hk).1;omega)
        have bt:=dl.grown hgr (fun k hk=>(hown k hk).1)
        have bp:=br.addm (x,(ah,nf,ac),(ba,nb,ag)) hgr ak bh bu
        obtain⟨k2,k3⟩:=aw.c23
        have g1:=aw.fr 2
        clear c2 c3
        refine hK _ _ ?_
        clear hK
        refine wpAny_take (i:=10) (v:=.pointer (some ⟨b,0,none⟩)) rfl (by kernel_rfl) (by kernel_rfl) (by kernel_rfl) (fun _ _ _ h=>h) (Or.inl ⟨by rfl,by intro w;go_simp⟩) ?_
        refine wpAny_take (i:=11) (v:=.pointer (some ⟨b,2,none⟩)) rfl (by kernel_rfl) (by kernel_rfl) (by kernel_rfl) (fun _ _ _ h=>h) (Or.inl ⟨by rfl,by intro w;go_simp⟩) ?_
        refine wpAny_take (i:=12) (v:=.pointer (some ⟨b,2,none⟩)) rfl (by kernel_rfl) (by kernel_rfl) (by kernel_rfl) (fun _ _ _ h=>h) (Or.inl ⟨by rfl,by intro w;go_simp⟩) ?_
        refine wpAny_ready (rs:=[13]) (by kernel_rfl) (by simp) ?_
        refine AllReady.cons rfl (fun Kc hK=>?_) AllReady.nil
        go_simp
        refine hK _ _ ?_
        clear hK
        refine wpAny_done (by kernel_rfl) ?_ _
        have aj:=aw.set2 (.slice bn nn au)
        have bc:=bt.set 2 (.slice bn nn au)
        have bq:=bp.set (b:=b) df 2 (.slice bn nn au)
        have bk:=dv
        obtain⟨c2,c3⟩:=aj.c23
        have cg:Hid (nn=lm.length+1):=by show _=_;rw[cj.out];simp
        have HG:Hid (C4b K ⟨lm.map Prod.fst,le.map Prod.fst⟩ t3 = .ok (⟨(lm++[(x,(ah,nf,ac),(ba,nb,ag))]).map Prod.fst,le.map Prod.fst⟩,t8)):=by show _=_;rw[HP.out,HI.out];simp[R.thn]
        have HQ:Hid (A1x K K ⟨[],[]⟩ r=if 10<nn+dr then .error (some (5,t8)) else A1x K k ⟨(lm++[(x,(ah,nf,ac),(ba,nb,ag))]).map Prod.fst,le.map Prod.fst⟩ t8):=by
         show _=_
         rw[bw.out,HG.out]
         simp only[R.thn,List.length_map]
         rw[bk.out,cj.out]
        have ei:nn≤1000:=by rw[cg.out];omega
        have hne:dr≤1000:=by rw[bk.out];omega
        by_cases h10:10<nn+dr
        ·have HY:Hid (A1x K K ⟨[],[]⟩ r = .error (some (5,t8))):=by show _=_;rw[HQ.out,if_pos h10]
         go_wp2_with fail
         go_quiet (fail)
         go_wp2_with fail
         refine(A0s (aj.drewN _) 5).mono ?_
         rintro en dz ⟨rfl,rfl⟩
         go_wp2
         exact⟨rfl,bc.drewN _,by rw[HY.out];exact⟨aj.2.1,rfl⟩⟩
        ·have HY:Hid (A1x K K ⟨[],[]⟩ r=A1x K k ⟨(lm++[(x,(ah,nf,ac),(ba,nb,ag))]).map Prod.fst,le.map Prod.fst⟩ t8):=by show _=_;rw[HQ.out,if_neg h10]
         go_wp2_with fail
         go_quiet (fail)
         go_wp2_with fail
         go_roundg k
         case measure=>omega
         case rel=>exact⟨_,_,t8,_,_,bq.drewN _,aj.drewN _,bc.drewN _,by rw[List.length_append];simp;have:=cg.out;have:=bk.out;omega,HY⟩
    | false=>
     go_wp2_with fail
     refine(A4x hs5 B8f (by decide)).mono ?_
     rintro en w6 ⟨rfl,ew,fj⟩
     have fk:=et.kp fj df
     replace cw:=cw.trans fj
     clear hs5 et fj
     generalize hq6:B2w B8f t5=mq at ew ⊢
     obtain⟨ok,t6⟩:=mq
     cases ok with
     | true=>
      obtain⟨w7,fd⟩:∃ w7,w7=w6:=⟨_,rfl⟩
      obtain⟨t7,fc⟩:∃ t7,t7=t6:=⟨_,rfl⟩
      subst fd fc
      have HP:Hid (C4b K ⟨lm.map Prod.fst,le.map Prod.fst⟩ t3=R.thn (A5h K t7) fun m u=>.ok (⟨lm.map Prod.fst,le.map Prod.fst++[m]⟩,u)):=by show _=_;rw[C4b,hq];show(match B2w B8f t5 with|(true,t)=>_|(false,t)=>_)=_;rw[hq6]
      have ee:A5h K t7≠.error none:=by intro hh;apply HN.out;rw[bw.out,HP.out,hh];rfl
      have dx:St w7 b txt t7 _ _:=ew
      have d9:=fk
      have eh:Gl B w7:=hg.kp hB df cw
      clear hq hq6 ew fk
      go_wp2_with fail
      obtain⟨c2,c3⟩:=dx.c23
      refine wp_region_any (by kernel_rfl) ?_
      change wpAny _ _ _ _ _ _ _ (World.drew _)
      refine wpAny_take (i:=0) (v:=.pointer (some ⟨b,0,none⟩)) rfl (by kernel_rfl) (by kernel_rfl) (by kernel_rfl) (fun _ _ _ h=>h) (Or.inl ⟨by rfl,by intro w;go_simp⟩) ?_
      refine wpAny_take (i:=1) (v:=.pointer (some ⟨b,0,none⟩)) rfl (by kernel_rfl) (by kernel_rfl) (by kernel_rfl) (fun _ _ _ h=>h) (Or.inl ⟨by rfl,by intro w;go_simp⟩) ?_
      refine wpAny_take (i:=2) (v:=.pointer (some ⟨b,0,none⟩)) rfl (by kernel_rfl) (by kernel_rfl) (by kernel_rfl) (fun _ _ _ h=>h) (Or.inl ⟨by rfl,by intro w;go_simp⟩) ?_
      refine wpAny_take (i:=3) (v:=.pointer (some ⟨b,2,none⟩)) rfl (by kernel_rfl) (by kernel_rfl) (by kernel_rfl) (fun _ _ _ h=>h) (Or.inl ⟨by rfl,by intro w;go_simp⟩) ?_
      refine wpAny_take (i:=4) (v:=.pointer (some ⟨b,3,none⟩)) rfl (by kernel_rfl) (by kernel_rfl) (by kernel_rfl) (fun _ _ _ h=>h) (Or.inl ⟨by rfl,by intro w;go_simp⟩) ?_
      refine wpAny_take (i:=6) (v:=.pointer (some ⟨b,0,none⟩)) rfl (by kernel_rfl) (by kernel_rfl) (by kernel_rfl) (fun _ _ _ h=>h) (Or.inl ⟨by rfl,by intro w;go_simp⟩) ?_
      refine wpAny_ready (rs:=[5,7]) (by kernel_rfl) (by simp) ?_
      refine AllReady.cons rfl (fun Kc hK=>?_) (AllReady.cons rfl (fun Kc hK=>?_) AllReady.nil)
      ·go_simp
       refine hK _ _ ?_
       clear hK
       refine wpAny_ready (rs:=[7]) (by kernel_rfl) (by simp) ?_
       refine AllReady.cons rfl (fun Kc hK=>?_) AllReady.nil
       go_simp
       refine(A8y dx.drew eh.drew' hB K ee).mono ?_
       rintro en w8 ⟨di,hx⟩
       have dn:=d9.drew.kp di df
       have bg:=cw.drew.trans di
       cases hn:A5h K t7 with
       | error E=>
        rw[hn] at hx
        match E,hx with
        | none,hx=>exact hx.elim
        | some (c,t),hx=>
         obtain⟨ht,rfl⟩:=hx
         have HY:Hid (A1x K K ⟨[],[]⟩ r = .error (some (c,t))):=by show _=_;rw[bw.out,HP.out,hn];rfl
         clear hn bw hK
         go_wp2
         exact⟨rfl,bg,by rw[HY.out];exact⟨ht,rfl⟩⟩
       | ok p=>
        obtain⟨x,t8⟩:=p
        rw[hn] at hx
        obtain⟨cu,_,rfl,vf,rfl,dg⟩:=hx
        obtain⟨ah,nf,ac,rfl,_⟩:=dg.shape'
        have HI:Hid (A5h K t7 = .ok (x,t8)):=hn
        clear hn
        obtain⟨c2,c3⟩:=cu.c23
        have hbl:b<w8.heap.size:=cu.lt
        have dp:w.heap.size≤w8.heap.size:=bg.size
        have dh:w.heap.size≤w7.drew.heap.size:=cw.size
        refine hK _ _ ?_
        clear hK
        refine wpAny_ready (rs:=[8]) (by kernel_rfl) (by simp) ?_
        refine AllReady.cons rfl (fun Kc hK=>?_) AllReady.nil
        go_simp
        refine hK _ _ ?_
        clear hK
        refine wpAny_ready (rs:=[9]) (by kernel_rfl) (by simp) ?_
        refine AllReady.cons rfl (fun Kc hK=>?_) AllReady.nil
        simp only[Region.wanted]
        have bv:Row B2l (w8.alloc (.cells #[.string (S x.name),.slice ah nf ac] 100)) w.heap.size (.slice (some ⟨w8.heap.size,0,none⟩) 1 1) [(x,(ah,nf,ac))]:=Row.one B2l w8 (x,(ah,nf,ac)) dp
        have br:=dn.below ((Below.refl _ w8).alloc (Nat.le_refl _) (.cells #[.string (S x.name),.slice ah nf ac] 100))
        have bh:=((dg.mono dh).below ((Below.refl _ w8).alloc (Nat.le_refl _) (.cells #[.string (S x.name),.slice ah nf ac] 100)))
        have dm:=cu.alloc (.cells #[.string (S x.name),.slice ah nf ac] 100)
        have dl:=bg.alloc (.cells #[.string (S x.name),.slice ah nf ac] 100)
        refine A3r B2l _ _ rfl w.heap.size _ le [(x,(ah,nf,ac))] rfl br.rowe _ _ rfl bv (by(try simp);omega) (by simp;omega) ?_
        intro vn eo ak hgr
        obtain⟨bn,nn,au,rfl,cj⟩:=ak.shape'
        have hown:=br.rowe.own
        have aw:=dm.grown hgr (fun k hk=>by have:=(hown k hk).1;omega)
        have bt:=dl.grown hgr (fun k hk=>(hown k hk).1)
        have bp:=br.adde (x,(ah,nf,ac)) hgr ak bh
        obtain⟨k2,k3⟩:=aw.c23
        have g1:=aw.fr 3
        clear c2 c3
        refine hK _ _ ?_
        clear hK
        refine wpAny_take (i:=10) (v:=.pointer (some ⟨b,0,none⟩)) rfl (by kernel_rfl) (by kernel_rfl) (by kernel_rfl) (fun _ _ _ h=>h) (Or.inl ⟨by rfl,by intro w;go_simp⟩) ?_
        refine wpAny_take (i:=11) (v:=.pointer (some ⟨b,2,none⟩)) rfl (by kernel_rfl) (by kernel_rfl) (by kernel_rfl) (fun _ _ _ h=>h) (Or.inl ⟨by rfl,by intro w;go_simp⟩) ?_
        refine wpAny_take (i:=12) (v:=.pointer (some ⟨b,3,none⟩)) rfl (by kernel_rfl) (by kernel_rfl) (by kernel_rfl) (fun _ _ _ h=>h) (Or.inl ⟨by rfl,by intro w;go_simp⟩) ?_
        refine wpAny_ready (rs:=[13]) (by kernel_rfl) (by simp) ?_
        refine AllReady.cons rfl (fun Kc hK=>?_) AllReady.nil
        go_simp
        refine hK _ _ ?_
        clear hK
        refine wpAny_done (by kernel_rfl) ?_ _
        have aj:=aw.set3 (.slice bn nn au)
        have bc:=bt.set 3 (.slice bn nn au)
        have bq:=bp.set (b:=b) df 3 (.slice bn nn au)
        have bk:=dw
        obtain⟨c2,c3⟩:=aj.c23
        have cg:Hid (nn=le.length+1):=by show _=_;rw[cj.out];simp
        have HG:Hid (C4b K ⟨lm.map Prod.fst,le.map Prod.fst⟩ t3 = .ok (⟨lm.map Prod.fst,(le++[(x,(ah,nf,ac))]).map Prod.fst⟩,t8)):=by show _=_;rw[HP.out,HI.out];simp[R.thn]
        have HQ:Hid (A1x K K ⟨[],[]⟩ r=if 10<nn+dt then .error (some (5,t8)) else A1x K k ⟨lm.map Prod.fst,(le++[(x,(ah,nf,ac))]).map Prod.fst⟩ t8):=by
         show _=_
         rw[bw.out,HG.out]
         simp only[R.thn,List.length_map]
         rw[bk.out,cj.out]
         rw[Nat.add_comm]
        have ei:nn≤1000:=by rw[cg.out];omega
        have hne:dt≤1000:=by rw[bk.out];omega
        by_cases h10:10<nn+dt
        ·have HY:Hid (A1x K K ⟨[],[]⟩ r = .error (some (5,t8))):=by show _=_;rw[HQ.out,if_pos h10]
         go_wp2_with fail
         go_quiet (fail)
         go_wp2_with fail
         refine(A0s (aj.drewN _) 5).mono ?_
         rintro en dz ⟨rfl,rfl⟩
         go_wp2
         exact⟨rfl,bc.drewN _,by rw[HY.out];exact⟨aj.2.1,rfl⟩⟩
        ·have HY:Hid (A1x K K ⟨[],[]⟩ r=A1x K k ⟨lm.map Prod.fst,(le++[(x,(ah,nf,ac))]).map Prod.fst⟩ t8):=by show _=_;rw[HQ.out,if_neg h10]
         go_wp2_with fail
         go_quiet (fail)
         go_wp2_with fail
         go_roundg k
         case measure=>omega
         case rel=>exact⟨_,_,t8,_,_,bq.drewN _,aj.drewN _,bc.drewN _,by rw[List.length_append];simp;have:=cg.out;have:=bk.out;omega,HY⟩
      ·go_simp
       refine(A8y dx.drew eh.drew' hB K ee).mono ?_
       rintro en w8 ⟨di,hx⟩
       have dn:=d9.drew.kp di df
       have bg:=cw.drew.trans di
       cases hn:A5h K t7 with
       | error E=>
        rw[hn] at hx
        match E,hx with
        | none,hx=>exact hx.elim
        | some (c,t),hx=>
         obtain⟨ht,rfl⟩:=hx
         have HY:Hid (A1x K K ⟨[],[]⟩ r = .error (some (c,t))):=by show _=_;rw[bw.out,HP.out,hn];rfl
         clear hn bw hK
         go_wp2
         exact⟨rfl,bg,by rw[HY.out];exact⟨ht,rfl⟩⟩
       | ok p=>
        obtain⟨x,t8⟩:=p
        rw[hn] at hx
        obtain⟨cu,_,rfl,vf,rfl,dg⟩:=hx
        obtain⟨ah,nf,ac,rfl,_⟩:=dg.shape'
        have HI:Hid (A5h K t7 = .ok (x,t8)):=hn
        clear hn
        obtain⟨c2,c3⟩:=cu.c23
        have hbl:b<w8.heap.size:=cu.lt
        have dp:w.heap.size≤w8.heap.size:=bg.size
        have dh:w.heap.size≤w7.drew.heap.size:=cw.size
        refine hK _ _ ?_
        clear hK
        refine wpAny_ready (rs:=[5,8]) (by kernel_rfl) (by simp) ?_
        refine AllReady.cons rfl (fun Kc hK=>?_) (AllReady.cons rfl (fun Kc hK=>?_) AllReady.nil)
        rotate_right
        focus
         go_simp
         refine hK _ _ ?_
         clear hK
         refine wpAny_ready (rs:=[5]) (by kernel_rfl) (by simp) ?_
        rotate_right
        focus
         go_simp
         refine hK _ _ ?_
         clear hK
         refine wpAny_ready (rs:=[8]) (by kernel_rfl) (by simp) ?_
        all_goals
         refine AllReady.cons rfl (fun Kc hK=>?_) AllReady.nil
         go_simp
         refine hK _ _ ?_
         clear hK
         refine wpAny_ready (rs:=[9]) (by kernel_rfl) (by simp) ?_
         refine AllReady.cons rfl (fun Kc hK=>?_) AllReady.nil
         simp only[Region.wanted]
         have bv:Row B2l (w8.alloc (.cells #[.string (S x.name),.slice ah nf ac] 100)) w.heap.size (.slice (some ⟨w8.heap.size,0,none⟩) 1 1) [(x,(ah,nf,ac))]:=Row.one B2l w8 (x,(ah,nf,ac)) dp
         have br:=dn.below ((Below.refl _ w8).alloc (Nat.le_refl _) (.cells #[.string (S x.name),.slice ah nf ac] 100))
         have bh:=((dg.mono dh).below ((Below.refl _ w8).alloc (Nat.le_refl _) (.cells #[.string (S x.name),.slice ah nf ac] 100)))
         have dm:=cu.alloc (.cells #[.string (S x.name),.slice ah nf ac] 100)
         have dl:=bg.alloc (.cells #[.string (S x.name),.slice ah nf ac] 100)
         refine A3r B2l _ _ rfl w.heap.size _ le [(x,(ah,nf,ac))] rfl br.rowe _ _ rfl bv (by(try simp);omega) (by simp;omega) ?_
         intro vn eo ak hgr
         obtain⟨bn,nn,au,rfl,cj⟩:=ak.shape'
         have hown:=br.rowe.own
         have aw:=dm.grown hgr (fun k hk=>by have:=(hown k hk).1;omega)
         have bt:=dl.grown hgr (fun k hk=>(hown k hk).1)
         have bp:=br.adde (x,(ah,nf,ac)) hgr ak bh
         obtain⟨k2,k3⟩:=aw.c23
         have g1:=aw.fr 3
         clear c2 c3
         refine hK _ _ ?_
         clear hK
         refine wpAny_take (i:=10) (v:=.pointer (some ⟨b,0,none⟩)) rfl (by kernel_rfl) (by kernel_rfl) (by kernel_rfl) (fun _ _ _ h=>h) (Or.inl ⟨by rfl,by intro w;go_simp⟩) ?_
         refine wpAny_take (i:=11) (v:=.pointer (some ⟨b,2,none⟩)) rfl (by kernel_rfl) (by kernel_rfl) (by kernel_rfl) (fun _ _ _ h=>h) (Or.inl ⟨by rfl,by intro w;go_simp⟩) ?_
         refine wpAny_take (i:=12) (v:=.pointer (some ⟨b,3,none⟩)) rfl (by kernel_rfl) (by kernel_rfl) (by kernel_rfl) (fun _ _ _ h=>h) (Or.inl ⟨by rfl,by intro w;go_simp⟩) ?_
         refine wpAny_ready (rs:=[13]) (by kernel_rfl) (by simp) ?_
         refine AllReady.cons rfl (fun Kc hK=>?_) AllReady.nil
         go_simp
         refine hK _ _ ?_
         clear hK
         refine wpAny_done (by kernel_rfl) ?_ _
         have aj:=aw.set3 (.slice bn nn au)
         have bc:=bt.set 3 (.slice bn nn au)
         have bq:=bp.set (b:=b) df 3 (.slice bn nn au)
         have bk:=dw
         obtain⟨c2,c3⟩:=aj.c23
         have cg:Hid (nn=le.length+1):=by show _=_;rw[cj.out];simp
         have HG:Hid (C4b K ⟨lm.map Prod.fst,le.map Prod.fst⟩ t3 = .ok (⟨lm.map Prod.fst,(le++[(x,(ah,nf,ac))]).map Prod.fst⟩,t8)):=by show _=_;rw[HP.out,HI.out];simp[R.thn]
         have HQ:Hid (A1x K K ⟨[],[]⟩ r=if 10<nn+dt then .error (some (5,t8)) else A1x K k ⟨lm.map Prod.fst,(le++[(x,(ah,nf,ac))]).map Prod.fst⟩ t8):=by
          show _=_
          rw[bw.out,HG.out]
          simp only[R.thn,List.length_map]
          rw[bk.out,cj.out]
          rw[Nat.add_comm]
         have ei:nn≤1000:=by rw[cg.out];omega
         have hne:dt≤1000:=by rw[bk.out];omega
         by_cases h10:10<nn+dt
         ·have HY:Hid (A1x K K ⟨[],[]⟩ r = .error (some (5,t8))):=by show _=_;rw[HQ.out,if_pos h10]
          go_wp2_with fail
          go_quiet (fail)
          go_wp2_with fail
          refine(A0s (aj.drewN _) 5).mono ?_
          rintro en dz ⟨rfl,rfl⟩
          go_wp2
          exact⟨rfl,bc.drewN _,by rw[HY.out];exact⟨aj.2.1,rfl⟩⟩
         ·have HY:Hid (A1x K K ⟨[],[]⟩ r=A1x K k ⟨lm.map Prod.fst,(le++[(x,(ah,nf,ac))]).map Prod.fst⟩ t8):=by show _=_;rw[HQ.out,if_neg h10]
          go_wp2_with fail
          go_quiet (fail)
          go_wp2_with fail
          go_roundg k
          case measure=>omega
          case rel=>exact⟨_,_,t8,_,_,bq.drewN _,aj.drewN _,bc.drewN _,by rw[List.length_append];simp;have:=cg.out;have:=bk.out;omega,HY⟩
     | false=>
      have HY:Hid (A1x K K ⟨[],[]⟩ r = .error (some (2,t6))):=by show _=_;rw[bw.out,C4b,hq];show R.thn (match B2w B8f t5 with|(true,t)=>_|(false,t)=>_) _=_;rw[hq6];rfl
      have ej:St w6 b txt t6 _ _:=ew
      clear hq hq6
      go_wp2_with fail
      refine(A0s ej 2).mono ?_
      rintro en dz ⟨rfl,rfl⟩
      go_wp2
      exact⟨rfl,cw,by rw[HY.out];exact⟨ej.2.1,rfl⟩⟩
end Go.Proofs.YtgaoojpakjjdnaaGreatDoor
namespace Go.Proofs.YtgaoojpakjjdnaaGreatDoor
open Go.RowKit
theorem B7k (v:Value)(w:World):(Instr.typeAssert (.iface 50 v) 20 50 false).run Tryz.prog w = .ok v w:=by kernel_rfl
theorem B7o (R c k:Nat)(w:World)(x y:Int)(h0:w.cell? ⟨R,0,none⟩=some (.int .i64 x))(h1:w.cell? ⟨R,1,none⟩=some (.int .i64 y))(f0:w.frozen? ⟨R,0,none⟩=false)(f1:w.frozen? ⟨R,1,none⟩=false) :
  CallsD Tryz.prog 114 #[.pointer (some ⟨R,0,none⟩)] (.panicking (Ft c k)) w fun e u' w'=>
   e = .returned (.tuple #[])∧u' = .panicking [{ v:=.iface 50 (.agg #[.int .i64 (c:Int),.int .i64 (k:Int)]),recovered:=true }]∧w'=(w.setCell ⟨R,0,none⟩ (.int .i64 (c:Int))).setCell ⟨R,1,none⟩ (.int .i64 (k:Int)):=by
 refine callsD_of_wpS Tryz.func114 rfl fun c₀ cs hu=>?_
 unfold Ft at hu
 apply wpS_seq
 apply wpS_region
 simp[wpOpsS,go_sem,recoverD,hu,Tryz.ntmps114,Exit.thenS]
 apply wpS_seq
 apply wpS_region
 simp[wpOpsS,go_sem,Array.replicate,Exit.thenS]
 refine wpS_cond (t:=true) (by simp[Act.eval]) ?_
 simp only[if_true]
 apply wpS_region
 simp[wpOpsS,go_sem,B7k,h0,h1,f0,f1,bodyPostS,results,Tryz.results114]
theorem C3s (R:Nat)(w:World) :
  CallsD Tryz.prog 114 #[.pointer (some ⟨R,0,none⟩)] .returning w fun e u' w'=>e = .returned (.tuple #[])∧u' = .returning∧w'=w:=by
 refine callsD_of_wpS Tryz.func114 rfl fun c₀ cs hu=>?_
 apply wpS_seq
 apply wpS_region
 simp[wpOpsS,go_sem,recoverD,hu,Tryz.ntmps114,Exit.thenS]
 apply wpS_seq
 apply wpS_region
 simp[wpOpsS,go_sem,Array.replicate,Exit.thenS]
 refine wpS_cond (t:=false) (by simp[Act.eval]) ?_
 simp only[Bool.false_eq_true,if_false]
 refine wpS_of_wp (wp_skip ?_)
 cases c₀
 simp_all [bodyPostS,results,Tryz.results114]
end Go.Proofs.YtgaoojpakjjdnaaGreatDoor
