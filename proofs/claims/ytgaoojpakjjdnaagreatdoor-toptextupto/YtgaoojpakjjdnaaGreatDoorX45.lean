import Derived.Test.YtgaoojpakjjdnaaGreatDoorX44
import Derived.Defers
import Derived.Recover
set_option maxHeartbeats 32000000
set_option maxRecDepth 100000
namespace Go.Proofs.YtgaoojpakjjdnaaGreatDoor
open Go.RowKit
abbrev SV:=Option Addr×Nat×Nat
def SV.v (s:SV):Value:=.slice s.1 s.2.1 s.2.2
def D6y (p:Msg×SV×SV):List Value:=[.string (S p.1.name),.slice p.2.1.1 p.2.1.2.1 p.2.1.2.2,.slice p.2.2.1 p.2.2.2.1 p.2.2.2.2]
def B2l:EK (Msg×SV×SV) where
 elem:=38
 slice:=22
 size:=3
 bytes:=64
 zero:=.agg #[.string ⟨#[]⟩,.slice none 0 0,.slice none 0 0]
 enc:=D6y
 under:=Tryz.underlying22
 info:=by kernel_rfl
 zs:=rfl
 pos:=by decide
 small:=by decide
 len:=fun _=>rfl
 one:=by intro a u hu;simp only[D6y,List.mem_cons,List.mem_nil_iff,or_false] at hu;rcases hu with rfl|rfl|rfl <;> rfl
def D6w (p:Enm×SV):List Value:=[.string (S p.1.name),.slice p.2.1 p.2.2.1 p.2.2.2]
def B2k:EK (Enm×SV) where
 elem:=100
 slice:=23
 size:=2
 bytes:=40
 zero:=.agg #[.string ⟨#[]⟩,.slice none 0 0]
 enc:=D6w
 under:=Tryz.underlying23
 info:=by kernel_rfl
 zs:=rfl
 pos:=by decide
 small:=by decide
 len:=fun _=>rfl
 one:=by intro a u hu;simp only[D6w,List.mem_cons,List.mem_nil_iff,or_false] at hu;rcases hu with rfl|rfl <;> rfl
structure FilR (w:World) (base:Nat) (vm ve:Value) (lm:List (Msg×SV×SV)) (le:List (Enm×SV)):Prop where
 rowm:Row B2l w base vm lm
 rowe:Row B2k w base ve le
 ms:∀ p∈lm,Row A4q w base p.2.1.v p.1.fields∧Row A7d w base p.2.2.v p.1.barred
 es:∀ p∈le,Row A7e w base p.2.v p.1.items
section
variable {w w':World}{base b:Nat}{vm ve:Value}{lm:List (Msg×SV×SV)}{le:List (Enm×SV)}
theorem FilR.nil (w:World)(base:Nat):FilR w base (.slice none 0 0) (.slice none 0 0) [] []:=⟨Row.nil _ _ _,Row.nil _ _ _,fun _ hp=>(List.not_mem_nil hp).elim,fun _ hp=>(List.not_mem_nil hp).elim⟩
theorem FilR.keep (h:FilR w base vm ve lm le)(hb:∀ k,base≤k→k<w.heap.size→w'.heap[k]?=w.heap[k]?):FilR w' base vm ve lm le:=
 ⟨h.rowm.keep hb,h.rowe.keep hb,fun p hp=>⟨(h.ms p hp).1.keep hb,(h.ms p hp).2.keep hb⟩,fun p hp=>(h.es p hp).keep hb⟩
theorem FilR.kp (h:FilR w base vm ve lm le)(hk:Kp b w w')(hb:b<base):FilR w' base vm ve lm le:=h.keep fun k h1 h2=>hk.block k h2 (by omega)
theorem FilR.below (h:FilR w base vm ve lm le)(hk:Below w.heap.size w w'):FilR w' base vm ve lm le:=h.keep fun k _ h2=>hk.block k h2
theorem FilR.drew (h:FilR w base vm ve lm le):FilR w.drew base vm ve lm le:=h.keep fun _ _ _=>rfl
theorem FilR.drewN (h:FilR w base vm ve lm le)(n:Nat):FilR (w.drewN n) base vm ve lm le:=h.keep fun _ _ _=>rfl
theorem FilR.set (h:FilR w base vm ve lm le)(hb:b<base)(i:Nat)(v:Value):FilR (w.setCell ⟨b,i,none⟩ v) base vm ve lm le:=h.keep fun k h1 _=>Below.heap_setCell _ _ _ _ (by show k≠b;omega)
theorem FilR.addm (h:FilR w base vm ve lm le)(x:Msg×SV×SV){ac:Value}(hg:w.grownBy w' vm.ownBlock)(hr:Row B2l w' base ac (lm++[x]))(hf:Row A4q w base x.2.1.v x.1.fields)(hb:Row A7d w base x.2.2.v x.1.barred):FilR w' base ac ve (lm++[x]) le:=by
 refine⟨hr,h.rowe.grown hg (h.rowe.ne h.rowm (by decide)),?_,fun p hp=>(h.es p hp).grown hg ((h.es p hp).ne h.rowm (by decide))⟩
 intro p hp
 rw[List.mem_append,List.mem_singleton] at hp
 rcases hp with hp|rfl
 ·exact⟨(h.ms p hp).1.grown hg ((h.ms p hp).1.ne h.rowm (by decide)),(h.ms p hp).2.grown hg ((h.ms p hp).2.ne h.rowm (by decide))⟩
 ·exact⟨hf.grown hg (hf.ne h.rowm (by decide)),hb.grown hg (hb.ne h.rowm (by decide))⟩
theorem FilR.adde (h:FilR w base vm ve lm le)(x:Enm×SV){ac:Value}(hg:w.grownBy w' ve.ownBlock)(hr:Row B2k w' base ac (le++[x]))(hf:Row A7e w base x.2.v x.1.items):FilR w' base vm ac lm (le++[x]):=by
 refine⟨h.rowm.grown hg (h.rowm.ne h.rowe (by decide)),hr,fun p hp=>⟨(h.ms p hp).1.grown hg ((h.ms p hp).1.ne h.rowe (by decide)),(h.ms p hp).2.grown hg ((h.ms p hp).2.ne h.rowe (by decide))⟩,?_⟩
 intro p hp
 rw[List.mem_append,List.mem_singleton] at hp
 rcases hp with hp|rfl
 ·exact(h.es p hp).grown hg ((h.es p hp).ne h.rowe (by decide))
 ·exact hf.grown hg (hf.ne h.rowe (by decide))
theorem St.c23 {txt r:List UInt8}{m e:Value}(h:St w b txt r m e):w.cell? ⟨b,2,none⟩=some m∧w.cell? ⟨b,3,none⟩=some e:=⟨A0a h.2.2.2 2 _ rfl,A0a h.2.2.2 3 _ rfl⟩
theorem St.fr {txt r:List UInt8}{m e:Value}(h:St w b txt r m e)(i:Nat):w.frozen? ⟨b,i,none⟩=false:=A0b h.2.2.2 i
theorem St.set2 {txt r:List UInt8}{m e:Value}(h:St w b txt r m e)(v:Value):St (w.setCell ⟨b,2,none⟩ v) b txt r v e:=⟨h.1,h.2.1,h.2.2.1,heap_setCell_same _ _ 2 _ _ v h.2.2.2⟩
theorem St.set3 {txt r:List UInt8}{m e:Value}(h:St w b txt r m e)(v:Value):St (w.setCell ⟨b,3,none⟩ v) b txt r m v:=⟨h.1,h.2.1,h.2.2.1,heap_setCell_same _ _ 3 _ _ v h.2.2.2⟩
end
def E1l (b:Nat)(txt:List UInt8)(w:World)(x:R Fil)(en:Ending)(w':World):Prop:=
 Kp b w w'∧
  match x with
  | .ok (f,t)=>en = .returned (.tuple #[])∧∃ vm ve lm le,FilR w' w.heap.size vm ve lm le∧lm.map Prod.fst=f.msgs∧le.map Prod.fst=f.enums∧lm.length+le.length≤10∧St w' b txt t vm ve
  | .error (some (c,t))=>t.length≤txt.length∧en = .panicked (Ft c (txt.length-t.length))
  | .error none=>False
theorem D8a {B b:Nat}{txt r:List UInt8}{w:World}(h:St w b txt r (.slice none 0 0) (.slice none 0 0))(hg:Gl B w)(hB:B≤b)(K:Nat)(ft:K≤1000000)(hN:A1m K K ⟨[],[]⟩ r≠.error none) :
  Calls Tryz.prog 115 #[.pointer (some ⟨b,0,none⟩)] w (E1l b txt w (A1m K K ⟨[],[]⟩ r)):=by
 have dh:=h.lt
 have HN:Hid (A1m K K ⟨[],[]⟩ r≠.error none):=hN
 clear hN
 go_enter Tryz.func115,Tryz.ntmps115
 go_wp2_with fail
 go_loopg [] K (fun k wr=>∃ lm le q vm ve,FilR wr w.heap.size vm ve lm le∧St wr b txt q vm ve∧Kp b w wr∧lm.length+le.length≤10∧Hid (A1m K K ⟨[],[]⟩ r=A1m K k ⟨lm.map Prod.fst,le.map Prod.fst⟩ q))
 case atStart=>exact⟨[],[],r,.slice none 0 0,.slice none 0 0,FilR.nil _ _,h,Kp.refl _ _,by simp,rfl⟩
 case round=>
  obtain⟨lm,le,q,vm,ve,hF,hs,hk,hlen,HR⟩:=hrel
  obtain⟨fy,dw,fw,rfl,dy⟩:=hF.rowm.shape'
  obtain⟨fx,dv,fu,rfl,dx⟩:=hF.rowe.shape'
  cases gk with
  | zero=>exact absurd HR.out HN.out
  | succ k=>
   go_wp2_with fail
   refine(D8j hs).mono ?_
   rintro en w4 ⟨rfl,fc,hk4⟩
   have fj:=hF.kp hk4 dh
   have dg:=hk.trans hk4
   clear hF hs hk hk4
   generalize hq:A1f q=t3 at fc ⊢
   by_cases h0:t3 = []
   ·have cj:Hid (A1m K K ⟨[],[]⟩ r = .ok (⟨lm.map Prod.fst,le.map Prod.fst⟩,[])):=by show _=_;rw[HR.out,A1m,hq,if_pos h0]
    have hd:decide (t3 = [])=true:=by simpa using h0
    rw[hd]
    clear hq HR hd
    subst h0
    go_wp2
    go_end0
    exact⟨dg,by rw[cj.out];exact⟨rfl,_,_,lm,le,fj,rfl,rfl,hlen,fc⟩⟩
   ·have cj:Hid (A1m K K ⟨[],[]⟩ r=R.thn (B3w K ⟨lm.map Prod.fst,le.map Prod.fst⟩ t3) fun g u=>if 10<g.msgs.length+g.enums.length then .error (some (5,u)) else A1m K k g u):=by show _=_;rw[HR.out,A1m,hq,if_neg h0]
    have hd:decide (t3 = [])=false:=by simpa using h0
    rw[hd]
    clear hq HR hd h0
    go_wp2_with fail
    refine(A5f fc A7i (by decide)).mono ?_
    rintro en w5 ⟨rfl,hs5,fk⟩
    have ew:=fj.kp fk dh
    replace dg:=dg.trans fk
    clear fc fj fk
    generalize hq:B0h A7i t3=mq at hs5 ⊢
    obtain⟨ok,t5⟩:=mq
    cases ok with
    | true=>
     obtain⟨w7,fh⟩:∃ w7,w7=w5:=⟨_,rfl⟩
     obtain⟨t7,fe⟩:∃ t7,t7=t5:=⟨_,rfl⟩
     subst fh fe
     have HP:Hid (B3w K ⟨lm.map Prod.fst,le.map Prod.fst⟩ t3=R.thn (A0e K t7) fun m u=>.ok (⟨lm.map Prod.fst++[m],le.map Prod.fst⟩,u)):=by show _=_;rw[B3w,hq]
     have ei:A0e K t7≠.error none:=by intro hh;apply HN.out;rw[cj.out,HP.out,hh];rfl
     have dz:St w7 b txt t7 _ _:=hs5
     have eh:=ew
     have ej:Gl B w7:=hg.kp hB dh dg
     clear hq hs5 ew
     go_wp2_with fail
     obtain⟨c2,c3⟩:=dz.c23
     refine wp_region_any (by kernel_rfl) ?_
     change wpAny _ _ _ _ _ _ _ (World.drew _)
     refine wpAny_take (i:=0) (v:=.pointer (some ⟨b,0,none⟩)) rfl (by kernel_rfl) (by kernel_rfl) (by kernel_rfl) (fun _ _ _ h=>h) (Or.inl ⟨by rfl,by intro w;go_simp⟩) ?_
     refine wpAny_take (i:=1) (v:=.pointer (some ⟨b,0,none⟩)) rfl (by kernel_rfl) (by kernel_rfl) (by kernel_rfl) (fun _ _ _ h=>h) (Or.inl ⟨by rfl,by intro w;go_simp⟩) ?_
     refine wpAny_take (i:=2) (v:=.pointer (some ⟨b,0,none⟩)) rfl (by kernel_rfl) (by kernel_rfl) (by kernel_rfl) (fun _ _ _ h=>h) (Or.inl ⟨by rfl,by intro w;go_simp⟩) ?_
     refine wpAny_take (i:=3) (v:=.pointer (some ⟨b,2,none⟩)) rfl (by kernel_rfl) (by kernel_rfl) (by kernel_rfl) (fun _ _ _ h=>h) (Or.inl ⟨by rfl,by intro w;go_simp⟩) ?_
     refine wpAny_take (i:=4) (v:=.pointer (some ⟨b,2,none⟩)) rfl (by kernel_rfl) (by kernel_rfl) (by kernel_rfl) (fun _ _ _ h=>h) (Or.inl ⟨by rfl,by intro w;go_simp⟩) ?_
     refine wpAny_take (i:=6) (v:=.pointer (some ⟨b,0,none⟩)) rfl (by kernel_rfl) (by kernel_rfl) (by kernel_rfl) (fun _ _ _ h=>h) (Or.inl ⟨by rfl,by intro w;go_simp⟩) ?_
     refine wpAny_ready (rs:=[5,7]) (by kernel_rfl) (by simp) ?_
     refine AllReady.cons rfl (fun Kc hK=>?_) (AllReady.cons rfl (fun Kc hK=>?_) AllReady.nil)
     ·go_simp
      refine hK _ _ ?_
      clear hK
      refine wpAny_ready (rs:=[7]) (by kernel_rfl) (by simp) ?_
      refine AllReady.cons rfl (fun Kc hK=>?_) AllReady.nil
      go_simp
      refine(A2u dz.drew ej.drew' hB K ft ei).mono ?_
      rintro en w8 ⟨dm,hx⟩
      have dr:=eh.drew.kp dm dh
      have bh:=dg.drew.trans dm
      cases hn:A0e K t7 with
      | error E=>
       rw[hn] at hx
       match E,hx with
       | none,hx=>exact hx.elim
       | some (c,t),hx=>
        obtain⟨ht,rfl⟩:=hx
        have HY:Hid (A1m K K ⟨[],[]⟩ r = .error (some (c,t))):=by show _=_;rw[cj.out,HP.out,hn];rfl
        clear hn cj hK
        go_wp2
        exact⟨rfl,bh,by rw[HY.out];exact⟨ht,rfl⟩⟩
      | ok p=>
       obtain⟨x,t8⟩:=p
       rw[hn] at hx
       obtain⟨df,_,rfl,vf,vb,rfl,di,d9⟩:=hx
       obtain⟨ah,nf,ac,rfl,_⟩:=di.shape'
       obtain⟨a8,nb,ag,rfl,_⟩:=d9.shape'
       have HI:Hid (A0e K t7 = .ok (x,t8)):=hn
       clear hn
       obtain⟨c2,c3⟩:=df.c23
       have hbl:b<w8.heap.size:=df.lt
       have dt:w.heap.size≤w8.heap.size:=bh.size
       have dl:w.heap.size≤w7.drew.heap.size:=dg.size
       refine hK _ _ ?_
       clear hK
       refine wpAny_ready (rs:=[8]) (by kernel_rfl) (by simp) ?_
       refine AllReady.cons rfl (fun Kc hK=>?_) AllReady.nil
       go_simp
       refine hK _ _ ?_
       clear hK
       refine wpAny_ready (rs:=[9]) (by kernel_rfl) (by simp) ?_
       refine AllReady.cons rfl (fun Kc hK=>?_) AllReady.nil
       simp only[Region.wanted]
       have cg:Row B2l (w8.alloc (.cells #[.string (S x.name),.slice ah nf ac,.slice a8 nb ag] 38)) w.heap.size (.slice (some ⟨w8.heap.size,0,none⟩) 1 1) [(x,(ah,nf,ac),(a8,nb,ag))]:=Row.one B2l w8 (x,(ah,nf,ac),(a8,nb,ag)) dt
       have bu:=dr.below ((Below.refl _ w8).alloc (Nat.le_refl _) (.cells #[.string (S x.name),.slice ah nf ac,.slice a8 nb ag] 38))
       have bk:=((di.mono dl).below ((Below.refl _ w8).alloc (Nat.le_refl _) (.cells #[.string (S x.name),.slice ah nf ac,.slice a8 nb ag] 38)))
       have bw:=((d9.mono dl).below ((Below.refl _ w8).alloc (Nat.le_refl _) (.cells #[.string (S x.name),.slice ah nf ac,.slice a8 nb ag] 38)))
       have dp:=df.alloc (.cells #[.string (S x.name),.slice ah nf ac,.slice a8 nb ag] 38)
       have dn:=bh.alloc (.cells #[.string (S x.name),.slice ah nf ac,.slice a8 nb ag] 38)
       refine A3w B2l _ _ rfl w.heap.size _ lm [(x,(ah,nf,ac),(a8,nb,ag))] rfl bu.rowm _ _ rfl cg (by(try simp);omega) (by simp;omega) ?_
       intro vn eu ak hgr
       obtain⟨bq,nn,au,rfl,cw⟩:=ak.shape'
       have hown:=bu.rowm.own
       have aw:=dp.grown hgr (fun k hk=>by have:=(hown k hk).1;omega)
       have bv:=dn.grown hgr (fun k hk=>(hown k hk).1)
       have br:=bu.addm (x,(ah,nf,ac),(a8,nb,ag)) hgr ak bk bw
       obtain⟨k2,k3⟩:=aw.c23
       have g1:=aw.fr 2
       clear c2 c3
       refine hK _ _ ?_
       clear hK
       refine wpAny_take (i:=10) (v:=.pointer (some ⟨b,0,none⟩)) rfl (by kernel_rfl) (by kernel_rfl) (by kernel_rfl) (fun _ _ _ h=>h) (Or.inl ⟨by rfl,by intro w;go_simp⟩) ?_
       refine wpAny_take (i:=11) (v:=.pointer (some ⟨b,2,none⟩)) rfl (by kernel_rfl) (by kernel_rfl) (by kernel_rfl) (fun _ _ _ h=>h) (Or.inl ⟨by rfl,by intro w;go_simp⟩) ?_
       refine wpAny_take (i:=12) (v:=.pointer (some ⟨b,2,none⟩)) rfl (by kernel_rfl) (by kernel_rfl) (by kernel_rfl) (fun _ _ _ h=>h) (Or.inl ⟨by rfl,by intro w;go_simp⟩) ?_
       refine wpAny_ready (rs:=[13]) (by kernel_rfl) (by simp) ?_
       refine AllReady.cons rfl (fun Kc hK=>?_) AllReady.nil
       go_simp
       refine hK _ _ ?_
       clear hK
       refine wpAny_done (by kernel_rfl) ?_ _
       have aj:=aw.set2 (.slice bq nn au)
       have bg:=bv.set 2 (.slice bq nn au)
       have bt:=br.set (b:=b) dh 2 (.slice bq nn au)
       have bp:=dx
       obtain⟨c2,c3⟩:=aj.c23
       have cu:Hid (nn=lm.length+1):=by show _=_;rw[cw.out];simp
       have HG:Hid (B3w K ⟨lm.map Prod.fst,le.map Prod.fst⟩ t3 = .ok (⟨(lm++[(x,(ah,nf,ac),(a8,nb,ag))]).map Prod.fst,le.map Prod.fst⟩,t8)):=by show _=_;rw[HP.out,HI.out];simp[R.thn]
       have HQ:Hid (A1m K K ⟨[],[]⟩ r=if 10<nn+dv then .error (some (5,t8)) else A1m K k ⟨(lm++[(x,(ah,nf,ac),(a8,nb,ag))]).map Prod.fst,le.map Prod.fst⟩ t8):=by
        show _=_
        rw[cj.out,HG.out]
        simp only[R.thn,List.length_map]
        rw[bp.out,cw.out]
       have eo:nn≤1000:=by rw[cu.out];omega
       have hne:dv≤1000:=by rw[bp.out];omega
       by_cases h10:10<nn+dv
       ·have HY:Hid (A1m K K ⟨[],[]⟩ r = .error (some (5,t8))):=by show _=_;rw[HQ.out,if_pos h10]
        go_wp2_with fail
        go_quiet (fail)
        go_wp2_with fail
        refine(A0n (aj.drewN _) 5).mono ?_
        rintro en ee ⟨rfl,rfl⟩
        go_wp2
        exact⟨rfl,bg.drewN _,by rw[HY.out];exact⟨aj.2.1,rfl⟩⟩
       ·have HY:Hid (A1m K K ⟨[],[]⟩ r=A1m K k ⟨(lm++[(x,(ah,nf,ac),(a8,nb,ag))]).map Prod.fst,le.map Prod.fst⟩ t8):=by show _=_;rw[HQ.out,if_neg h10]
        go_wp2_with fail
        go_quiet (fail)
        go_wp2_with fail
        go_roundg k
        case measure=>omega
        case rel=>exact⟨_,_,t8,_,_,bt.drewN _,aj.drewN _,bg.drewN _,by rw[List.length_append];simp;have:=cu.out;have:=bp.out;omega,HY⟩
     ·go_simp
      refine(A2u dz.drew ej.drew' hB K ft ei).mono ?_
      rintro en w8 ⟨dm,hx⟩
      have dr:=eh.drew.kp dm dh
      have bh:=dg.drew.trans dm
      cases hn:A0e K t7 with
      | error E=>
       rw[hn] at hx
       match E,hx with
       | none,hx=>exact hx.elim
       | some (c,t),hx=>
        obtain⟨ht,rfl⟩:=hx
        have HY:Hid (A1m K K ⟨[],[]⟩ r = .error (some (c,t))):=by show _=_;rw[cj.out,HP.out,hn];rfl
        clear hn cj hK
        go_wp2
        exact⟨rfl,bh,by rw[HY.out];exact⟨ht,rfl⟩⟩
      | ok p=>
       obtain⟨x,t8⟩:=p
       rw[hn] at hx
       obtain⟨df,_,rfl,vf,vb,rfl,di,d9⟩:=hx
       obtain⟨ah,nf,ac,rfl,_⟩:=di.shape'
       obtain⟨a8,nb,ag,rfl,_⟩:=d9.shape'
       have HI:Hid (A0e K t7 = .ok (x,t8)):=hn
       clear hn
       obtain⟨c2,c3⟩:=df.c23
       have hbl:b<w8.heap.size:=df.lt
       have dt:w.heap.size≤w8.heap.size:=bh.size
       have dl:w.heap.size≤w7.drew.heap.size:=dg.size
       refine hK _ _ ?_
       clear hK
       refine wpAny_ready (rs:=[5,8]) (by kernel_rfl) (by simp) ?_
       refine AllReady.cons rfl (fun Kc hK=>?_) (AllReady.cons rfl (fun Kc hK=>?_) AllReady.nil)
       rotate_right
       focus
        go_simp
        refine hK _ _ ?_
        clear hK
        refine wpAny_ready (rs:=[5]) (by kernel_rfl) (by simp) ?_
       rotate_right
       focus
        go_simp
        refine hK _ _ ?_
        clear hK
        refine wpAny_ready (rs:=[8]) (by kernel_rfl) (by simp) ?_
       all_goals
        refine AllReady.cons rfl (fun Kc hK=>?_) AllReady.nil
        go_simp
        refine hK _ _ ?_
        clear hK
        refine wpAny_ready (rs:=[9]) (by kernel_rfl) (by simp) ?_
        refine AllReady.cons rfl (fun Kc hK=>?_) AllReady.nil
        simp only[Region.wanted]
        have cg:Row B2l (w8.alloc (.cells #[.string (S x.name),.slice ah nf ac,.slice a8 nb ag] 38)) w.heap.size (.slice (some ⟨w8.heap.size,0,none⟩) 1 1) [(x,(ah,nf,ac),(a8,nb,ag))]:=Row.one B2l w8 (x,(ah,nf,ac),(a8,nb,ag)) dt
        have bu:=dr.below ((Below.refl _ w8).alloc (Nat.le_refl _) (.cells #[.string (S x.name),.slice ah nf ac,.slice a8 nb ag] 38))
        have bk:=((di.mono dl).below ((Below.refl _ w8).alloc (Nat.le_refl _) (.cells #[.string (S x.name),.slice ah nf ac,.slice a8 nb ag] 38)))
        have bw:=((d9.mono dl).below ((Below.refl _ w8).alloc (Nat.le_refl _) (.cells #[.string (S x.name),.slice ah nf ac,.slice a8 nb ag] 38)))
        have dp:=df.alloc (.cells #[.string (S x.name),.slice ah nf ac,.slice a8 nb ag] 38)
        have dn:=bh.alloc (.cells #[.string (S x.name),.slice ah nf ac,.slice a8 nb ag] 38)
        refine A3w B2l _ _ rfl w.heap.size _ lm [(x,(ah,nf,ac),(a8,nb,ag))] rfl bu.rowm _ _ rfl cg (by(try simp);omega) (by simp;omega) ?_
        intro vn eu ak hgr
        obtain⟨bq,nn,au,rfl,cw⟩:=ak.shape'
        have hown:=bu.rowm.own
        have aw:=dp.grown hgr (fun k hk=>by have:=(hown k hk).1;omega)
        have bv:=dn.grown hgr (fun k hk=>(hown k hk).1)
        have br:=bu.addm (x,(ah,nf,ac),(a8,nb,ag)) hgr ak bk bw
        obtain⟨k2,k3⟩:=aw.c23
        have g1:=aw.fr 2
        clear c2 c3
        refine hK _ _ ?_
        clear hK
        refine wpAny_take (i:=10) (v:=.pointer (some ⟨b,0,none⟩)) rfl (by kernel_rfl) (by kernel_rfl) (by kernel_rfl) (fun _ _ _ h=>h) (Or.inl ⟨by rfl,by intro w;go_simp⟩) ?_
        refine wpAny_take (i:=11) (v:=.pointer (some ⟨b,2,none⟩)) rfl (by kernel_rfl) (by kernel_rfl) (by kernel_rfl) (fun _ _ _ h=>h) (Or.inl ⟨by rfl,by intro w;go_simp⟩) ?_
        refine wpAny_take (i:=12) (v:=.pointer (some ⟨b,2,none⟩)) rfl (by kernel_rfl) (by kernel_rfl) (by kernel_rfl) (fun _ _ _ h=>h) (Or.inl ⟨by rfl,by intro w;go_simp⟩) ?_
        refine wpAny_ready (rs:=[13]) (by kernel_rfl) (by simp) ?_
        refine AllReady.cons rfl (fun Kc hK=>?_) AllReady.nil
        go_simp
        refine hK _ _ ?_
        clear hK
        refine wpAny_done (by kernel_rfl) ?_ _
        have aj:=aw.set2 (.slice bq nn au)
        have bg:=bv.set 2 (.slice bq nn au)
        have bt:=br.set (b:=b) dh 2 (.slice bq nn au)
        have bp:=dx
        obtain⟨c2,c3⟩:=aj.c23
        have cu:Hid (nn=lm.length+1):=by show _=_;rw[cw.out];simp
        have HG:Hid (B3w K ⟨lm.map Prod.fst,le.map Prod.fst⟩ t3 = .ok (⟨(lm++[(x,(ah,nf,ac),(a8,nb,ag))]).map Prod.fst,le.map Prod.fst⟩,t8)):=by show _=_;rw[HP.out,HI.out];simp[R.thn]
        have HQ:Hid (A1m K K ⟨[],[]⟩ r=if 10<nn+dv then .error (some (5,t8)) else A1m K k ⟨(lm++[(x,(ah,nf,ac),(a8,nb,ag))]).map Prod.fst,le.map Prod.fst⟩ t8):=by
         show _=_
         rw[cj.out,HG.out]
         simp only[R.thn,List.length_map]
         rw[bp.out,cw.out]
        have eo:nn≤1000:=by rw[cu.out];omega
        have hne:dv≤1000:=by rw[bp.out];omega
        by_cases h10:10<nn+dv
        ·have HY:Hid (A1m K K ⟨[],[]⟩ r = .error (some (5,t8))):=by show _=_;rw[HQ.out,if_pos h10]
         go_wp2_with fail
         go_quiet (fail)
         go_wp2_with fail
         refine(A0n (aj.drewN _) 5).mono ?_
         rintro en ee ⟨rfl,rfl⟩
         go_wp2
         exact⟨rfl,bg.drewN _,by rw[HY.out];exact⟨aj.2.1,rfl⟩⟩
        ·have HY:Hid (A1m K K ⟨[],[]⟩ r=A1m K k ⟨(lm++[(x,(ah,nf,ac),(a8,nb,ag))]).map Prod.fst,le.map Prod.fst⟩ t8):=by show _=_;rw[HQ.out,if_neg h10]
         go_wp2_with fail
         go_quiet (fail)
         go_wp2_with fail
         go_roundg k
         case measure=>omega
         case rel=>exact⟨_,_,t8,_,_,bt.drewN _,aj.drewN _,bg.drewN _,by rw[List.length_append];simp;have:=cu.out;have:=bp.out;omega,HY⟩
    | false=>
     go_wp2_with fail
     refine(A5f hs5 B2u (by decide)).mono ?_
     rintro en w6 ⟨rfl,fd,fo⟩
     have fq:=ew.kp fo dh
     replace dg:=dg.trans fo
     clear hs5 ew fo
     generalize hq6:B0h B2u t5=mq at fd ⊢
     obtain⟨ok,t6⟩:=mq
     cases ok with
     | true=>
      obtain⟨w7,fh⟩:∃ w7,w7=w6:=⟨_,rfl⟩
      obtain⟨t7,fe⟩:∃ t7,t7=t6:=⟨_,rfl⟩
      subst fh fe
      have HP:Hid (B3w K ⟨lm.map Prod.fst,le.map Prod.fst⟩ t3=R.thn (A4j K t7) fun m u=>.ok (⟨lm.map Prod.fst,le.map Prod.fst++[m]⟩,u)):=by show _=_;rw[B3w,hq];show(match B0h B2u t5 with|(true,t)=>_|(false,t)=>_)=_;rw[hq6]
      have ei:A4j K t7≠.error none:=by intro hh;apply HN.out;rw[cj.out,HP.out,hh];rfl
      have dz:St w7 b txt t7 _ _:=fd
      have eh:=fq
      have ej:Gl B w7:=hg.kp hB dh dg
      clear hq hq6 fd fq
      go_wp2_with fail
      obtain⟨c2,c3⟩:=dz.c23
      refine wp_region_any (by kernel_rfl) ?_
      change wpAny _ _ _ _ _ _ _ (World.drew _)
      refine wpAny_take (i:=0) (v:=.pointer (some ⟨b,0,none⟩)) rfl (by kernel_rfl) (by kernel_rfl) (by kernel_rfl) (fun _ _ _ h=>h) (Or.inl ⟨by rfl,by intro w;go_simp⟩) ?_
      refine wpAny_take (i:=1) (v:=.pointer (some ⟨b,0,none⟩)) rfl (by kernel_rfl) (by kernel_rfl) (by kernel_rfl) (fun _ _ _ h=>h) (Or.inl ⟨by rfl,by intro w;go_simp⟩) ?_
      refine wpAny_take (i:=2) (v:=.pointer (some ⟨b,0,none⟩)) rfl (by kernel_rfl) (by kernel_rfl) (by kernel_rfl) (fun _ _ _ h=>h) (Or.inl ⟨by rfl,by intro w;go_simp⟩) ?_
      refine wpAny_take (i:=3) (v:=.pointer (some ⟨b,2,none⟩)) rfl (by kernel_rfl) (by kernel_rfl) (by kernel_rfl) (fun _ _ _ h=>h) (Or.inl ⟨by rfl,by intro w;go_simp⟩) ?_
      refine wpAny_take (i:=4) (v:=.pointer (some ⟨b,3,none⟩)) rfl (by kernel_rfl) (by kernel_rfl) (by kernel_rfl) (fun _ _ _ h=>h) (Or.inl ⟨by rfl,by intro w;go_simp⟩) ?_
      refine wpAny_take (i:=6) (v:=.pointer (some ⟨b,0,none⟩)) rfl (by kernel_rfl) (by kernel_rfl) (by kernel_rfl) (fun _ _ _ h=>h) (Or.inl ⟨by rfl,by intro w;go_simp⟩) ?_
      refine wpAny_ready (rs:=[5,7]) (by kernel_rfl) (by simp) ?_
      refine AllReady.cons rfl (fun Kc hK=>?_) (AllReady.cons rfl (fun Kc hK=>?_) AllReady.nil)
      ·go_simp
       refine hK _ _ ?_
       clear hK
       refine wpAny_ready (rs:=[7]) (by kernel_rfl) (by simp) ?_
       refine AllReady.cons rfl (fun Kc hK=>?_) AllReady.nil
       go_simp
       refine(A9j dz.drew ej.drew' hB K ei).mono ?_
       rintro en w8 ⟨dm,hx⟩
       have dr:=eh.drew.kp dm dh
       have bh:=dg.drew.trans dm
       cases hn:A4j K t7 with
       | error E=>
        rw[hn] at hx
        match E,hx with
        | none,hx=>exact hx.elim
        | some (c,t),hx=>
         obtain⟨ht,rfl⟩:=hx
         have HY:Hid (A1m K K ⟨[],[]⟩ r = .error (some (c,t))):=by show _=_;rw[cj.out,HP.out,hn];rfl
         clear hn cj hK
         go_wp2
         exact⟨rfl,bh,by rw[HY.out];exact⟨ht,rfl⟩⟩
       | ok p=>
        obtain⟨x,t8⟩:=p
        rw[hn] at hx
        obtain⟨df,_,rfl,vf,rfl,di⟩:=hx
        obtain⟨ah,nf,ac,rfl,_⟩:=di.shape'
        have HI:Hid (A4j K t7 = .ok (x,t8)):=hn
        clear hn
        obtain⟨c2,c3⟩:=df.c23
        have hbl:b<w8.heap.size:=df.lt
        have dt:w.heap.size≤w8.heap.size:=bh.size
        have dl:w.heap.size≤w7.drew.heap.size:=dg.size
        refine hK _ _ ?_
        clear hK
        refine wpAny_ready (rs:=[8]) (by kernel_rfl) (by simp) ?_
        refine AllReady.cons rfl (fun Kc hK=>?_) AllReady.nil
        go_simp
        refine hK _ _ ?_
        clear hK
        refine wpAny_ready (rs:=[9]) (by kernel_rfl) (by simp) ?_
        refine AllReady.cons rfl (fun Kc hK=>?_) AllReady.nil
        simp only[Region.wanted]
        have cg:Row B2k (w8.alloc (.cells #[.string (S x.name),.slice ah nf ac] 100)) w.heap.size (.slice (some ⟨w8.heap.size,0,none⟩) 1 1) [(x,(ah,nf,ac))]:=Row.one B2k w8 (x,(ah,nf,ac)) dt
        have bu:=dr.below ((Below.refl _ w8).alloc (Nat.le_refl _) (.cells #[.string (S x.name),.slice ah nf ac] 100))
        have bk:=((di.mono dl).below ((Below.refl _ w8).alloc (Nat.le_refl _) (.cells #[.string (S x.name),.slice ah nf ac] 100)))
        have dp:=df.alloc (.cells #[.string (S x.name),.slice ah nf ac] 100)
        have dn:=bh.alloc (.cells #[.string (S x.name),.slice ah nf ac] 100)
        refine A3w B2k _ _ rfl w.heap.size _ le [(x,(ah,nf,ac))] rfl bu.rowe _ _ rfl cg (by(try simp);omega) (by simp;omega) ?_
        intro vn eu ak hgr
        obtain⟨bq,nn,au,rfl,cw⟩:=ak.shape'
        have hown:=bu.rowe.own
        have aw:=dp.grown hgr (fun k hk=>by have:=(hown k hk).1;omega)
        have bv:=dn.grown hgr (fun k hk=>(hown k hk).1)
        have br:=bu.adde (x,(ah,nf,ac)) hgr ak bk
        obtain⟨k2,k3⟩:=aw.c23
        have g1:=aw.fr 3
        clear c2 c3
        refine hK _ _ ?_
        clear hK
        refine wpAny_take (i:=10) (v:=.pointer (some ⟨b,0,none⟩)) rfl (by kernel_rfl) (by kernel_rfl) (by kernel_rfl) (fun _ _ _ h=>h) (Or.inl ⟨by rfl,by intro w;go_simp⟩) ?_
        refine wpAny_take (i:=11) (v:=.pointer (some ⟨b,2,none⟩)) rfl (by kernel_rfl) (by kernel_rfl) (by kernel_rfl) (fun _ _ _ h=>h) (Or.inl ⟨by rfl,by intro w;go_simp⟩) ?_
        refine wpAny_take (i:=12) (v:=.pointer (some ⟨b,3,none⟩)) rfl (by kernel_rfl) (by kernel_rfl) (by kernel_rfl) (fun _ _ _ h=>h) (Or.inl ⟨by rfl,by intro w;go_simp⟩) ?_
        refine wpAny_ready (rs:=[13]) (by kernel_rfl) (by simp) ?_
        refine AllReady.cons rfl (fun Kc hK=>?_) AllReady.nil
        go_simp
        refine hK _ _ ?_
        clear hK
        refine wpAny_done (by kernel_rfl) ?_ _
        have aj:=aw.set3 (.slice bq nn au)
        have bg:=bv.set 3 (.slice bq nn au)
        have bt:=br.set (b:=b) dh 3 (.slice bq nn au)
        have bp:=dy
        obtain⟨c2,c3⟩:=aj.c23
        have cu:Hid (nn=le.length+1):=by show _=_;rw[cw.out];simp
        have HG:Hid (B3w K ⟨lm.map Prod.fst,le.map Prod.fst⟩ t3 = .ok (⟨lm.map Prod.fst,(le++[(x,(ah,nf,ac))]).map Prod.fst⟩,t8)):=by show _=_;rw[HP.out,HI.out];simp[R.thn]
        have HQ:Hid (A1m K K ⟨[],[]⟩ r=if 10<nn+dw then .error (some (5,t8)) else A1m K k ⟨lm.map Prod.fst,(le++[(x,(ah,nf,ac))]).map Prod.fst⟩ t8):=by
         show _=_
         rw[cj.out,HG.out]
         simp only[R.thn,List.length_map]
         rw[bp.out,cw.out]
         rw[Nat.add_comm]
        have eo:nn≤1000:=by rw[cu.out];omega
        have hne:dw≤1000:=by rw[bp.out];omega
        by_cases h10:10<nn+dw
        ·have HY:Hid (A1m K K ⟨[],[]⟩ r = .error (some (5,t8))):=by show _=_;rw[HQ.out,if_pos h10]
         go_wp2_with fail
         go_quiet (fail)
         go_wp2_with fail
         refine(A0n (aj.drewN _) 5).mono ?_
         rintro en ee ⟨rfl,rfl⟩
         go_wp2
         exact⟨rfl,bg.drewN _,by rw[HY.out];exact⟨aj.2.1,rfl⟩⟩
        ·have HY:Hid (A1m K K ⟨[],[]⟩ r=A1m K k ⟨lm.map Prod.fst,(le++[(x,(ah,nf,ac))]).map Prod.fst⟩ t8):=by show _=_;rw[HQ.out,if_neg h10]
         go_wp2_with fail
         go_quiet (fail)
         go_wp2_with fail
         go_roundg k
         case measure=>omega
         case rel=>exact⟨_,_,t8,_,_,bt.drewN _,aj.drewN _,bg.drewN _,by rw[List.length_append];simp;have:=cu.out;have:=bp.out;omega,HY⟩
      ·go_simp
       refine(A9j dz.drew ej.drew' hB K ei).mono ?_
       rintro en w8 ⟨dm,hx⟩
       have dr:=eh.drew.kp dm dh
       have bh:=dg.drew.trans dm
       cases hn:A4j K t7 with
       | error E=>
        rw[hn] at hx
        match E,hx with
        | none,hx=>exact hx.elim
        | some (c,t),hx=>
         obtain⟨ht,rfl⟩:=hx
         have HY:Hid (A1m K K ⟨[],[]⟩ r = .error (some (c,t))):=by show _=_;rw[cj.out,HP.out,hn];rfl
         clear hn cj hK
         go_wp2
         exact⟨rfl,bh,by rw[HY.out];exact⟨ht,rfl⟩⟩
       | ok p=>
        obtain⟨x,t8⟩:=p
        rw[hn] at hx
        obtain⟨df,_,rfl,vf,rfl,di⟩:=hx
        obtain⟨ah,nf,ac,rfl,_⟩:=di.shape'
        have HI:Hid (A4j K t7 = .ok (x,t8)):=hn
        clear hn
        obtain⟨c2,c3⟩:=df.c23
        have hbl:b<w8.heap.size:=df.lt
        have dt:w.heap.size≤w8.heap.size:=bh.size
        have dl:w.heap.size≤w7.drew.heap.size:=dg.size
        refine hK _ _ ?_
        clear hK
        refine wpAny_ready (rs:=[5,8]) (by kernel_rfl) (by simp) ?_
        refine AllReady.cons rfl (fun Kc hK=>?_) (AllReady.cons rfl (fun Kc hK=>?_) AllReady.nil)
        rotate_right
        focus
         go_simp
         refine hK _ _ ?_
         clear hK
         refine wpAny_ready (rs:=[5]) (by kernel_rfl) (by simp) ?_
        rotate_right
        focus
         go_simp
         refine hK _ _ ?_
         clear hK
         refine wpAny_ready (rs:=[8]) (by kernel_rfl) (by simp) ?_
        all_goals
         refine AllReady.cons rfl (fun Kc hK=>?_) AllReady.nil
         go_simp
         refine hK _ _ ?_
         clear hK
         refine wpAny_ready (rs:=[9]) (by kernel_rfl) (by simp) ?_
         refine AllReady.cons rfl (fun Kc hK=>?_) AllReady.nil
         simp only[Region.wanted]
         have cg:Row B2k (w8.alloc (.cells #[.string (S x.name),.slice ah nf ac] 100)) w.heap.size (.slice (some ⟨w8.heap.size,0,none⟩) 1 1) [(x,(ah,nf,ac))]:=Row.one B2k w8 (x,(ah,nf,ac)) dt
         have bu:=dr.below ((Below.refl _ w8).alloc (Nat.le_refl _) (.cells #[.string (S x.name),.slice ah nf ac] 100))
         have bk:=((di.mono dl).below ((Below.refl _ w8).alloc (Nat.le_refl _) (.cells #[.string (S x.name),.slice ah nf ac] 100)))
         have dp:=df.alloc (.cells #[.string (S x.name),.slice ah nf ac] 100)
         have dn:=bh.alloc (.cells #[.string (S x.name),.slice ah nf ac] 100)
         refine A3w B2k _ _ rfl w.heap.size _ le [(x,(ah,nf,ac))] rfl bu.rowe _ _ rfl cg (by(try simp);omega) (by simp;omega) ?_
         intro vn eu ak hgr
         obtain⟨bq,nn,au,rfl,cw⟩:=ak.shape'
         have hown:=bu.rowe.own
         have aw:=dp.grown hgr (fun k hk=>by have:=(hown k hk).1;omega)
         have bv:=dn.grown hgr (fun k hk=>(hown k hk).1)
         have br:=bu.adde (x,(ah,nf,ac)) hgr ak bk
         obtain⟨k2,k3⟩:=aw.c23
         have g1:=aw.fr 3
         clear c2 c3
         refine hK _ _ ?_
         clear hK
         refine wpAny_take (i:=10) (v:=.pointer (some ⟨b,0,none⟩)) rfl (by kernel_rfl) (by kernel_rfl) (by kernel_rfl) (fun _ _ _ h=>h) (Or.inl ⟨by rfl,by intro w;go_simp⟩) ?_
         refine wpAny_take (i:=11) (v:=.pointer (some ⟨b,2,none⟩)) rfl (by kernel_rfl) (by kernel_rfl) (by kernel_rfl) (fun _ _ _ h=>h) (Or.inl ⟨by rfl,by intro w;go_simp⟩) ?_
         refine wpAny_take (i:=12) (v:=.pointer (some ⟨b,3,none⟩)) rfl (by kernel_rfl) (by kernel_rfl) (by kernel_rfl) (fun _ _ _ h=>h) (Or.inl ⟨by rfl,by intro w;go_simp⟩) ?_
         refine wpAny_ready (rs:=[13]) (by kernel_rfl) (by simp) ?_
         refine AllReady.cons rfl (fun Kc hK=>?_) AllReady.nil
         go_simp
         refine hK _ _ ?_
         clear hK
         refine wpAny_done (by kernel_rfl) ?_ _
         have aj:=aw.set3 (.slice bq nn au)
         have bg:=bv.set 3 (.slice bq nn au)
         have bt:=br.set (b:=b) dh 3 (.slice bq nn au)
         have bp:=dy
         obtain⟨c2,c3⟩:=aj.c23
         have cu:Hid (nn=le.length+1):=by show _=_;rw[cw.out];simp
         have HG:Hid (B3w K ⟨lm.map Prod.fst,le.map Prod.fst⟩ t3 = .ok (⟨lm.map Prod.fst,(le++[(x,(ah,nf,ac))]).map Prod.fst⟩,t8)):=by show _=_;rw[HP.out,HI.out];simp[R.thn]
         have HQ:Hid (A1m K K ⟨[],[]⟩ r=if 10<nn+dw then .error (some (5,t8)) else A1m K k ⟨lm.map Prod.fst,(le++[(x,(ah,nf,ac))]).map Prod.fst⟩ t8):=by
          show _=_
          rw[cj.out,HG.out]
          simp only[R.thn,List.length_map]
          rw[bp.out,cw.out]
          rw[Nat.add_comm]
         have eo:nn≤1000:=by rw[cu.out];omega
         have hne:dw≤1000:=by rw[bp.out];omega
         by_cases h10:10<nn+dw
         ·have HY:Hid (A1m K K ⟨[],[]⟩ r = .error (some (5,t8))):=by show _=_;rw[HQ.out,if_pos h10]
          go_wp2_with fail
          go_quiet (fail)
          go_wp2_with fail
          refine(A0n (aj.drewN _) 5).mono ?_
          rintro en ee ⟨rfl,rfl⟩
          go_wp2
          exact⟨rfl,bg.drewN _,by rw[HY.out];exact⟨aj.2.1,rfl⟩⟩
         ·have HY:Hid (A1m K K ⟨[],[]⟩ r=A1m K k ⟨lm.map Prod.fst,(le++[(x,(ah,nf,ac))]).map Prod.fst⟩ t8):=by show _=_;rw[HQ.out,if_neg h10]
          go_wp2_with fail
          go_quiet (fail)
          go_wp2_with fail
          go_roundg k
          case measure=>omega
          case rel=>exact⟨_,_,t8,_,_,bt.drewN _,aj.drewN _,bg.drewN _,by rw[List.length_append];simp;have:=cu.out;have:=bp.out;omega,HY⟩
     | false=>
      have HY:Hid (A1m K K ⟨[],[]⟩ r = .error (some (2,t6))):=by show _=_;rw[cj.out,B3w,hq];show R.thn (match B0h B2u t5 with|(true,t)=>_|(false,t)=>_) _=_;rw[hq6];rfl
      have et:St w6 b txt t6 _ _:=fd
      clear hq hq6
      go_wp2_with fail
      refine(A0n et 2).mono ?_
      rintro en ee ⟨rfl,rfl⟩
      go_wp2
      exact⟨rfl,dg,by rw[HY.out];exact⟨et.2.1,rfl⟩⟩
end Go.Proofs.YtgaoojpakjjdnaaGreatDoor
namespace Go.Proofs.YtgaoojpakjjdnaaGreatDoor
open Go.RowKit
theorem B7v (v:Value)(w:World):(Instr.typeAssert (.iface 50 v) 20 50 false).run Tryz.prog w = .ok v w:=by kernel_rfl
theorem B8c (R c k:Nat)(w:World)(x y:Int)(h0:w.cell? ⟨R,0,none⟩=some (.int .i64 x))(h1:w.cell? ⟨R,1,none⟩=some (.int .i64 y))(f0:w.frozen? ⟨R,0,none⟩=false)(f1:w.frozen? ⟨R,1,none⟩=false) :
  CallsD Tryz.prog 114 #[.pointer (some ⟨R,0,none⟩)] (.panicking (Ft c k)) w fun e u' w'=>
   e = .returned (.tuple #[])∧u' = .panicking [{ v:=.iface 50 (.agg #[.int .i64 (c:Int),.int .i64 (k:Int)]),recovered:=true }]∧w'=(w.setCell ⟨R,0,none⟩ (.int .i64 (c:Int))).setCell ⟨R,1,none⟩ (.int .i64 (k:Int)):=by
 refine callsD_of_wpS Tryz.func114 rfl fun c₀ cs hu=>?_
 unfold Ft at hu
 apply wpS_seq
 apply wpS_region
 simp[wpOpsS,go_sem,recoverD,hu,Tryz.ntmps114,Exit.thenS]
 apply wpS_seq
 apply wpS_region
 simp[wpOpsS,go_sem,Array.replicate,Exit.thenS]
 refine wpS_cond (t:=true) (by simp[Act.eval]) ?_
 simp only[if_true]
 apply wpS_region
 simp[wpOpsS,go_sem,B7v,h0,h1,f0,f1,bodyPostS,results,Tryz.results114]
theorem C4t (R:Nat)(w:World) :
  CallsD Tryz.prog 114 #[.pointer (some ⟨R,0,none⟩)] .returning w fun e u' w'=>e = .returned (.tuple #[])∧u' = .returning∧w'=w:=by
 refine callsD_of_wpS Tryz.func114 rfl fun c₀ cs hu=>?_
 apply wpS_seq
 apply wpS_region
 simp[wpOpsS,go_sem,recoverD,hu,Tryz.ntmps114,Exit.thenS]
 apply wpS_seq
 apply wpS_region
 simp[wpOpsS,go_sem,Array.replicate,Exit.thenS]
 refine wpS_cond (t:=false) (by simp[Act.eval]) ?_
 simp only[Bool.false_eq_true,if_false]
 refine wpS_of_wp (wp_skip ?_)
 cases c₀
 simp_all [bodyPostS,results,Tryz.results114]
end Go.Proofs.YtgaoojpakjjdnaaGreatDoor
