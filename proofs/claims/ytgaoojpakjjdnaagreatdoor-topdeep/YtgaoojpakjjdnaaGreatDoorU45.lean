import Derived.Test.YtgaoojpakjjdnaaGreatDoorU44
set_option maxHeartbeats 32000000
set_option maxRecDepth 100000
namespace Go.Proofs.YtgaoojpakjjdnaaGreatDoor
open Go.RowKit
abbrev SV:=Option Addr×Nat×Nat
def SV.v (s:SV):Value:=.slice s.1 s.2.1 s.2.2
def C7d (p:Msg×SV×SV):List Value:=[.string (S p.1.name),.slice p.2.1.1 p.2.1.2.1 p.2.1.2.2,.slice p.2.2.1 p.2.2.2.1 p.2.2.2.2]
def A9e:EK (Msg×SV×SV) where
 elem:=38
 slice:=22
 size:=3
 bytes:=64
 zero:=.agg #[.string ⟨#[]⟩,.slice none 0 0,.slice none 0 0]
 enc:=C7d
 under:=Tryz.underlying22
 info:=by kernel_rfl
 zs:=rfl
 pos:=by decide
 small:=by decide
 len:=fun _=>rfl
 one:=by intro a u hu;simp only[C7d,List.mem_cons,List.mem_nil_iff,or_false] at hu;rcases hu with rfl|rfl|rfl <;> rfl
def C7b (p:Enm×SV):List Value:=[.string (S p.1.name),.slice p.2.1 p.2.2.1 p.2.2.2]
def A9d:EK (Enm×SV) where
 elem:=100
 slice:=23
 size:=2
 bytes:=40
 zero:=.agg #[.string ⟨#[]⟩,.slice none 0 0]
 enc:=C7b
 under:=Tryz.underlying23
 info:=by kernel_rfl
 zs:=rfl
 pos:=by decide
 small:=by decide
 len:=fun _=>rfl
 one:=by intro a u hu;simp only[C7b,List.mem_cons,List.mem_nil_iff,or_false] at hu;rcases hu with rfl|rfl <;> rfl
structure FilR (w:World) (base:Nat) (vm ve:Value) (lm:List (Msg×SV×SV)) (le:List (Enm×SV)):Prop where
 rowm:Row A9e w base vm lm
 rowe:Row A9d w base ve le
 ms:∀ p∈lm,Row A3h w base p.2.1.v p.1.fields∧Row A5c w base p.2.2.v p.1.barred
 es:∀ p∈le,Row A5d w base p.2.v p.1.items
section
variable {w w':World}{base b:Nat}{vm ve:Value}{lm:List (Msg×SV×SV)}{le:List (Enm×SV)}
theorem FilR.nil (w:World) (base:Nat):FilR w base (.slice none 0 0) (.slice none 0 0) [] []:=⟨Row.nil _ _ _,Row.nil _ _ _,fun _ hp=>(List.not_mem_nil hp).elim,fun _ hp=>(List.not_mem_nil hp).elim⟩
theorem FilR.keep (h:FilR w base vm ve lm le) (hb:∀ k,base≤k→k < w.heap.size→w'.heap[k]?=w.heap[k]?):FilR w' base vm ve lm le:=
 ⟨h.rowm.keep hb,h.rowe.keep hb,fun p hp=>⟨(h.ms p hp).1.keep hb,(h.ms p hp).2.keep hb⟩,fun p hp=>(h.es p hp).keep hb⟩
theorem FilR.kp (h:FilR w base vm ve lm le) (hk:Kp b w w') (hb:b < base):FilR w' base vm ve lm le:=h.keep fun k h1 h2=>hk.block k h2 (by omega)
theorem FilR.below (h:FilR w base vm ve lm le) (hk:Below w.heap.size w w'):FilR w' base vm ve lm le:=h.keep fun k _ h2=>hk.block k h2
theorem FilR.drew (h:FilR w base vm ve lm le):FilR w.drew base vm ve lm le:=h.keep fun _ _ _=>rfl
theorem FilR.drewN (h:FilR w base vm ve lm le) (n:Nat):FilR (w.drewN n) base vm ve lm le:=h.keep fun _ _ _=>rfl
theorem FilR.set (h:FilR w base vm ve lm le) (hb:b < base) (i:Nat) (v:Value):FilR (w.setCell ⟨b,i,none⟩ v) base vm ve lm le:=h.keep fun k h1 _=>Below.heap_setCell _ _ _ _ (by show k≠b;omega)
theorem FilR.addm (h:FilR w base vm ve lm le) (x:Msg×SV×SV){ac:Value}(hg:w.grownBy w' vm.ownBlock) (hr:Row A9e w' base ac (lm++[x])) (hf:Row A3h w base x.2.1.v x.1.fields) (hb:Row A5c w base x.2.2.v x.1.barred):FilR w' base ac ve (lm++[x]) le:=by
 refine⟨hr,h.rowe.grown hg (h.rowe.ne h.rowm (by decide)),?_,fun p hp=>(h.es p hp).grown hg ((h.es p hp).ne h.rowm (by decide))⟩
 intro p hp
 rw[List.mem_append,List.mem_singleton] at hp
 rcases hp with hp|rfl
 ·exact⟨(h.ms p hp).1.grown hg ((h.ms p hp).1.ne h.rowm (by decide)),(h.ms p hp).2.grown hg ((h.ms p hp).2.ne h.rowm (by decide))⟩
 ·exact⟨hf.grown hg (hf.ne h.rowm (by decide)),hb.grown hg (hb.ne h.rowm (by decide))⟩
theorem FilR.adde (h:FilR w base vm ve lm le) (x:Enm×SV){ac:Value}(hg:w.grownBy w' ve.ownBlock) (hr:Row A9d w' base ac (le++[x])) (hf:Row A5d w base x.2.v x.1.items):FilR w' base vm ac lm (le++[x]):=by
 refine⟨h.rowm.grown hg (h.rowm.ne h.rowe (by decide)),hr,fun p hp=>⟨(h.ms p hp).1.grown hg ((h.ms p hp).1.ne h.rowe (by decide)),(h.ms p hp).2.grown hg ((h.ms p hp).2.ne h.rowe (by decide))⟩,?_⟩
 intro p hp
 rw[List.mem_append,List.mem_singleton] at hp
 rcases hp with hp|rfl
 ·exact(h.es p hp).grown hg ((h.es p hp).ne h.rowe (by decide))
 ·exact hf.grown hg (hf.ne h.rowe (by decide))
theorem St.c23 {txt r:List UInt8}{m e:Value}(h:St w b txt r m e):w.cell? ⟨b,2,none⟩=some m∧w.cell? ⟨b,3,none⟩=some e:=⟨A0a h.2.2.2 2 _ rfl,A0a h.2.2.2 3 _ rfl⟩
theorem St.fr {txt r:List UInt8}{m e:Value}(h:St w b txt r m e) (i:Nat):w.frozen? ⟨b,i,none⟩=false:=A0b h.2.2.2 i
theorem St.set2 {txt r:List UInt8}{m e:Value}(h:St w b txt r m e) (v:Value):St (w.setCell ⟨b,2,none⟩ v) b txt r v e:=⟨h.1,h.2.1,h.2.2.1,heap_setCell_same _ _ 2 _ _ v h.2.2.2⟩
theorem St.set3 {txt r:List UInt8}{m e:Value}(h:St w b txt r m e) (v:Value):St (w.setCell ⟨b,3,none⟩ v) b txt r m v:=⟨h.1,h.2.1,h.2.2.1,heap_setCell_same _ _ 3 _ _ v h.2.2.2⟩
end
def D0t (b:Nat) (txt:List UInt8) (w:World) (x:R Fil) (en:Ending) (w':World):Prop:=
 Kp b w w'∧
  match x with
  | .ok (f,t)=>en = .returned (.tuple #[])∧∃ vm ve lm le,FilR w' w.heap.size vm ve lm le∧lm.map Prod.fst=f.msgs∧le.map Prod.fst=f.enums∧lm.length+le.length≤10∧St w' b txt t vm ve
  | .error (some (c,t))=>t.length≤txt.length∧en = .panicked (Ft c (txt.length - t.length))
  | .error none=>False
theorem C7x {B b:Nat}{txt r:List UInt8}{w:World}(h:St w b txt r (.slice none 0 0) (.slice none 0 0)) (hg:Gl B w) (hB:B≤b) (K:Nat) (fj:K≤1000000) (hN:A1j K K ⟨[],[]⟩ r≠.error none) :
  Calls Tryz.prog 115 #[.pointer (some ⟨b,0,none⟩)] w (D0t b txt w (A1j K K ⟨[],[]⟩ r)):=by
 have cw:=h.lt
 have HN:Hid (A1j K K ⟨[],[]⟩ r≠.error none):=hN
 clear hN
 go_enter Tryz.func115,Tryz.ntmps115
 go_wp2_with fail
 go_loopg [] K (fun k wr=>∃ lm le q vm ve,FilR wr w.heap.size vm ve lm le∧St wr b txt q vm ve∧Kp b w wr∧lm.length+le.length≤10∧Hid (A1j K K ⟨[],[]⟩ r=A1j K k ⟨lm.map Prod.fst,le.map Prod.fst⟩ q))
 case atStart=>exact⟨[],[],r,.slice none 0 0,.slice none 0 0,FilR.nil _ _,h,Kp.refl _ _,by simp,rfl⟩
 case round=>
  obtain⟨lm,le,q,vm,ve,hF,hs,hk,hlen,HR⟩:=hrel
  obtain⟨ft,dr,fo,rfl,dv⟩:=hF.rowm.shape'
  obtain⟨fq,dp,fk,rfl,dt⟩:=hF.rowe.shape'
  cases gk with
  | zero=>exact absurd HR.out HN.out
  | succ k=>
   go_wp2_with fail
   refine(C8b hs).mono ?_
   rintro en w4 ⟨rfl,et,hk4⟩
   have fc:=hF.kp hk4 cw
   have cu:=hk.trans hk4
   clear hF hs hk hk4
   generalize hq:A1a q=t3 at et ⊢
   by_cases h0:t3 = []
   ·have bv:Hid (A1j K K ⟨[],[]⟩ r = .ok (⟨lm.map Prod.fst,le.map Prod.fst⟩,[])):=by show _=_;rw[HR.out,A1j,hq,if_pos h0]
    have hd:decide (t3 = [])=true:=by simpa using h0
    rw[hd]
    clear hq HR hd
    subst h0
    go_wp2
    go_end0
    exact⟨cu,by rw[bv.out];exact⟨rfl,_,_,lm,le,fc,rfl,rfl,hlen,et⟩⟩
   ·have bv:Hid (A1j K K ⟨[],[]⟩ r=R.thn (B8c K ⟨lm.map Prod.fst,le.map Prod.fst⟩ t3) fun g u=>if 10 < g.msgs.length+g.enums.length then .error (some (5,u)) else A1j K k g u):=by show _=_;rw[HR.out,A1j,hq,if_neg h0]
    have hd:decide (t3 = [])=false:=by simpa using h0
    rw[hd]
    clear hq HR hd h0
    go_wp2_with fail
    refine(A3s et A9m (by decide)).mono ?_
    rintro en w5 ⟨rfl,hs5,fd⟩
    have eo:=fc.kp fd cw
    replace cu:=cu.trans fd
    clear et fc fd
    generalize hq:A9k A9m t3=mq at hs5 ⊢
    obtain⟨ok,t5⟩:=mq
    cases ok with
    | true=>
     obtain⟨w7,ey⟩:∃ w7,w7=w5:=⟨_,rfl⟩
     obtain⟨t7,ew⟩:∃ t7,t7=t5:=⟨_,rfl⟩
     subst ey ew
     have HP:Hid (B8c K ⟨lm.map Prod.fst,le.map Prod.fst⟩ t3=R.thn (A0g K t7) fun m u=>.ok (⟨lm.map Prod.fst++[m],le.map Prod.fst⟩,u)):=by show _=_;rw[B8c,hq]
     have d9:A0g K t7≠.error none:=by intro hh;apply HN.out;rw[bv.out,HP.out,hh];rfl
     have dw:St w7 b txt t7 _ _:=hs5
     have dz:=eo
     have ee:Gl B w7:=hg.kp hB cw cu
     clear hq hs5 eo
     go_wp2_with fail
     obtain⟨c2,c3⟩:=dw.c23
     refine wp_region_any (by kernel_rfl) ?_
     change wpAny _ _ _ _ _ _ _ (World.drew _)
     refine wpAny_take (i:=0) (v:=.pointer (some ⟨b,0,none⟩)) rfl (by kernel_rfl) (by kernel_rfl) (by kernel_rfl) (fun _ _ _ h=>h) (Or.inl ⟨by rfl,by intro w;go_simp⟩) ?_
     refine wpAny_take (i:=1) (v:=.pointer (some ⟨b,0,none⟩)) rfl (by kernel_rfl) (by kernel_rfl) (by kernel_rfl) (fun _ _ _ h=>h) (Or.inl ⟨by rfl,by intro w;go_simp⟩) ?_
     refine wpAny_take (i:=2) (v:=.pointer (some ⟨b,0,none⟩)) rfl (by kernel_rfl) (by kernel_rfl) (by kernel_rfl) (fun _ _ _ h=>h) (Or.inl ⟨by rfl,by intro w;go_simp⟩) ?_
     refine wpAny_take (i:=3) (v:=.pointer (some ⟨b,2,none⟩)) rfl (by kernel_rfl) (by kernel_rfl) (by kernel_rfl) (fun _ _ _ h=>h) (Or.inl ⟨by rfl,by intro w;go_simp⟩) ?_
     refine wpAny_take (i:=4) (v:=.pointer (some ⟨b,2,none⟩)) rfl (by kernel_rfl) (by kernel_rfl) (by kernel_rfl) (fun _ _ _ h=>h) (Or.inl ⟨by rfl,by intro w;go_simp⟩) ?_
     refine wpAny_take (i:=6) (v:=.pointer (some ⟨b,0,none⟩)) rfl (by kernel_rfl) (by kernel_rfl) (by kernel_rfl) (fun _ _ _ h=>h) (Or.inl ⟨by rfl,by intro w;go_simp⟩) ?_
     refine wpAny_ready (rs:=[5,7]) (by kernel_rfl) (by simp) ?_
     refine AllReady.cons rfl (fun Kc hK=>?_) (AllReady.cons rfl (fun Kc hK=>?_) AllReady.nil)
     ·go_simp
      refine hK _ _ ?_
      clear hK
      refine wpAny_ready (rs:=[7]) (by kernel_rfl) (by simp) ?_
      refine AllReady.cons rfl (fun Kc hK=>?_) AllReady.nil
      go_simp
      refine(A2c dw.drew ee.drew' hB K fj d9).mono ?_
      rintro en w8 ⟨dh,hx⟩
      have dm:=dz.drew.kp dh cw
      have bg:=cu.drew.trans dh
      cases hn:A0g K t7 with
      | error E=>
       rw[hn] at hx
       match E,hx with
       | none,hx=>exact hx.elim
       | some (c,t),hx=>
        obtain⟨ht,rfl⟩:=hx
        have HY:Hid (A1j K K ⟨[],[]⟩ r = .error (some (c,t))):=by show _=_;rw[bv.out,HP.out,hn];rfl
        clear hn bv hK
        go_wp2
        exact⟨rfl,bg,by rw[HY.out];exact⟨ht,rfl⟩⟩
      | ok p=>
       obtain⟨x,t8⟩:=p
       rw[hn] at hx
       obtain⟨cj,_,rfl,vf,vb,rfl,df,dx⟩:=hx
       obtain⟨ah,nf,ac,rfl,_⟩:=df.shape'
       obtain⟨ba,nb,ag,rfl,_⟩:=dx.shape'
       have HI:Hid (A0g K t7 = .ok (x,t8)):=hn
       clear hn
       obtain⟨c2,c3⟩:=cj.c23
       have hbl:b < w8.heap.size:=cj.lt
       have dn:w.heap.size≤w8.heap.size:=bg.size
       have dg:w.heap.size≤w7.drew.heap.size:=cu.size
       refine hK _ _ ?_
       clear hK
       refine wpAny_ready (rs:=[8]) (by kernel_rfl) (by simp) ?_
       refine AllReady.cons rfl (fun Kc hK=>?_) AllReady.nil
       go_simp
       refine hK _ _ ?_
       clear hK
       refine wpAny_ready (rs:=[9]) (by kernel_rfl) (by simp) ?_
       refine AllReady.cons rfl (fun Kc hK=>?_) AllReady.nil
       simp only[Region.wanted]
       have bu:Row A9e (w8.alloc (.cells #[.string (S x.name),.slice ah nf ac,.slice ba nb ag] 38)) w.heap.size (.slice (some ⟨w8.heap.size,0,none⟩) 1 1) [(x,(ah,nf,ac),(ba,nb,ag))]:=Row.one A9e w8 (x,(ah,nf,ac),(ba,nb,ag)) dn
       have bq:=dm.below ((Below.refl _ w8).alloc (Nat.le_refl _) (.cells #[.string (S x.name),.slice ah nf ac,.slice ba nb ag] 38))
       have bh:=((df.mono dg).below ((Below.refl _ w8).alloc (Nat.le_refl _) (.cells #[.string (S x.name),.slice ah nf ac,.slice ba nb ag] 38)))
       have bt:=((dx.mono dg).below ((Below.refl _ w8).alloc (Nat.le_refl _) (.cells #[.string (S x.name),.slice ah nf ac,.slice ba nb ag] 38)))
       have dl:=cj.alloc (.cells #[.string (S x.name),.slice ah nf ac,.slice ba nb ag] 38)
       have di:=bg.alloc (.cells #[.string (S x.name),.slice ah nf ac,.slice ba nb ag] 38)
       refine A2t A9e _ _ rfl w.heap.size _ lm [(x,(ah,nf,ac),(ba,nb,ag))] rfl bq.rowm _ _ rfl bu (by(try simp);omega) (by simp;omega) ?_
       intro vn ej ak hgr
       obtain⟨bl,nn,au,rfl,cg⟩:=ak.shape'
       have hown:=bq.rowm.own
       have aw:=dl.grown hgr (fun k hk=>by have:=(hown k hk).1;omega)
       have br:=di.grown hgr (fun k hk=>(hown k hk).1)
       have bn:=bq.addm (x,(ah,nf,ac),(ba,nb,ag)) hgr ak bh bt
       obtain⟨k2,k3⟩:=aw.c23
       have g1:=aw.fr 2
       clear c2 c3
       refine hK _ _ ?_
       clear hK
       refine wpAny_take (i:=10) (v:=.pointer (some ⟨b,0,none⟩)) rfl (by kernel_rfl) (by kernel_rfl) (by kernel_rfl) (fun _ _ _ h=>h) (Or.inl ⟨by rfl,by intro w;go_simp⟩) ?_
       refine wpAny_take (i:=11) (v:=.pointer (some ⟨b,2,none⟩)) rfl (by kernel_rfl) (by kernel_rfl) (by kernel_rfl) (fun _ _ _ h=>h) (Or.inl ⟨by rfl,by intro w;go_simp⟩) ?_
       refine wpAny_take (i:=12) (v:=.pointer (some ⟨b,2,none⟩)) rfl (by kernel_rfl) (by kernel_rfl) (by kernel_rfl) (fun _ _ _ h=>h) (Or.inl ⟨by rfl,by intro w;go_simp⟩) ?_
       refine wpAny_ready (rs:=[13]) (by kernel_rfl) (by simp) ?_
       refine AllReady.cons rfl (fun Kc hK=>?_) AllReady.nil
       go_simp
       refine hK _ _ ?_
       clear hK
       refine wpAny_done (by kernel_rfl) ?_ _
       have aj:=aw.set2 (.slice bl nn au)
       have bc:=br.set 2 (.slice bl nn au)
       have bp:=bn.set (b:=b) cw 2 (.slice bl nn au)
       have bk:=dt
       obtain⟨c2,c3⟩:=aj.c23
       have bw:Hid (nn=lm.length+1):=by show _=_;rw[cg.out];simp
       have HG:Hid (B8c K ⟨lm.map Prod.fst,le.map Prod.fst⟩ t3 = .ok (⟨(lm++[(x,(ah,nf,ac),(ba,nb,ag))]).map Prod.fst,le.map Prod.fst⟩,t8)):=by show _=_;rw[HP.out,HI.out];simp[R.thn]
       have HQ:Hid (A1j K K ⟨[],[]⟩ r=if 10 < nn+dp then .error (some (5,t8)) else A1j K k ⟨(lm++[(x,(ah,nf,ac),(ba,nb,ag))]).map Prod.fst,le.map Prod.fst⟩ t8):=by
        show _=_
        rw[bv.out,HG.out]
        simp only[R.thn,List.length_map]
        rw[bk.out,cg.out]
       have eh:nn≤1000:=by rw[bw.out];omega
       have hne:dp≤1000:=by rw[bk.out];omega
       by_cases h10:10 < nn+dp
       ·have HY:Hid (A1j K K ⟨[],[]⟩ r = .error (some (5,t8))):=by show _=_;rw[HQ.out,if_pos h10]
        go_wp2_with fail
        go_quiet (fail)
        go_wp2_with fail
        refine(A0n (aj.drewN _) 5).mono ?_
        rintro en dy ⟨rfl,rfl⟩
        go_wp2
        exact⟨rfl,bc.drewN _,by rw[HY.out];exact⟨aj.2.1,rfl⟩⟩
       ·have HY:Hid (A1j K K ⟨[],[]⟩ r=A1j K k ⟨(lm++[(x,(ah,nf,ac),(ba,nb,ag))]).map Prod.fst,le.map Prod.fst⟩ t8):=by show _=_;rw[HQ.out,if_neg h10]
        go_wp2_with fail
        go_quiet (fail)
        go_wp2_with fail
        go_roundg k
        case measure=>omega
        case rel=>exact⟨_,_,t8,_,_,bp.drewN _,aj.drewN _,bc.drewN _,by rw[List.length_append];simp;have:=bw.out;have:=bk.out;omega,HY⟩
     ·go_simp
      refine(A2c dw.drew ee.drew' hB K fj d9).mono ?_
      rintro en w8 ⟨dh,hx⟩
      have dm:=dz.drew.kp dh cw
      have bg:=cu.drew.trans dh
      cases hn:A0g K t7 with
      | error E=>
       rw[hn] at hx
       match E,hx with
       | none,hx=>exact hx.elim
       | some (c,t),hx=>
        obtain⟨ht,rfl⟩:=hx
        have HY:Hid (A1j K K ⟨[],[]⟩ r = .error (some (c,t))):=by show _=_;rw[bv.out,HP.out,hn];rfl
        clear hn bv hK
        go_wp2
        exact⟨rfl,bg,by rw[HY.out];exact⟨ht,rfl⟩⟩
      | ok p=>
       obtain⟨x,t8⟩:=p
       rw[hn] at hx
       obtain⟨cj,_,rfl,vf,vb,rfl,df,dx⟩:=hx
       obtain⟨ah,nf,ac,rfl,_⟩:=df.shape'
       obtain⟨ba,nb,ag,rfl,_⟩:=dx.shape'
       have HI:Hid (A0g K t7 = .ok (x,t8)):=hn
       clear hn
       obtain⟨c2,c3⟩:=cj.c23
       have hbl:b < w8.heap.size:=cj.lt
       have dn:w.heap.size≤w8.heap.size:=bg.size
       have dg:w.heap.size≤w7.drew.heap.size:=cu.size
       refine hK _ _ ?_
       clear hK
       refine wpAny_ready (rs:=[5,8]) (by kernel_rfl) (by simp) ?_
       refine AllReady.cons rfl (fun Kc hK=>?_) (AllReady.cons rfl (fun Kc hK=>?_) AllReady.nil)
       rotate_right
       focus
        go_simp
        refine hK _ _ ?_
        clear hK
        refine wpAny_ready (rs:=[5]) (by kernel_rfl) (by simp) ?_
       rotate_right
       focus
        go_simp
        refine hK _ _ ?_
        clear hK
        refine wpAny_ready (rs:=[8]) (by kernel_rfl) (by simp) ?_
       all_goals
        refine AllReady.cons rfl (fun Kc hK=>?_) AllReady.nil
        go_simp
        refine hK _ _ ?_
        clear hK
        refine wpAny_ready (rs:=[9]) (by kernel_rfl) (by simp) ?_
        refine AllReady.cons rfl (fun Kc hK=>?_) AllReady.nil
        simp only[Region.wanted]
        have bu:Row A9e (w8.alloc (.cells #[.string (S x.name),.slice ah nf ac,.slice ba nb ag] 38)) w.heap.size (.slice (some ⟨w8.heap.size,0,none⟩) 1 1) [(x,(ah,nf,ac),(ba,nb,ag))]:=Row.one A9e w8 (x,(ah,nf,ac),(ba,nb,ag)) dn
        have bq:=dm.below ((Below.refl _ w8).alloc (Nat.le_refl _) (.cells #[.string (S x.name),.slice ah nf ac,.slice ba nb ag] 38))
        have bh:=((df.mono dg).below ((Below.refl _ w8).alloc (Nat.le_refl _) (.cells #[.string (S x.name),.slice ah nf ac,.slice ba nb ag] 38)))
        have bt:=((dx.mono dg).below ((Below.refl _ w8).alloc (Nat.le_refl _) (.cells #[.string (S x.name),.slice ah nf ac,.slice ba nb ag] 38)))
        have dl:=cj.alloc (.cells #[.string (S x.name),.slice ah nf ac,.slice ba nb ag] 38)
        have di:=bg.alloc (.cells #[.string (S x.name),.slice ah nf ac,.slice ba nb ag] 38)
        refine A2t A9e _ _ rfl w.heap.size _ lm [(x,(ah,nf,ac),(ba,nb,ag))] rfl bq.rowm _ _ rfl bu (by(try simp);omega) (by simp;omega) ?_
        intro vn ej ak hgr
        obtain⟨bl,nn,au,rfl,cg⟩:=ak.shape'
        have hown:=bq.rowm.own
        have aw:=dl.grown hgr (fun k hk=>by have:=(hown k hk).1;omega)
        have br:=di.grown hgr (fun k hk=>(hown k hk).1)
        have bn:=bq.addm (x,(ah,nf,ac),(ba,nb,ag)) hgr ak bh bt
        obtain⟨k2,k3⟩:=aw.c23
        have g1:=aw.fr 2
        clear c2 c3
        refine hK _ _ ?_
        clear hK
        refine wpAny_take (i:=10) (v:=.pointer (some ⟨b,0,none⟩)) rfl (by kernel_rfl) (by kernel_rfl) (by kernel_rfl) (fun _ _ _ h=>h) (Or.inl ⟨by rfl,by intro w;go_simp⟩) ?_
        refine wpAny_take (i:=11) (v:=.pointer (some ⟨b,2,none⟩)) rfl (by kernel_rfl) (by kernel_rfl) (by kernel_rfl) (fun _ _ _ h=>h) (Or.inl ⟨by rfl,by intro w;go_simp⟩) ?_
        refine wpAny_take (i:=12) (v:=.pointer (some ⟨b,2,none⟩)) rfl (by kernel_rfl) (by kernel_rfl) (by kernel_rfl) (fun _ _ _ h=>h) (Or.inl ⟨by rfl,by intro w;go_simp⟩) ?_
        refine wpAny_ready (rs:=[13]) (by kernel_rfl) (by simp) ?_
        refine AllReady.cons rfl (fun Kc hK=>?_) AllReady.nil
        go_simp
        refine hK _ _ ?_
        clear hK
        refine wpAny_done (by kernel_rfl) ?_ _
        have aj:=aw.set2 (.slice bl nn au)
        have bc:=br.set 2 (.slice bl nn au)
        have bp:=bn.set (b:=b) cw 2 (.slice bl nn au)
        have bk:=dt
        obtain⟨c2,c3⟩:=aj.c23
        have bw:Hid (nn=lm.length+1):=by show _=_;rw[cg.out];simp
        have HG:Hid (B8c K ⟨lm.map Prod.fst,le.map Prod.fst⟩ t3 = .ok (⟨(lm++[(x,(ah,nf,ac),(ba,nb,ag))]).map Prod.fst,le.map Prod.fst⟩,t8)):=by show _=_;rw[HP.out,HI.out];simp[R.thn]
        have HQ:Hid (A1j K K ⟨[],[]⟩ r=if 10 < nn+dp then .error (some (5,t8)) else A1j K k ⟨(lm++[(x,(ah,nf,ac),(ba,nb,ag))]).map Prod.fst,le.map Prod.fst⟩ t8):=by
         show _=_
         rw[bv.out,HG.out]
         simp only[R.thn,List.length_map]
         rw[bk.out,cg.out]
        have eh:nn≤1000:=by rw[bw.out];omega
        have hne:dp≤1000:=by rw[bk.out];omega
        by_cases h10:10 < nn+dp
        ·have HY:Hid (A1j K K ⟨[],[]⟩ r = .error (some (5,t8))):=by show _=_;rw[HQ.out,if_pos h10]
         go_wp2_with fail
         go_quiet (fail)
         go_wp2_with fail
         refine(A0n (aj.drewN _) 5).mono ?_
         rintro en dy ⟨rfl,rfl⟩
         go_wp2
         exact⟨rfl,bc.drewN _,by rw[HY.out];exact⟨aj.2.1,rfl⟩⟩
        ·have HY:Hid (A1j K K ⟨[],[]⟩ r=A1j K k ⟨(lm++[(x,(ah,nf,ac),(ba,nb,ag))]).map Prod.fst,le.map Prod.fst⟩ t8):=by show _=_;rw[HQ.out,if_neg h10]
         go_wp2_with fail
         go_quiet (fail)
         go_wp2_with fail
         go_roundg k
         case measure=>omega
         case rel=>exact⟨_,_,t8,_,_,bp.drewN _,aj.drewN _,bc.drewN _,by rw[List.length_append];simp;have:=bw.out;have:=bk.out;omega,HY⟩
    | false=>
     go_wp2_with fail
     refine(A3s hs5 B3m (by decide)).mono ?_
     rintro en w6 ⟨rfl,eu,fe⟩
     have fh:=eo.kp fe cw
     replace cu:=cu.trans fe
     clear hs5 eo fe
     generalize hq6:A9k B3m t5=mq at eu ⊢
     obtain⟨ok,t6⟩:=mq
     cases ok with
     | true=>
      obtain⟨w7,ey⟩:∃ w7,w7=w6:=⟨_,rfl⟩
      obtain⟨t7,ew⟩:∃ t7,t7=t6:=⟨_,rfl⟩
      subst ey ew
      have HP:Hid (B8c K ⟨lm.map Prod.fst,le.map Prod.fst⟩ t3=R.thn (A3y K t7) fun m u=>.ok (⟨lm.map Prod.fst,le.map Prod.fst++[m]⟩,u)):=by show _=_;rw[B8c,hq];show(match A9k B3m t5 with|(true,t)=>_|(false,t)=>_)=_;rw[hq6]
      have d9:A3y K t7≠.error none:=by intro hh;apply HN.out;rw[bv.out,HP.out,hh];rfl
      have dw:St w7 b txt t7 _ _:=eu
      have dz:=fh
      have ee:Gl B w7:=hg.kp hB cw cu
      clear hq hq6 eu fh
      go_wp2_with fail
      obtain⟨c2,c3⟩:=dw.c23
      refine wp_region_any (by kernel_rfl) ?_
      change wpAny _ _ _ _ _ _ _ (World.drew _)
      refine wpAny_take (i:=0) (v:=.pointer (some ⟨b,0,none⟩)) rfl (by kernel_rfl) (by kernel_rfl) (by kernel_rfl) (fun _ _ _ h=>h) (Or.inl ⟨by rfl,by intro w;go_simp⟩) ?_
      refine wpAny_take (i:=1) (v:=.pointer (some ⟨b,0,none⟩)) rfl (by kernel_rfl) (by kernel_rfl) (by kernel_rfl) (fun _ _ _ h=>h) (Or.inl ⟨by rfl,by intro w;go_simp⟩) ?_
      refine wpAny_take (i:=2) (v:=.pointer (some ⟨b,0,none⟩)) rfl (by kernel_rfl) (by kernel_rfl) (by kernel_rfl) (fun _ _ _ h=>h) (Or.inl ⟨by rfl,by intro w;go_simp⟩) ?_
      refine wpAny_take (i:=3) (v:=.pointer (some ⟨b,2,none⟩)) rfl (by kernel_rfl) (by kernel_rfl) (by kernel_rfl) (fun _ _ _ h=>h) (Or.inl ⟨by rfl,by intro w;go_simp⟩) ?_
      refine wpAny_take (i:=4) (v:=.pointer (some ⟨b,3,none⟩)) rfl (by kernel_rfl) (by kernel_rfl) (by kernel_rfl) (fun _ _ _ h=>h) (Or.inl ⟨by rfl,by intro w;go_simp⟩) ?_
      refine wpAny_take (i:=6) (v:=.pointer (some ⟨b,0,none⟩)) rfl (by kernel_rfl) (by kernel_rfl) (by kernel_rfl) (fun _ _ _ h=>h) (Or.inl ⟨by rfl,by intro w;go_simp⟩) ?_
      refine wpAny_ready (rs:=[5,7]) (by kernel_rfl) (by simp) ?_
      refine AllReady.cons rfl (fun Kc hK=>?_) (AllReady.cons rfl (fun Kc hK=>?_) AllReady.nil)
      ·go_simp
       refine hK _ _ ?_
       clear hK
       refine wpAny_ready (rs:=[7]) (by kernel_rfl) (by simp) ?_
       refine AllReady.cons rfl (fun Kc hK=>?_) AllReady.nil
       go_simp
       refine(A6x dw.drew ee.drew' hB K d9).mono ?_
       rintro en w8 ⟨dh,hx⟩
       have dm:=dz.drew.kp dh cw
       have bg:=cu.drew.trans dh
       cases hn:A3y K t7 with
       | error E=>
        rw[hn] at hx
        match E,hx with
        | none,hx=>exact hx.elim
        | some (c,t),hx=>
         obtain⟨ht,rfl⟩:=hx
         have HY:Hid (A1j K K ⟨[],[]⟩ r = .error (some (c,t))):=by show _=_;rw[bv.out,HP.out,hn];rfl
         clear hn bv hK
         go_wp2
         exact⟨rfl,bg,by rw[HY.out];exact⟨ht,rfl⟩⟩
       | ok p=>
        obtain⟨x,t8⟩:=p
        rw[hn] at hx
        obtain⟨cj,_,rfl,vf,rfl,df⟩:=hx
        obtain⟨ah,nf,ac,rfl,_⟩:=df.shape'
        have HI:Hid (A3y K t7 = .ok (x,t8)):=hn
        clear hn
        obtain⟨c2,c3⟩:=cj.c23
        have hbl:b < w8.heap.size:=cj.lt
        have dn:w.heap.size≤w8.heap.size:=bg.size
        have dg:w.heap.size≤w7.drew.heap.size:=cu.size
        refine hK _ _ ?_
        clear hK
        refine wpAny_ready (rs:=[8]) (by kernel_rfl) (by simp) ?_
        refine AllReady.cons rfl (fun Kc hK=>?_) AllReady.nil
        go_simp
        refine hK _ _ ?_
        clear hK
        refine wpAny_ready (rs:=[9]) (by kernel_rfl) (by simp) ?_
        refine AllReady.cons rfl (fun Kc hK=>?_) AllReady.nil
        simp only[Region.wanted]
        have bu:Row A9d (w8.alloc (.cells #[.string (S x.name),.slice ah nf ac] 100)) w.heap.size (.slice (some ⟨w8.heap.size,0,none⟩) 1 1) [(x,(ah,nf,ac))]:=Row.one A9d w8 (x,(ah,nf,ac)) dn
        have bq:=dm.below ((Below.refl _ w8).alloc (Nat.le_refl _) (.cells #[.string (S x.name),.slice ah nf ac] 100))
        have bh:=((df.mono dg).below ((Below.refl _ w8).alloc (Nat.le_refl _) (.cells #[.string (S x.name),.slice ah nf ac] 100)))
        have dl:=cj.alloc (.cells #[.string (S x.name),.slice ah nf ac] 100)
        have di:=bg.alloc (.cells #[.string (S x.name),.slice ah nf ac] 100)
        refine A2t A9d _ _ rfl w.heap.size _ le [(x,(ah,nf,ac))] rfl bq.rowe _ _ rfl bu (by(try simp);omega) (by simp;omega) ?_
        intro vn ej ak hgr
        obtain⟨bl,nn,au,rfl,cg⟩:=ak.shape'
        have hown:=bq.rowe.own
        have aw:=dl.grown hgr (fun k hk=>by have:=(hown k hk).1;omega)
        have br:=di.grown hgr (fun k hk=>(hown k hk).1)
        have bn:=bq.adde (x,(ah,nf,ac)) hgr ak bh
        obtain⟨k2,k3⟩:=aw.c23
        have g1:=aw.fr 3
        clear c2 c3
        refine hK _ _ ?_
        clear hK
        refine wpAny_take (i:=10) (v:=.pointer (some ⟨b,0,none⟩)) rfl (by kernel_rfl) (by kernel_rfl) (by kernel_rfl) (fun _ _ _ h=>h) (Or.inl ⟨by rfl,by intro w;go_simp⟩) ?_
        refine wpAny_take (i:=11) (v:=.pointer (some ⟨b,2,none⟩)) rfl (by kernel_rfl) (by kernel_rfl) (by kernel_rfl) (fun _ _ _ h=>h) (Or.inl ⟨by rfl,by intro w;go_simp⟩) ?_
        refine wpAny_take (i:=12) (v:=.pointer (some ⟨b,3,none⟩)) rfl (by kernel_rfl) (by kernel_rfl) (by kernel_rfl) (fun _ _ _ h=>h) (Or.inl ⟨by rfl,by intro w;go_simp⟩) ?_
        refine wpAny_ready (rs:=[13]) (by kernel_rfl) (by simp) ?_
        refine AllReady.cons rfl (fun Kc hK=>?_) AllReady.nil
        go_simp
        refine hK _ _ ?_
        clear hK
        refine wpAny_done (by kernel_rfl) ?_ _
        have aj:=aw.set3 (.slice bl nn au)
        have bc:=br.set 3 (.slice bl nn au)
        have bp:=bn.set (b:=b) cw 3 (.slice bl nn au)
        have bk:=dv
        obtain⟨c2,c3⟩:=aj.c23
        have bw:Hid (nn=le.length+1):=by show _=_;rw[cg.out];simp
        have HG:Hid (B8c K ⟨lm.map Prod.fst,le.map Prod.fst⟩ t3 = .ok (⟨lm.map Prod.fst,(le++[(x,(ah,nf,ac))]).map Prod.fst⟩,t8)):=by show _=_;rw[HP.out,HI.out];simp[R.thn]
        have HQ:Hid (A1j K K ⟨[],[]⟩ r=if 10 < nn+dr then .error (some (5,t8)) else A1j K k ⟨lm.map Prod.fst,(le++[(x,(ah,nf,ac))]).map Prod.fst⟩ t8):=by
         show _=_
         rw[bv.out,HG.out]
         simp only[R.thn,List.length_map]
         rw[bk.out,cg.out]
         rw[Nat.add_comm]
        have eh:nn≤1000:=by rw[bw.out];omega
        have hne:dr≤1000:=by rw[bk.out];omega
        by_cases h10:10 < nn+dr
        ·have HY:Hid (A1j K K ⟨[],[]⟩ r = .error (some (5,t8))):=by show _=_;rw[HQ.out,if_pos h10]
         go_wp2_with fail
         go_quiet (fail)
         go_wp2_with fail
         refine(A0n (aj.drewN _) 5).mono ?_
         rintro en dy ⟨rfl,rfl⟩
         go_wp2
         exact⟨rfl,bc.drewN _,by rw[HY.out];exact⟨aj.2.1,rfl⟩⟩
        ·have HY:Hid (A1j K K ⟨[],[]⟩ r=A1j K k ⟨lm.map Prod.fst,(le++[(x,(ah,nf,ac))]).map Prod.fst⟩ t8):=by show _=_;rw[HQ.out,if_neg h10]
         go_wp2_with fail
         go_quiet (fail)
         go_wp2_with fail
         go_roundg k
         case measure=>omega
         case rel=>exact⟨_,_,t8,_,_,bp.drewN _,aj.drewN _,bc.drewN _,by rw[List.length_append];simp;have:=bw.out;have:=bk.out;omega,HY⟩
      ·go_simp
       refine(A6x dw.drew ee.drew' hB K d9).mono ?_
       rintro en w8 ⟨dh,hx⟩
       have dm:=dz.drew.kp dh cw
       have bg:=cu.drew.trans dh
       cases hn:A3y K t7 with
       | error E=>
        rw[hn] at hx
        match E,hx with
        | none,hx=>exact hx.elim
        | some (c,t),hx=>
         obtain⟨ht,rfl⟩:=hx
         have HY:Hid (A1j K K ⟨[],[]⟩ r = .error (some (c,t))):=by show _=_;rw[bv.out,HP.out,hn];rfl
         clear hn bv hK
         go_wp2
         exact⟨rfl,bg,by rw[HY.out];exact⟨ht,rfl⟩⟩
       | ok p=>
        obtain⟨x,t8⟩:=p
        rw[hn] at hx
        obtain⟨cj,_,rfl,vf,rfl,df⟩:=hx
        obtain⟨ah,nf,ac,rfl,_⟩:=df.shape'
        have HI:Hid (A3y K t7 = .ok (x,t8)):=hn
        clear hn
        obtain⟨c2,c3⟩:=cj.c23
        have hbl:b < w8.heap.size:=cj.lt
        have dn:w.heap.size≤w8.heap.size:=bg.size
        have dg:w.heap.size≤w7.drew.heap.size:=cu.size
        refine hK _ _ ?_
        clear hK
        refine wpAny_ready (rs:=[5,8]) (by kernel_rfl) (by simp) ?_
        refine AllReady.cons rfl (fun Kc hK=>?_) (AllReady.cons rfl (fun Kc hK=>?_) AllReady.nil)
        rotate_right
        focus
         go_simp
         refine hK _ _ ?_
         clear hK
         refine wpAny_ready (rs:=[5]) (by kernel_rfl) (by simp) ?_
        rotate_right
        focus
         go_simp
         refine hK _ _ ?_
         clear hK
         refine wpAny_ready (rs:=[8]) (by kernel_rfl) (by simp) ?_
        all_goals
         refine AllReady.cons rfl (fun Kc hK=>?_) AllReady.nil
         go_simp
         refine hK _ _ ?_
         clear hK
         refine wpAny_ready (rs:=[9]) (by kernel_rfl) (by simp) ?_
         refine AllReady.cons rfl (fun Kc hK=>?_) AllReady.nil
         simp only[Region.wanted]
         have bu:Row A9d (w8.alloc (.cells #[.string (S x.name),.slice ah nf ac] 100)) w.heap.size (.slice (some ⟨w8.heap.size,0,none⟩) 1 1) [(x,(ah,nf,ac))]:=Row.one A9d w8 (x,(ah,nf,ac)) dn
         have bq:=dm.below ((Below.refl _ w8).alloc (Nat.le_refl _) (.cells #[.string (S x.name),.slice ah nf ac] 100))
         have bh:=((df.mono dg).below ((Below.refl _ w8).alloc (Nat.le_refl _) (.cells #[.string (S x.name),.slice ah nf ac] 100)))
         have dl:=cj.alloc (.cells #[.string (S x.name),.slice ah nf ac] 100)
         have di:=bg.alloc (.cells #[.string (S x.name),.slice ah nf ac] 100)
         refine A2t A9d _ _ rfl w.heap.size _ le [(x,(ah,nf,ac))] rfl bq.rowe _ _ rfl bu (by(try simp);omega) (by simp;omega) ?_
         intro vn ej ak hgr
         obtain⟨bl,nn,au,rfl,cg⟩:=ak.shape'
         have hown:=bq.rowe.own
         have aw:=dl.grown hgr (fun k hk=>by have:=(hown k hk).1;omega)
         have br:=di.grown hgr (fun k hk=>(hown k hk).1)
         have bn:=bq.adde (x,(ah,nf,ac)) hgr ak bh
         obtain⟨k2,k3⟩:=aw.c23
         have g1:=aw.fr 3
         clear c2 c3
         refine hK _ _ ?_
         clear hK
         refine wpAny_take (i:=10) (v:=.pointer (some ⟨b,0,none⟩)) rfl (by kernel_rfl) (by kernel_rfl) (by kernel_rfl) (fun _ _ _ h=>h) (Or.inl ⟨by rfl,by intro w;go_simp⟩) ?_
         refine wpAny_take (i:=11) (v:=.pointer (some ⟨b,2,none⟩)) rfl (by kernel_rfl) (by kernel_rfl) (by kernel_rfl) (fun _ _ _ h=>h) (Or.inl ⟨by rfl,by intro w;go_simp⟩) ?_
         refine wpAny_take (i:=12) (v:=.pointer (some ⟨b,3,none⟩)) rfl (by kernel_rfl) (by kernel_rfl) (by kernel_rfl) (fun _ _ _ h=>h) (Or.inl ⟨by rfl,by intro w;go_simp⟩) ?_
         refine wpAny_ready (rs:=[13]) (by kernel_rfl) (by simp) ?_
         refine AllReady.cons rfl (fun Kc hK=>?_) AllReady.nil
         go_simp
         refine hK _ _ ?_
         clear hK
         refine wpAny_done (by kernel_rfl) ?_ _
         have aj:=aw.set3 (.slice bl nn au)
         have bc:=br.set 3 (.slice bl nn au)
         have bp:=bn.set (b:=b) cw 3 (.slice bl nn au)
         have bk:=dv
         obtain⟨c2,c3⟩:=aj.c23
         have bw:Hid (nn=le.length+1):=by show _=_;rw[cg.out];simp
         have HG:Hid (B8c K ⟨lm.map Prod.fst,le.map Prod.fst⟩ t3 = .ok (⟨lm.map Prod.fst,(le++[(x,(ah,nf,ac))]).map Prod.fst⟩,t8)):=by show _=_;rw[HP.out,HI.out];simp[R.thn]
         have HQ:Hid (A1j K K ⟨[],[]⟩ r=if 10 < nn+dr then .error (some (5,t8)) else A1j K k ⟨lm.map Prod.fst,(le++[(x,(ah,nf,ac))]).map Prod.fst⟩ t8):=by
          show _=_
          rw[bv.out,HG.out]
          simp only[R.thn,List.length_map]
          rw[bk.out,cg.out]
          rw[Nat.add_comm]
         have eh:nn≤1000:=by rw[bw.out];omega
         have hne:dr≤1000:=by rw[bk.out];omega
         by_cases h10:10 < nn+dr
         ·have HY:Hid (A1j K K ⟨[],[]⟩ r = .error (some (5,t8))):=by show _=_;rw[HQ.out,if_pos h10]
          go_wp2_with fail
          go_quiet (fail)
          go_wp2_with fail
          refine(A0n (aj.drewN _) 5).mono ?_
          rintro en dy ⟨rfl,rfl⟩
          go_wp2
          exact⟨rfl,bc.drewN _,by rw[HY.out];exact⟨aj.2.1,rfl⟩⟩
         ·have HY:Hid (A1j K K ⟨[],[]⟩ r=A1j K k ⟨lm.map Prod.fst,(le++[(x,(ah,nf,ac))]).map Prod.fst⟩ t8):=by show _=_;rw[HQ.out,if_neg h10]
          go_wp2_with fail
          go_quiet (fail)
          go_wp2_with fail
          go_roundg k
          case measure=>omega
          case rel=>exact⟨_,_,t8,_,_,bp.drewN _,aj.drewN _,bc.drewN _,by rw[List.length_append];simp;have:=bw.out;have:=bk.out;omega,HY⟩
     | false=>
      have HY:Hid (A1j K K ⟨[],[]⟩ r = .error (some (2,t6))):=by show _=_;rw[bv.out,B8c,hq];show R.thn (match A9k B3m t5 with|(true,t)=>_|(false,t)=>_) _=_;rw[hq6];rfl
      have ei:St w6 b txt t6 _ _:=eu
      clear hq hq6
      go_wp2_with fail
      refine(A0n ei 2).mono ?_
      rintro en dy ⟨rfl,rfl⟩
      go_wp2
      exact⟨rfl,cu,by rw[HY.out];exact⟨ei.2.1,rfl⟩⟩
end Go.Proofs.YtgaoojpakjjdnaaGreatDoor
