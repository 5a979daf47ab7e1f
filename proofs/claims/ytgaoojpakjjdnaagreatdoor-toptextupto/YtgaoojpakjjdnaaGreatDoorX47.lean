import Derived.Test.YtgaoojpakjjdnaaGreatDoorRows
import Derived.Test.YtgaoojpakjjdnaaGreatDoorX46
import Derived.Test.YtgaoojpakjjdnaaGreatDoorX08
import Derived.Lib.LaidU8T
import Derived.Below
set_option maxHeartbeats 32000000
set_option maxRecDepth 100000
set_option linter.unusedVariables false
namespace Go.Proofs.YtgaoojpakjjdnaaGreatDoor
open Go.RowKit
theorem B9z {P:Program}{w w':World}{n:String}{cs:Array Value}(hb:Below w.heap.size w w')(h:w.var? P n=some cs):w'.var? P n=some cs:=by
 unfold World.var? at h ⊢
 cases hg:P.globalNamed n with
 | none=>rw[hg] at h;cases h
 | some g=>
  rw[hg] at h
  simp only[Option.bind_some] at h ⊢
  by_cases hlt:g<w.heap.size
  ·rw[hb.block g hlt];exact h
  ·rw[Array.getElem?_eq_none (by omega)] at h;cases h
theorem B6i {P:Program}{w:World}{fuel:Nat}{t:TypeId}{cs:List Value}{m:String}{d:DataW Unit}{p:List MemPlace}{ms}(ht:P.underlying t=some (.interface ms))(h:DataW.trod (fun _=>()) P w 0 (fun _=>true) false fuel t cs=some (.iface m d,p)):∃ u v,cs = [.iface u v]:=by
 cases fuel with
 | zero=>simp[DataW.trod] at h
 | succ fuel=>
  simp only[DataW.trod,ht] at h
  split at h <;> first|(rename_i hh;cases hh;done)|skip
  all_goals first|exact⟨_,_,rfl⟩|(simp at h;done)
theorem E1w : (Tryz.prog.globalNamed "internal/strconv.uint64pow10").bind (fun g => (Tryz.prog.globals[g]?).map (·.type)) = some 325 := by kernel_rfl
theorem E1v : (Tryz.prog.globalNamed "strconv.ErrRange").bind (fun g => (Tryz.prog.globals[g]?).map (·.type)) = some 295 := by kernel_rfl
theorem E2f:Tryz.prog.underlying 325=some (.array 20 63):=by kernel_rfl
theorem E2e:∃ ms,Tryz.prog.underlying 295=some (.interface ms):=⟨_,Tryz.underlying295⟩
theorem D4j:(Rows.laid_internal_strconv_uint64pow10:DataW Unit)=Lib.tabData .u64 Lib.pow10Tab:=by rfl
def E2d:Shelf.Ren:=⟨fun x=>x,fun x=>if x=119 then 236 else if x=138 then 238 else if x=139 then 239 else if x=5 then 5 else x,fun x=>if x=3 then 0 else if x=4 then 1 else x⟩
theorem C5y:(Rows.laid_unicode_utf8_first:DataW Unit)=Lib.firstData:=by kernel_rfl
theorem C1f:(Rows.laid_unicode_utf8_acceptRanges:DataW Unit)=Lib.acceptData:=by kernel_rfl
theorem D6b {W:World}(h:laidMet Tryz.prog Rows.topDeepRow.laid W):L.Tabs W:=by
 have h3:=Lib.laidMet.reads h (.tail _ (.tail _ (.tail _ (.tail _ (.tail _ (.tail _ (.head _)))))))
 have h4:=Lib.laidMet.reads h (.tail _ (.tail _ (.tail _ (.head _))))
 rw[C5y] at h3
 rw[C1f] at h4
 exact utf8Tabs_of_readsT (ρ:=E2d) ⟨by kernel_rfl,by kernel_rfl,by kernel_rfl,by kernel_rfl⟩ ⟨by kernel_rfl,by kernel_rfl,by kernel_rfl,by kernel_rfl,by kernel_rfl,by kernel_rfl,by kernel_rfl⟩ h3 h4
theorem E0h {W:World}(h:laidMet Tryz.prog Rows.topDeepRow.laid W):Gl W.heap.size W:=by
 obtain⟨ps,⟨g1,t1,cs1,ak,p1,q1,hg1,dh,bk,cu,⟨g2,t2,bv,au,p2,q2,hg2,di,bp,cw,⟨g3,t3,bw,aw,p3,q3,hg3,bt,ac,bh,⟨g5,t5,cj,bg,p5,q5,dg,dl,bq,df,⟨g4,t4,cg,a8,p4,q4,hg4,bu,ag,br,_,_⟩,_⟩,_⟩,_⟩,_⟩,_⟩:=h
 have e3:=E1w
 rw[hg3] at e3
 simp only[Option.bind_some] at e3
 obtain rfl:=Option.some.inj (bt.symm.trans e3)
 have e4:=E1v
 rw[hg4] at e4
 simp only[Option.bind_some] at e4
 obtain rfl:=Option.some.inj (bu.symm.trans e4)
 obtain⟨ms,hu⟩:=E2e
 obtain⟨u,v,aj⟩:=B6i hu br
 rw[D4j] at bh
 have ah:=Lib.cells_of_tab E2f Tryz.underlying63 (by kernel_rfl) (by kernel_rfl) bh
 intro w' hb
 refine⟨⟨u,v,?_⟩,?_⟩
 ·rw[B9z hb ag,←aj]
 ·show w'.var? _ _=_
  rw[B9z hb ac,←ah]
end Go.Proofs.YtgaoojpakjjdnaaGreatDoor
namespace Go.Proofs.YtgaoojpakjjdnaaGreatDoor
open Go.RowKit
def toF (f:Fld):L.FI:=⟨f.name,f.number,f.kind,f.type,f.many,f.choice⟩
def toM (m:Msg):L.MI:=⟨m.name,m.fields.map toF,m.barred.map fun n:Nat=>(n:Int)⟩
def toI (i:Itm):L.II:=⟨i.name,i.value⟩
def toE (e:Enm):L.EI:=⟨e.name,e.items.map toI⟩
def toG (f:Fil):L.GI:=⟨f.msgs.map toM,f.enums.map toE⟩
theorem A9z {α β:Type}{E:EK α}{F:L.EK β}{w:World}{base:Nat}{v:Value}{l:List α}(t : α→β)(h:Row E w base v l)(he:E.elem=F.elem)(hs:E.size=F.size)(ac:∀ a,F.enc (t a)=E.enc a):L.Row F w base v (l.map t):=by
 have hf:F.flat (l.map t)=E.flat l:=by
  unfold L.EK.flat EK.flat
  rw[List.flatMap_map]
  exact congrArg (fun f=>l.flatMap f) (funext ac)
 unfold Row at h
 unfold L.Row
 rw[hf,List.length_map,←he,←hs]
 exact h
theorem FilR.ownG {w:World}{base:Nat}{vm ve:Value}{lm:List (Msg×SV×SV)}{le:List (Enm×SV)}(h:FilR w base vm ve lm le):L.OwnG w base vm ve (lm.map fun p=>(toM p.1,p.2)) (le.map fun p=>(toE p.1,p.2)):=by
 refine⟨A9z _ h.rowm rfl rfl (fun _=>rfl),A9z _ h.rowe rfl rfl (fun _=>rfl),?_,?_⟩
 ·intro p hp
  obtain⟨q,hq,rfl⟩:=List.mem_map.1 hp
  exact⟨A9z toF (h.ms q hq).1 rfl rfl (fun _=>rfl),A9z (fun n:Nat=>(n:Int)) (h.ms q hq).2 rfl rfl (fun _=>rfl)⟩
 ·intro p hp
  obtain⟨q,hq,rfl⟩:=List.mem_map.1 hp
  exact A9z toI (h.es q hq) rfl rfl (fun _=>rfl)
theorem FilR.grd {w:World}{base:Nat}{vm ve:Value}{lm:List (Msg×SV×SV)}{le:List (Enm×SV)}(h:FilR w base vm ve lm le){f:Fil}(hm:lm.map Prod.fst=f.msgs)(he:le.map Prod.fst=f.enums):L.GRd w vm ve (toG f):=by
 have:=h.ownG.rd
 have e1:(lm.map fun p=>(toM p.1,p.2)).map Prod.fst=f.msgs.map toM:=by rw[←hm,List.map_map,List.map_map];rfl
 have e2:(le.map fun p=>(toE p.1,p.2)).map Prod.fst=f.enums.map toE:=by rw[←he,List.map_map,List.map_map];rfl
 rw[e1,e2] at this
 exact this
end Go.Proofs.YtgaoojpakjjdnaaGreatDoor
namespace Go.Proofs.YtgaoojpakjjdnaaGreatDoor
open Go.RowKit
def D9p:List UInt8:=[101,110,117,109,32,82,111,108,101,32,123,32,110,111,110,101,32,61,32,48,59,32,97,100,109,105,110,32,61,32,55,59,32,125,32,109,101,115,115,97,103,101,32,85,115,101,114,32,123,32,115,116,114,105,110,103,32,110,97,109,101,32,61,32,49,59,32,115,105,110,116,54,52,32,115,99,111,114,101,32,61,32,50,59,32,82,111,108,101,32,114,111,108,101,32,61,32,51,59,32,114,101,112,101,97,116,101,100,32,85,115,101,114,32,102,114,105,101,110,100,115,32,61,32,52,59,32,111,110,101,111,102,32,123,32,98,121,116,101,115,32,107,101,121,32,61,32,53,59,32,98,111,111,108,32,111,112,101,110,32,61,32,54,59,32,125,32,125]
def B4f:Fil:=⟨[⟨[85,115,101,114],[⟨[110,97,109,101],1,8,[],false,0⟩,⟨[115,99,111,114,101],2,2,[],false,0⟩,⟨[114,111,108,101],3,10,[82,111,108,101],false,0⟩,⟨[102,114,105,101,110,100,115],4,10,[85,115,101,114],true,0⟩,⟨[107,101,121],5,9,[],false,1⟩,⟨[111,112,101,110],6,4,[],false,1⟩],[]⟩],[⟨[82,111,108,101],[⟨[110,111,110,101],0⟩,⟨[97,100,109,105,110],7⟩]⟩]⟩
def A7a:L.GI:=⟨[⟨[85,115,101,114],[⟨[110,97,109,101],1,8,[],false,0⟩,⟨[115,99,111,114,101],2,2,[],false,0⟩,⟨[114,111,108,101],3,5,[82,111,108,101],false,0⟩,⟨[102,114,105,101,110,100,115],4,10,[85,115,101,114],true,0⟩,⟨[107,101,121],5,9,[],false,1⟩,⟨[111,112,101,110],6,4,[],false,1⟩],[]⟩],[⟨[82,111,108,101],[⟨[110,111,110,101],0⟩,⟨[97,100,109,105,110],7⟩]⟩]⟩
theorem B5c:A5k 400 D9p = .ok (B4f,[]):=by kernel_rfl
theorem D2i:L.wrongL (L.linkL (toG B4f))=(0,0):=by decide +kernel
theorem E0y:L.linkL (toG B4f)=A7a:=by kernel_rfl
theorem D9q:L.GOk (toG B4f):=by
 have hr:reachBytes=140737488351232:=rfl
 refine⟨?_,?_,?_,?_⟩
 ·intro m hm
  simp[toG,B4f,toM,toF] at hm
  subst hm
  refine⟨?_,?_,?_,?_,?_⟩
  ·simp[maxLen]
  ·intro f hf
   simp at hf
   rcases hf with rfl|rfl|rfl|rfl|rfl|rfl <;> simp[L.FOk,L.I64,maxLen]
  ·intro n hn;simp at hn
  ·simp[hr]
  ·simp[hr]
 ·intro e he
  simp[toG,B4f,toE,toI] at he
  subst he
  refine⟨by simp[maxLen],?_,by simp[hr]⟩
  intro f hf
  simp at hf
  rcases hf with rfl|rfl <;> simp[L.TOk,L.I64,maxLen]
 ·simp[toG,B4f,hr]
 ·simp[toG,B4f,hr]
theorem D2h:L.Fits A7a:=by
 refine⟨fun m hm=>?_,fun e he=>?_⟩
 ·simp only[A7a,List.mem_singleton] at hm
  subst hm
  refine⟨by decide,fun f hf=>?_⟩
  simp only[List.mem_cons,List.mem_nil_iff,or_false] at hf
  rcases hf with rfl|rfl|rfl|rfl|rfl|rfl <;> decide
 ·simp only[A7a,List.mem_singleton] at he
  subst he
  decide
theorem D6i:∀ M∈A7a.msgs,(∀ f∈M.fields,L.I64 f.number∧L.I64 f.choice)∧M.fields.length≤140737488355328:=by
 intro M hM
 simp only[A7a,List.mem_singleton] at hM
 subst hM
 refine⟨fun f hf=>?_,by decide⟩
 simp only[List.mem_cons,List.mem_nil_iff,or_false] at hf
 rcases hf with rfl|rfl|rfl|rfl|rfl|rfl <;> (unfold L.I64;decide)
theorem C8r {B:Nat}{w:World}(hg:Gl B w)(hB:B≤w.heap.size) :
  Calls Tryz.prog 11 #[.string (S D9p)] w fun e w'=>∃ am nm cm ae ne ce,e = .returned (.tuple #[.agg #[.slice am nm cm,.slice ae ne ce],.bool true])∧L.GRd w' (.slice am nm cm) (.slice ae ne ce) A7a∧Below w.heap.size w w':=by
 obtain⟨W1,bh⟩:∃ W1,Hid (W1=w.alloc (.cells #[.slice none 0 0,.slice none 0 0] 25)):=⟨_,rfl⟩
 have hb1:Below w.heap.size w W1:=by rw[bh.out];exact(Below.refl _ _).alloc (Nat.le_refl _) _
 have x1:W1.heap[w.heap.size]?=some (.cells #[.slice none 0 0,.slice none 0 0] 25 (0,0)):=by rw[bh.out];exact heap_alloc_new _ _
 have z1:w.heap.size+1≤W1.heap.size:=by rw[bh.out];simp
 have hp:=B7q D9p (by decide) (hg.later (hb1.mono hB)) (Nat.le_trans hB hb1.size) 400 (by decide) (by rw[B5c];intro h;cases h)
 rw[B5c] at hp
 go_enter Tryz.func11,Tryz.ntmps11
 go_wp2_with fail
 rw[←bh.out]
 refine hp.mono ?_
 rintro e w1 ⟨hb,vm,ve,lm,le,rfl,hF,hm,he,hlen⟩
 have hgr:=hF.grd hm he
 obtain⟨am,nm,cm,rfl,cu⟩:=hF.rowm.shape'
 obtain⟨ae,ne,ce,rfl,cj⟩:=hF.rowe.shape'
 clear hp hm he hlen hF
 obtain⟨W2,bk⟩:∃ W2,Hid (W2=(w1.alloc (.cells #[.slice am nm cm,.slice ae ne ce] 25)).alloc (.cells #[.int .i64 0,.int .i64 0] 50)):=⟨_,rfl⟩
 have bt:Below w1.heap.size w1 W2:=by rw[bk.out];exact((Below.refl _ _).alloc (Nat.le_refl _) _).alloc (by simp) _
 have hx2:W2.heap[w1.heap.size+1]?=some (.cells #[.int .i64 0,.int .i64 0] 50 (0,0)):=by rw[bk.out];exact A0i _ _ _
 have hz2:w1.heap.size+2≤W2.heap.size:=by rw[bk.out];simp
 have hlk:=L.link_any (hgr.below bt) D9q
 go_wp2_with fail
 rw[←bk.out]
 refine hlk.mono ?_
 rintro e w3 ⟨hb3,hx⟩
 rcases hx with⟨_,vm3,ve3,lm3,le3,rfl,hog,hm3,he3⟩|⟨hne,_⟩
 rotate_left
 ·rw[D2i] at hne;exact absurd rfl hne
 obtain⟨ag,au,aj,rfl,cg⟩:=hog.rowm.shape'
 obtain⟨ac,ak,ah,rfl,bw⟩:=hog.rowe.shape'
 have a8:∀ V:World,(∀ k,W2.heap.size≤k→k<w3.heap.size→V.heap[k]?=w3.heap[k]?)→L.GRd V (.slice ag au aj) (.slice ac ak ah) A7a:=fun V hV=>by
  have h:=(hog.keep hV).rd
  rw[hm3,he3,show(⟨(L.linkL (toG B4f)).msgs,(toG B4f).enums⟩:L.GI)=A7a from by rw[E0y];rfl] at h
  exact h
 have a8:Hid (∀ V:World,(∀ k,W2.heap.size≤k→k<w3.heap.size→V.heap[k]?=w3.heap[k]?)→L.GRd V (.slice ag au aj) (.slice ac ak ah) A7a):=a8
 obtain⟨W4,bp⟩:∃ W4,Hid (W4=w3.alloc (.cells #[.slice ag au aj,.slice ac ak ah] 25)):=⟨_,rfl⟩
 have br:Below w3.heap.size w3 W4:=by rw[bp.out];exact(Below.refl _ _).alloc (Nat.le_refl _) _
 have hz3:=hb3.size
 have hz1:=hb.size
 have y4:W4.heap[w3.heap.size]?=some (.cells #[.slice ag au aj,.slice ac ak ah] 25 (0,0)):=by rw[bp.out];exact heap_alloc_new _ _
 have y1:=(br.block (w1.heap.size+1) (by omega)).trans ((hb3.block (w1.heap.size+1) (by omega)).trans hx2)
 have y0:=(br.block w.heap.size (by omega)).trans ((hb3.block w.heap.size (by omega)).trans ((bt.block w.heap.size (by omega)).trans ((hb.block w.heap.size (by omega)).trans x1)))
 have bu:Below w.heap.size w W4:=hb1.trans ((hb.trans ((bt.trans ((hb3.trans (br.mono hb3.size)).mono (by omega))).mono (by omega))).mono (by omega))
 obtain⟨c0,c1⟩:=A0r y1
 have f0:=A0b y1 0
 have f1:=A0b y1 1
 rw[bp.out] at c0 c1 f0 f1
 clear hlk hm3 he3 hog
 go_upto_region 5 with fail
 rw[←bp.out]
 obtain⟨W5,bq⟩:∃ W5,Hid (W5=(W4.setCell ⟨w1.heap.size+1,0,none⟩ (.int .i64 0)).setCell ⟨w1.heap.size+1,1,none⟩ (.int .i64 0)):=⟨_,rfl⟩
 have bv:Below w.heap.size w W5:=by rw[bq.out];exact L.KB_set (L.KB_set bu (by omega)) (by omega)
 have bg:∀ k,k≠w1.heap.size+1→W5.heap[k]?=W4.heap[k]?:=fun k hk=>by rw[bq.out];exact(Below.heap_setCell _ _ _ k hk).trans (Below.heap_setCell _ _ _ k hk)
 have x5:W5.heap[w1.heap.size+1]?=some (.cells #[.int .i64 0,.int .i64 0] 50 (0,0)):=by rw[bq.out];exact heap_setCell_same _ _ 1 _ _ _ (heap_setCell_same _ _ 0 _ _ _ y1)
 obtain⟨q0,q1⟩:=A0r ((bg w.heap.size (by omega)).trans y0)
 obtain⟨q2,q3⟩:=A0r ((bg w3.heap.size (by omega)).trans y4)
 obtain⟨q4,q5⟩:=A0r x5
 have g0:=A0b ((bg w.heap.size (by omega)).trans y0) 0
 have g1:=A0b ((bg w.heap.size (by omega)).trans y0) 1
 have n1:¬ w.heap.size=w1.heap.size+1:=by omega
 have n2:¬ w.heap.size=w3.heap.size:=by omega
 have n3:¬ w1.heap.size+1=w.heap.size:=by omega
 have n4:¬ w3.heap.size=w.heap.size:=by omega
 rw[←bq.out]
 clear c0 c1 f0 f1 y1 y0 y4
 have aw:L.GRd ((W5.drew.setCell ⟨w.heap.size,0,none⟩ (.slice ag au aj)).setCell ⟨w.heap.size,1,none⟩ (.slice ac ak ah)) (.slice ag au aj) (.slice ac ak ah) A7a∧Below w.heap.size w ((W5.drew.setCell ⟨w.heap.size,0,none⟩ (.slice ag au aj)).setCell ⟨w.heap.size,1,none⟩ (.slice ac ak ah)):=
  ⟨a8.out _ fun k h1 h2=>(Below.heap_setCell _ _ _ k (show k≠w.heap.size by omega)).trans ((Below.heap_setCell _ _ _ k (show k≠w.heap.size by omega)).trans ((bg k (by omega)).trans (br.block k h2))),L.KB_set (L.KB_set bv.drew (Nat.le_refl _)) (Nat.le_refl _)⟩
 have aw:Hid (L.GRd ((W5.drew.setCell ⟨w.heap.size,0,none⟩ (.slice ag au aj)).setCell ⟨w.heap.size,1,none⟩ (.slice ac ak ah)) (.slice ag au aj) (.slice ac ak ah) A7a∧Below w.heap.size w ((W5.drew.setCell ⟨w.heap.size,0,none⟩ (.slice ag au aj)).setCell ⟨w.heap.size,1,none⟩ (.slice ac ak ah))):=aw
 go_region
 all_goals
  go_wp2
  refine bodyPost_ret (v:=.tuple #[.agg #[.slice ag au aj,.slice ac ak ah],.bool true]) (by simp[results,Tryz.results11,go_sem,q0,q1]) rfl ?_
  exact⟨_,_,_,_,_,_,rfl,aw.out⟩
end Go.Proofs.YtgaoojpakjjdnaaGreatDoor
namespace Go.Proofs.YtgaoojpakjjdnaaGreatDoor
open Go.RowKit
theorem A7y {r n u:List UInt8}(h:A3o r = .ok (n,u)):n.length≤16:=by
 unfold A3o at h
 split at h
 ·cases h
 ·split at h
  ·cases h
  ·rename_i h16
   simp at h
   obtain⟨rfl,_⟩:=h
   rw[List.length_take]
   omega
theorem B2h {most n:Nat}{r u:List UInt8}(h:A5j most r = .ok (n,u)):n≤most:=by
 unfold A5j at h
 split at h
 ·cases h
 ·split at h
  ·cases h
  ·rename_i h1
   simp at h
   obtain⟨rfl,_⟩:=h
   have:=not_or.1 h1
   omega
theorem A1j {α β:Type}{x:R α}{f : α→List UInt8→R β}{b : β}{v:List UInt8}(h:R.thn x f = .ok (b,v)):∃ a u,x = .ok (a,u)∧f a u = .ok (b,v):=by
 unfold R.thn at h
 split at h
 ·cases h
 ·exact⟨_,_,rfl,h⟩
theorem C2m:∀ (l:List (List UInt8)) (i:Nat) (w:List UInt8),i+l.length≤20→(A3v i l w).1≤20∧(A3v i l w).2.length≤w.length
 | [],i,w,_=>⟨by show 10≤20;omega,Nat.le_refl _⟩
 | x::l,i,w,h=>by
  rw[A3v]
  split
  ·exact⟨by simp at h ⊢;omega,Nat.zero_le _⟩
  ·exact C2m l (i+1) w (by simp at h;omega)
def FldB (C:Nat)(f:Fld):Prop:=f.name.length≤16∧f.type.length≤16∧f.number≤A5i∧f.kind≤20∧f.choice≤C
theorem FldB.mono {C D:Nat}{f:Fld}(h:FldB C f)(hd:C≤D):FldB D f:=⟨h.1,h.2.1,h.2.2.1,h.2.2.2.1,Nat.le_trans h.2.2.2.2 hd⟩
theorem B7x {many:Bool}{ch:Nat}{r u:List UInt8}{f:Fld}(h:A1v many ch r = .ok (f,u)):FldB ch f:=by
 unfold A1v at h
 obtain⟨ty,u1,h1,h⟩:=A1j h
 obtain⟨nm,u2,h2,h⟩:=A1j h
 obtain⟨_,u3,_,h⟩:=A1j h
 obtain⟨n,u4,h4,h⟩:=A1j h
 obtain⟨_,u5,_,h⟩:=A1j h
 simp only[Except.ok.injEq,Prod.mk.injEq] at h
 obtain⟨rfl,_⟩:=h
 obtain⟨t1,t2⟩:=C2m A4a 1 ty (by decide)
 exact⟨A7y h2,Nat.le_trans t2 (A7y h1),B2h h4,t1,Nat.le_refl _⟩
theorem C8a:∀ (k:Nat) (acc:List Nat) (r u:List UInt8) (l:List Nat),(∀ n∈acc,n≤A5i)→B9m k acc r = .ok (l,u)→∀ n∈l,n≤A5i
 | 0,_,_,_,_,_,h=>by cases h
 | k+1,acc,r,u,l,ha,h=>by
  rw[B9m] at h
  split at h
  ·obtain⟨n,u1,h1,h⟩:=A1j h
   refine C8a k _ _ _ _ ?_ h
   intro x hx
   rcases List.mem_append.1 hx with hx|hx
   ·exact ha x hx
   ·simp at hx;subst hx;exact B2h h1
  ·obtain⟨_,u1,_,h⟩:=A1j h
   simp at h
   obtain⟨rfl,_⟩:=h
   exact ha
theorem B7z {K:Nat}{r u:List UInt8}{l:List Nat}(h:A0u K r = .ok (l,u)):∀ n∈l,n≤A5i:=by
 unfold A0u at h
 obtain⟨n,u1,h1,h⟩:=A1j h
 exact C8a _ _ _ _ _ (by intro x hx;simp at hx;subst hx;exact B2h h1) h
theorem B4l (ch:Nat):∀ (k:Nat) (acc:List Fld) (r u:List UInt8) (l:List Fld),(∀ f∈acc,FldB ch f)→A1y ch k acc r = .ok (l,u)→∀ f∈l,FldB ch f
 | 0,_,_,_,_,_,h=>by cases h
 | k+1,acc,r,u,l,ha,h=>by
  rw[A1y] at h
  split at h
  ·simp at h
   obtain⟨rfl,_⟩:=h
   exact ha
  ·obtain⟨f,u1,h1,h⟩:=A1j h
   refine B4l ch k _ _ _ _ ?_ h
   intro x hx
   rcases List.mem_append.1 hx with hx|hx
   ·exact ha x hx
   ·simp at hx;subst hx;exact B7x h1
def E1k (C:Nat)(m:Msg):Prop:=m.name.length≤16∧(∀ f∈m.fields,FldB C f)∧∀ n∈m.barred,n≤A5i
theorem D3e {K:Nat}{m:Msg}{ch:Nat}{r u:List UInt8}{p:Msg×Nat}(hm:E1k ch m)(h:A8m K m ch r = .ok (p,u)):p.2≤ch+1∧E1k p.2 p.1:=by
 obtain⟨h1,h2,h3⟩:=hm
 unfold A8m at h
 split at h
 ·obtain⟨l,u1,hl,h⟩:=A1j h
  simp only[Except.ok.injEq,Prod.mk.injEq] at h
  obtain⟨rfl,_⟩:=h
  refine⟨Nat.le_succ _,h1,h2,?_⟩
  intro n hn
  rcases List.mem_append.1 hn with hn|hn
  ·exact h3 n hn
  ·exact B7z hl n hn
 ·split at h
  ·obtain⟨l,u1,hl,h⟩:=A1j h
   simp only[Except.ok.injEq,Prod.mk.injEq] at h
   obtain⟨rfl,_⟩:=h
   refine⟨Nat.le_refl _,h1,?_,h3⟩
   intro f hf
   rcases List.mem_append.1 hf with hf|hf
   ·exact(h2 f hf).mono (Nat.le_succ _)
   ·unfold A1w at hl
    obtain⟨_,u2,_,hl⟩:=A1j hl
    exact B4l _ _ _ _ _ _ (fun _ h=>(List.not_mem_nil h).elim) hl f hf
  ·obtain⟨x,u1,hl,h⟩:=A1j h
   simp only[Except.ok.injEq,Prod.mk.injEq] at h
   obtain⟨rfl,_⟩:=h
   refine⟨Nat.le_succ _,h1,?_,h3⟩
   intro f hf
   rcases List.mem_append.1 hf with hf|hf
   ·exact h2 f hf
   ·simp at hf;subst hf
    exact(B7x hl).mono (Nat.zero_le _)
def D9y (C:Nat)(m:Msg):Prop:=E1k C m∧m.fields.length≤16∧m.barred.length≤16
theorem B7y (K:Nat):∀ (k:Nat) (m:Msg) (ch:Nat) (r u:List UInt8) (x:Msg),D9y ch m→A3h K k m ch r = .ok (x,u)→D9y (ch+k) x
 | 0,_,_,_,_,_,_,h=>by cases h
 | k+1,m,ch,r,u,x,hm,h=>by
  rw[A3h] at h
  split at h
  ·simp only[Except.ok.injEq,Prod.mk.injEq] at h
   obtain⟨rfl,_⟩:=h
   exact⟨⟨hm.1.1,fun f hf=>(hm.1.2.1 f hf).mono (by omega),hm.1.2.2⟩,hm.2⟩
  ·obtain⟨p,u1,h1,h⟩:=A1j h
   split at h
   ·cases h
   ·rename_i hle
    obtain⟨q1,q2⟩:=D3e hm.1 h1
    have:=B7y K k _ _ _ _ _ ⟨q2,by omega,by omega⟩ h
    exact⟨⟨this.1.1,fun f hf=>(this.1.2.1 f hf).mono (by omega),this.1.2.2⟩,this.2⟩
def E2j (i:Itm):Prop:=i.name.length≤16∧-2147483648≤i.value∧i.value≤2147483647
theorem D3d {r u:List UInt8}{i:Itm}(h:A3n r = .ok (i,u)):E2j i:=by
 unfold A3n at h
 obtain⟨nm,u1,h1,h⟩:=A1j h
 obtain⟨_,u2,_,h⟩:=A1j h
 split at h
 rotate_right
 rotate_right
 all_goals
  obtain⟨n,u3,h3,h⟩:=A1j h
  obtain⟨_,u4,_,h⟩:=A1j h
  simp only[Except.ok.injEq,Prod.mk.injEq] at h
  obtain⟨rfl,_⟩:=h
  have:=B2h h3
  exact⟨A7y h1,by simp only;omega,by simp only;omega⟩
def D9x (e:Enm):Prop:=e.name.length≤16∧(∀ i∈e.items,E2j i)∧e.items.length≤16
theorem B4m:∀ (k:Nat) (e:Enm) (r u:List UInt8) (x:Enm),D9x e→A3r k e r = .ok (x,u)→D9x x
 | 0,_,_,_,_,_,h=>by cases h
 | k+1,e,r,u,x,he,h=>by
  rw[A3r] at h
  split at h
  ·simp only[Except.ok.injEq,Prod.mk.injEq] at h
   obtain⟨rfl,_⟩:=h
   exact he
  ·obtain⟨i,u1,h1,h⟩:=A1j h
   split at h
   ·cases h
   ·rename_i hle
    refine B4m k ⟨e.name,e.items++[i]⟩ _ _ _ ⟨he.1,?_,by show(e.items++[i]).length≤16;omega⟩ h
    intro j hj
    rcases List.mem_append.1 hj with hj|hj
    ·exact he.2.1 j hj
    ·simp at hj;subst hj;exact D3d h1
def E1a (K:Nat)(f:Fil):Prop:=(∀ m∈f.msgs,D9y K m)∧(∀ e∈f.enums,D9x e)∧f.msgs.length+f.enums.length≤10
theorem D8d {K:Nat}{f g:Fil}{r u:List UInt8}(hf:(∀ m∈f.msgs,D9y K m)∧∀ e∈f.enums,D9x e)(h:B3w K f r = .ok (g,u)):(∀ m∈g.msgs,D9y K m)∧∀ e∈g.enums,D9x e:=by
 unfold B3w at h
 split at h
 ·obtain⟨m,u1,h1,h⟩:=A1j h
  simp only[Except.ok.injEq,Prod.mk.injEq] at h
  obtain⟨rfl,_⟩:=h
  refine⟨?_,hf.2⟩
  intro x hx
  rcases List.mem_append.1 hx with hx|hx
  ·exact hf.1 x hx
  ·simp at hx;subst hx
   unfold A0e at h1
   obtain⟨nm,u1,h2,h1⟩:=A1j h1
   obtain⟨_,u2,_,h1⟩:=A1j h1
   have:=B7y _ _ _ _ _ _ _ ⟨⟨A7y h2,fun _ h=>(List.not_mem_nil h).elim,fun _ h=>(List.not_mem_nil h).elim⟩,by simp,by simp⟩ h1
   rw[Nat.zero_add] at this
   exact this
 ·split at h
  ·obtain⟨e,u1,h1,h⟩:=A1j h
   simp only[Except.ok.injEq,Prod.mk.injEq] at h
   obtain⟨rfl,_⟩:=h
   refine⟨hf.1,?_⟩
   intro x hx
   rcases List.mem_append.1 hx with hx|hx
   ·exact hf.2 x hx
   ·simp at hx;subst hx
    unfold A4j at h1
    obtain⟨nm,u1,h2,h1⟩:=A1j h1
    obtain⟨_,u2,_,h1⟩:=A1j h1
    exact B4m _ _ _ _ _ ⟨A7y h2,fun _ h=>(List.not_mem_nil h).elim,by simp⟩ h1
  ·cases h
theorem B7w (K:Nat):∀ (k:Nat) (f:Fil) (r u:List UInt8) (g:Fil),E1a K f→A1m K k f r = .ok (g,u)→E1a K g
 | 0,_,_,_,_,_,h=>by cases h
 | k+1,f,r,u,g,hf,h=>by
  rw[A1m] at h
  split at h
  ·simp only[Except.ok.injEq,Prod.mk.injEq] at h
   obtain⟨rfl,_⟩:=h
   exact hf
  ·obtain⟨f',u1,h1,h⟩:=A1j h
   split at h
   ·cases h
   ·rename_i hle
    obtain⟨q1,q2⟩:=D8d ⟨hf.1,hf.2.1⟩ h1
    exact B7w K k _ _ _ _ ⟨q1,q2,by omega⟩ h
theorem C7z {K:Nat}{l u:List UInt8}{f:Fil}(h:A5k K l = .ok (f,u)):E1a K f:=B7w _ _ _ _ _ _ ⟨fun _ hm=>(List.not_mem_nil hm).elim,fun _ hm=>(List.not_mem_nil hm).elim,by simp⟩ h
theorem D8e {K:Nat}(hK:K≤1000000){f:Fil}(h:E1a K f):L.GOk (toG f):=by
 have hr:reachBytes=140737488351232:=rfl
 have hmx:maxLen=9223372036854775807:=rfl
 obtain⟨h1,h2,h3⟩:=h
 refine⟨fun m hm=>?_,fun e he=>?_,?_,?_⟩
 ·obtain⟨p,hp,rfl⟩:=List.mem_map.1 hm
  obtain⟨⟨q1,q2,q3⟩,q4,q5⟩:=h1 p hp
  refine⟨by show p.name.length≤_;omega,fun x hx=>?_,fun n hn=>?_,?_,?_⟩
  ·obtain⟨y,hy,rfl⟩:=List.mem_map.1 hx
   obtain⟨r1,r2,r3,r4,r5⟩:=q2 y hy
   have:A5i=536870911:=rfl
   exact⟨by show y.name.length≤_;omega,by show y.type.length≤_;omega,⟨by show _≤(y.number:Int);omega,by show(y.number:Int)≤_;omega⟩,⟨by show _≤(y.kind:Int);omega,by show(y.kind:Int)≤_;omega⟩,⟨by show _≤(y.choice:Int);omega,by show(y.choice:Int)≤_;omega⟩⟩
  ·obtain⟨y,hy,rfl⟩:=List.mem_map.1 hn
   have:=q3 y hy
   have:A5i=536870911:=rfl
   exact⟨by omega,by omega⟩
  ·show(p.fields.map toF).length*64≤_
   rw[List.length_map]
   omega
  ·show(p.barred.map _).length*8≤_
   rw[List.length_map]
   omega
 ·obtain⟨p,hp,rfl⟩:=List.mem_map.1 he
  obtain⟨q1,q2,q3⟩:=h2 p hp
  refine⟨by show p.name.length≤_;omega,fun x hx=>?_,?_⟩
  ·obtain⟨y,hy,rfl⟩:=List.mem_map.1 hx
   obtain⟨r1,r2,r3⟩:=q2 y hy
   exact⟨by show y.name.length≤_;omega,⟨by show _≤y.value;omega,by show y.value≤_;omega⟩⟩
  ·show(p.items.map toI).length*24≤_
   rw[List.length_map]
   omega
 ·show(f.msgs.map toM).length*64≤_
  rw[List.length_map]
  omega
 ·show(f.enums.map toE).length*40≤_
  rw[List.length_map]
  omega
end Go.Proofs.YtgaoojpakjjdnaaGreatDoor
namespace Go.Proofs.YtgaoojpakjjdnaaGreatDoor
open Go.RowKit
theorem C9c {g:L.GI}(h:L.GOk g):L.GOk (L.linkL g):=by
  refine⟨fun m hm=>?_,h.2.1,by simpa [L.linkL] using h.2.2.1,h.2.2.2⟩
  obtain⟨m0,ac,rfl⟩:=List.mem_map.1 hm
  obtain⟨p1,p2,p3,p4,p5⟩:=h.1 m0 ac
  refine⟨p1,fun f hf=>?_,p3,by simpa [L.linkM] using p4,p5⟩
  obtain⟨x,hx,rfl⟩:=List.mem_map.1 hf
  obtain⟨q1,q2,q3,q4,q5⟩:=p2 x hx
  unfold L.linkF
  split
  · exact⟨q1,q2,q3,(show L.I64 5 by unfold L.I64;decide),q5⟩
  · exact⟨q1,q2,q3,q4,q5⟩
def C0i (w:World)(e:Ending)(w':World):Prop:=Below w.heap.size w w'∧
  ((∃ (am:Option Addr) (nm cm:Nat) (ae:Option Addr) (ne ce:Nat),e = .returned (.tuple #[.agg #[.slice am nm cm,.slice ae ne ce],.bool false]))∨
   ∃ (G:L.GI) (am:Option Addr) (nm cm:Nat) (ae:Option Addr) (ne ce:Nat),e = .returned (.tuple #[.agg #[.slice am nm cm,.slice ae ne ce],.bool true])∧L.GRd w' (.slice am nm cm) (.slice ae ne ce) G∧L.GOk G∧(L.wrongL G).1=0)
theorem D3u {B:Nat}{w:World}(hg:Gl B w)(hB:B≤w.heap.size)(l:List UInt8)(hl:l.length≤140737488351232) :
    Calls Tryz.prog 11 #[.string (S l)] w (C0i w):=by
  obtain⟨W1,bp⟩:∃ W1,Hid (W1=w.alloc (.cells #[.slice none 0 0,.slice none 0 0] 25)):=⟨_,rfl⟩
  have hb1:Below w.heap.size w W1:=by rw[bp.out];exact(Below.refl _ _).alloc (Nat.le_refl _) _
  have x1:W1.heap[w.heap.size]?=some (.cells #[.slice none 0 0,.slice none 0 0] 25 (0,0)):=by rw[bp.out];exact heap_alloc_new _ _
  have z1:w.heap.size+1≤W1.heap.size:=by rw[bp.out];simp
  have hp:Calls Tryz.prog 23 #[.string (S l)] W1 fun e w1=>Below W1.heap.size W1 w1∧((∃ c t:Int,c≠0∧e = .returned (.tuple #[.agg #[.slice none 0 0,.slice none 0 0],.agg #[.int .i64 c,.int .i64 t]]))∨∃ (g:L.GI) (am:Option Addr) (nm cm:Nat) (ae:Option Addr) (ne ce:Nat),e = .returned (.tuple #[.agg #[.slice am nm cm,.slice ae ne ce],.agg #[.int .i64 0,.int .i64 0]])∧L.GRd w1 (.slice am nm cm) (.slice ae ne ce) g∧L.GOk g):=by
    by_cases hbig:3000<l.length
    · refine(C4j (S l) (by rw[A3b];exact hbig) (by rw[A3b];omega) W1).mono ?_
      rintro e w1 ⟨rfl,hb⟩
      exact⟨hb,.inl ⟨4,0,by decide,rfl⟩⟩
    · refine(B7q l (by omega) (hg.later (hb1.mono hB)) (Nat.le_trans hB hb1.size) (l.length+1) (by omega) (D0o l)).mono ?_
      intro e w1 ⟨hb,hx⟩
      refine⟨hb,?_⟩
      have bk:=D0n (l.length+1) l
      cases hpl:A5k (l.length+1) l with
      | error q=>
        rw[hpl] at hx bk
        cases q with
        | none=>exact hx.elim
        | some ct=>
          obtain⟨c,t⟩:=ct
          obtain⟨_,rfl⟩:=hx
          exact .inl ⟨c,_,by have:=bk c t rfl;omega,rfl⟩
      | ok p=>
        obtain⟨f,u⟩:=p
        rw[hpl] at hx
        obtain⟨vm,ve,lm,le,rfl,hF,hm,he,_⟩:=hx
        have hgr:=hF.grd hm he
        obtain⟨am,nm,cm,rfl,_⟩:=hF.rowm.shape'
        obtain⟨ae,ne,ce,rfl,_⟩:=hF.rowe.shape'
        exact .inr ⟨toG f,am,nm,cm,ae,ne,ce,rfl,hgr,D8e (by omega) (C7z hpl)⟩
  go_enter Tryz.func11,Tryz.ntmps11
  go_wp2_with fail
  rw[←bp.out]
  refine hp.mono ?_
  rintro e w1 ⟨hb,⟨c,t,hc,rfl⟩|⟨g,am,nm,cm,ae,ne,ce,rfl,hgr,cj⟩⟩
  · obtain⟨W2,a8⟩:∃ W2,Hid (W2=(w1.alloc (.cells #[.slice none 0 0,.slice none 0 0] 25)).alloc (.cells #[.int .i64 c,.int .i64 t] 50)):=⟨_,rfl⟩
    have bg:Below w1.heap.size w1 W2:=by rw[a8.out];exact((Below.refl _ _).alloc (Nat.le_refl _) _).alloc (by simp) _
    have hz1:=hb.size
    have y0:=(bg.block w.heap.size (by omega)).trans ((hb.block w.heap.size (by omega)).trans x1)
    obtain⟨q0,q1⟩:=A0r y0
    have g0:=A0b y0 0
    have g1:=A0b y0 1
    have ec:(c != 0)=true:=by simpa using hc
    have bu:Below w.heap.size w W2:=hb1.trans ((hb.trans (bg.mono hb.size)).mono (by omega))
    have aw:=L.KB_set (i:=1) (x:=.slice none 0 0) (L.KB_set (i:=0) (x:=.slice none 0 0) bu (Nat.le_refl _)) (Nat.le_refl _)
    rw[a8.out] at q0 q1 g0 g1
    clear hp
    go_wp2_with fail
    rw[←a8.out]
    rw[←a8.out] at q0 q1 g0 g1
    refine bodyPost_ret (v:=.tuple #[.agg #[.slice none 0 0,.slice none 0 0],.bool false]) (by simp[results,Tryz.results11,go_sem,q0,q1]) rfl ?_
    exact⟨aw,.inl ⟨_,_,_,_,_,_,rfl⟩⟩
  · obtain⟨W2,a8⟩:∃ W2,Hid (W2=(w1.alloc (.cells #[.slice am nm cm,.slice ae ne ce] 25)).alloc (.cells #[.int .i64 0,.int .i64 0] 50)):=⟨_,rfl⟩
    have bg:Below w1.heap.size w1 W2:=by rw[a8.out];exact((Below.refl _ _).alloc (Nat.le_refl _) _).alloc (by simp) _
    have hx2:W2.heap[w1.heap.size+1]?=some (.cells #[.int .i64 0,.int .i64 0] 50 (0,0)):=by rw[a8.out];exact A0i _ _ _
    have hz2:w1.heap.size+2≤W2.heap.size:=by rw[a8.out];simp
    have hlk:Calls Tryz.prog 24 #[.agg #[.slice am nm cm,.slice ae ne ce]] W2 fun e w3=>∃ (ze zi:Int) (ag:Option Addr) (au aj:Nat) (ac:Option Addr) (ak ah:Nat),e = .returned (.tuple #[.agg #[.slice ag au aj,.slice ac ak ah],.agg #[.int .i64 ze,.int .i64 zi]])∧Below W2.heap.size W2 w3∧Hid (ze=0→(L.wrongL (L.linkL g)).1=0∧∀ V:World,(∀ k,W2.heap.size≤k→k<w3.heap.size→V.heap[k]?=w3.heap[k]?)→L.GRd V (.slice ag au aj) (.slice ac ak ah) (L.linkL g)):=by
      refine(L.link_any (hgr.below bg) cj).mono ?_
      rintro e w3 ⟨hb3,hx⟩
      rcases hx with⟨hr0,vm3,ve3,lm3,le3,rfl,hog,hm3,he3⟩|⟨hne,rfl⟩
      · obtain⟨ag,au,aj,rfl,_⟩:=hog.rowm.shape'
        obtain⟨ac,ak,ah,rfl,_⟩:=hog.rowe.shape'
        refine⟨0,0,ag,au,aj,ac,ak,ah,rfl,hb3,fun _=>⟨hr0,fun V hV=>?_⟩⟩
        have h:=(hog.keep hV).rd
        rw[hm3,he3] at h
        exact h
      · exact⟨_,_,_,_,_,_,_,_,rfl,hb3,fun h=>absurd h hne⟩
    clear hp
    go_wp2_with fail
    rw[←a8.out]
    refine hlk.mono ?_
    rintro e w3 ⟨ze,zi,ag,au,aj,ac,ak,ah,rfl,hb3,HL⟩
    obtain⟨W4,bq⟩:∃ W4,Hid (W4=w3.alloc (.cells #[.slice ag au aj,.slice ac ak ah] 25)):=⟨_,rfl⟩
    have bt:Below w3.heap.size w3 W4:=by rw[bq.out];exact(Below.refl _ _).alloc (Nat.le_refl _) _
    have hz3:=hb3.size
    have hz1:=hb.size
    have y4:W4.heap[w3.heap.size]?=some (.cells #[.slice ag au aj,.slice ac ak ah] 25 (0,0)):=by rw[bq.out];exact heap_alloc_new _ _
    have y1:=(bt.block (w1.heap.size+1) (by omega)).trans ((hb3.block (w1.heap.size+1) (by omega)).trans hx2)
    have y0:=(bt.block w.heap.size (by omega)).trans ((hb3.block w.heap.size (by omega)).trans ((bg.block w.heap.size (by omega)).trans ((hb.block w.heap.size (by omega)).trans x1)))
    have bv:Below w.heap.size w W4:=hb1.trans ((hb.trans ((bg.trans ((hb3.trans (bt.mono hb3.size)).mono (by omega))).mono (by omega))).mono (by omega))
    obtain⟨c0,c1⟩:=A0r y1
    have f0:=A0b y1 0
    have f1:=A0b y1 1
    rw[bq.out] at c0 c1 f0 f1
    clear hlk
    go_upto_region 5 with fail
    rw[←bq.out]
    obtain⟨W5,br⟩:∃ W5,Hid (W5=(W4.setCell ⟨w1.heap.size+1,0,none⟩ (.int .i64 ze)).setCell ⟨w1.heap.size+1,1,none⟩ (.int .i64 zi)):=⟨_,rfl⟩
    have bw:Below w.heap.size w W5:=by rw[br.out];exact L.KB_set (L.KB_set bv (by omega)) (by omega)
    have bh:∀ k,k≠w1.heap.size+1→W5.heap[k]?=W4.heap[k]?:=fun k hk=>by rw[br.out];exact(Below.heap_setCell _ _ _ k hk).trans (Below.heap_setCell _ _ _ k hk)
    have x5:W5.heap[w1.heap.size+1]?=some (.cells #[.int .i64 ze,.int .i64 zi] 50 (0,0)):=by rw[br.out];exact heap_setCell_same _ _ 1 _ _ _ (heap_setCell_same _ _ 0 _ _ _ y1)
    obtain⟨q0,q1⟩:=A0r ((bh w.heap.size (by omega)).trans y0)
    obtain⟨q2,q3⟩:=A0r ((bh w3.heap.size (by omega)).trans y4)
    obtain⟨q4,q5⟩:=A0r x5
    have g0:=A0b ((bh w.heap.size (by omega)).trans y0) 0
    have g1:=A0b ((bh w.heap.size (by omega)).trans y0) 1
    have n1:¬ w.heap.size=w1.heap.size+1:=by omega
    have n2:¬ w.heap.size=w3.heap.size:=by omega
    have n3:¬ w1.heap.size+1=w.heap.size:=by omega
    have n4:¬ w3.heap.size=w.heap.size:=by omega
    rw[←br.out]
    clear c0 c1 f0 f1 y1 y0 y4
    obtain⟨qz,cg⟩:∃ qz,(ze==0)=qz:=⟨_,rfl⟩
    have cu:Hid ((ze==0)=qz):=cg
    have aw:C0i w (.returned (.tuple #[.agg #[.slice ag au aj,.slice ac ak ah],.bool qz])) ((W5.drew.setCell ⟨w.heap.size,0,none⟩ (.slice ag au aj)).setCell ⟨w.heap.size,1,none⟩ (.slice ac ak ah)):=by
      refine⟨L.KB_set (L.KB_set bw.drew (Nat.le_refl _)) (Nat.le_refl _),?_⟩
      cases qz with
      | false=>exact .inl ⟨_,_,_,_,_,_,rfl⟩
      | true=>
        have hz0:ze=0:=by simpa using cg
        obtain⟨h1,h2⟩:=HL.out hz0
        exact .inr ⟨L.linkL g,_,_,_,_,_,_,rfl,h2 _ fun k h1 h2=>(Below.heap_setCell _ _ _ k (show k≠w.heap.size by omega)).trans ((Below.heap_setCell _ _ _ k (show k≠w.heap.size by omega)).trans ((bh k (by omega)).trans (bt.block k h2))),C9c cj,h1⟩
    have aw:Hid (C0i w (.returned (.tuple #[.agg #[.slice ag au aj,.slice ac ak ah],.bool qz])) ((W5.drew.setCell ⟨w.heap.size,0,none⟩ (.slice ag au aj)).setCell ⟨w.heap.size,1,none⟩ (.slice ac ak ah))):=aw
    go_region
    all_goals
      go_wp2
      refine bodyPost_ret (v:=.tuple #[.agg #[.slice ag au aj,.slice ac ak ah],.bool qz]) (by simp[results,Tryz.results11,go_sem,q0,q1]) rfl ?_
      exact aw.out
end Go.Proofs.YtgaoojpakjjdnaaGreatDoor
