import Derived.Test.YtgaoojpakjjdnaaGreatDoorRows
import Derived.Test.YtgaoojpakjjdnaaGreatDoorV39
import Derived.Test.YtgaoojpakjjdnaaGreatDoorV02
import Derived.Lib.LaidTab
import Derived.Lib.LaidU8T
import Derived.Below
import Derived.Test.YtgaoojpakjjdnaaGreatDoorV44
import Derived.Test.YtgaoojpakjjdnaaGreatDoorV08
import Derived.Test.YtgaoojpakjjdnaaGreatDoorV30
import Derived.Test.YtgaoojpakjjdnaaGreatDoorV12
set_option maxHeartbeats 32000000
set_option maxRecDepth 100000
namespace Go.Proofs.YtgaoojpakjjdnaaGreatDoor
open Go.RowKit
theorem B7h {P:Program}{w w':World}{n:String}{cs:Array Value}(hb:Below w.heap.size w w') (h:w.var? P n=some cs):w'.var? P n=some cs:=by
 unfold World.var? at h ⊢
 cases hg:P.globalNamed n with
 | none=>rw[hg] at h;cases h
 | some g=>
  rw[hg] at h
  simp only[Option.bind_some] at h ⊢
  by_cases hlt:g < w.heap.size
  ·rw[hb.block g hlt];exact h
  ·rw[Array.getElem?_eq_none (by omega)] at h;cases h
theorem B4a {P:Program}{w:World}{fuel:Nat}{t:TypeId}{cs:List Value}{m:String}{d:DataW Unit}{p:List MemPlace}{ms}(ht:P.underlying t=some (.interface ms)) (h:DataW.trod (fun _=>()) P w 0 (fun _=>true) false fuel t cs=some (.iface m d,p)):∃ u v,cs = [.iface u v]:=by
 cases fuel with
 | zero=>simp[DataW.trod] at h
 | succ fuel=>
  simp only[DataW.trod,ht] at h
  split at h <;> first|(rename_i hh;cases hh;done)|skip
  all_goals first|exact⟨_,_,rfl⟩|(simp at h;done)
theorem D6m : (Tryz.prog.globalNamed "internal/strconv.uint64pow10").bind (fun g => (Tryz.prog.globals[g]?).map (·.type)) = some 325 := by kernel_rfl
theorem D6l : (Tryz.prog.globalNamed "strconv.ErrRange").bind (fun g => (Tryz.prog.globals[g]?).map (·.type)) = some 295 := by kernel_rfl
theorem D6u:Tryz.prog.underlying 325=some (.array 20 63):=by kernel_rfl
theorem D6t:∃ ms,Tryz.prog.underlying 295=some (.interface ms):=⟨_,Tryz.underlying295⟩
theorem D0b:(Rows.laid_internal_strconv_uint64pow10:DataW Unit)=Lib.tabData .u64 Lib.pow10Tab:=by rfl
def D6r:Shelf.Ren:=⟨fun x=>x,fun x=>if x=119 then 236 else if x=138 then 238 else if x=139 then 239 else if x=5 then 5 else x,fun x=>if x=3 then 0 else if x=4 then 1 else x⟩
theorem C2m:(Rows.laid_unicode_utf8_first:DataW Unit)=Lib.firstData:=by kernel_rfl
theorem B8i:(Rows.laid_unicode_utf8_acceptRanges:DataW Unit)=Lib.acceptData:=by kernel_rfl
theorem D1j {W:World}(h:laidMet Tryz.prog Rows.topDeepRow.laid W):L.Tabs W:=by
 have h3:=Lib.laidMet.reads h (.tail _ (.tail _ (.tail _ (.tail _ (.tail _ (.tail _ (.head _)))))))
 have h4:=Lib.laidMet.reads h (.tail _ (.tail _ (.tail _ (.head _))))
 rw[C2m] at h3
 rw[B8i] at h4
 exact utf8Tabs_of_readsT (ρ:=D6r) ⟨by kernel_rfl,by kernel_rfl,by kernel_rfl,by kernel_rfl⟩ ⟨by kernel_rfl,by kernel_rfl,by kernel_rfl,by kernel_rfl,by kernel_rfl,by kernel_rfl,by kernel_rfl⟩ h3 h4
theorem D5a {W:World}(h:laidMet Tryz.prog Rows.topDeepRow.laid W):Gl W.heap.size W:=by
 obtain⟨ps,⟨g1,t1,cs1,ak,p1,q1,hg1,cu,bg,bv,⟨g2,t2,bq,au,p2,q2,hg2,cw,bh,bw,⟨g3,t3,br,aw,p3,q3,hg3,bn,ac,bc,⟨g5,t5,bu,ba,p5,q5,cj,df,bk,cg,⟨g4,t4,bt,a8,p4,q4,hg4,bp,ag,bl,_,_⟩,_⟩,_⟩,_⟩,_⟩,_⟩:=h
 have e3:=D6m
 rw[hg3] at e3
 simp only[Option.bind_some] at e3
 obtain rfl:=Option.some.inj (bn.symm.trans e3)
 have e4:=D6l
 rw[hg4] at e4
 simp only[Option.bind_some] at e4
 obtain rfl:=Option.some.inj (bp.symm.trans e4)
 obtain⟨ms,hu⟩:=D6t
 obtain⟨u,v,aj⟩:=B4a hu bl
 rw[D0b] at bc
 have ah:=Lib.cells_of_tab D6u Tryz.underlying63 (by kernel_rfl) (by kernel_rfl) bc
 intro w' hb
 refine⟨⟨u,v,?_⟩,?_⟩
 ·rw[B7h hb ag,←aj]
 ·show w'.var? _ _=_
  rw[B7h hb ac,←ah]
end Go.Proofs.YtgaoojpakjjdnaaGreatDoor
namespace Go.Proofs.YtgaoojpakjjdnaaGreatDoor
open Go.RowKit
def toF (f:Fld):L.FI:=⟨f.name,f.number,f.kind,f.type,f.many,f.choice⟩
def toM (m:Msg):L.MI:=⟨m.name,m.fields.map toF,m.barred.map fun n:Nat=>(n:Int)⟩
def toI (i:Itm):L.II:=⟨i.name,i.value⟩
def toE (e:Enm):L.EI:=⟨e.name,e.items.map toI⟩
def toG (f:Fil):L.GI:=⟨f.msgs.map toM,f.enums.map toE⟩
theorem A8m {α β:Type}{E:EK α}{F:L.EK β}{w:World}{base:Nat}{v:Value}{l:List α}(t : α→β) (h:Row E w base v l) (he:E.elem=F.elem) (hs:E.size=F.size) (ac:∀ a,F.enc (t a)=E.enc a):L.Row F w base v (l.map t):=by
 have hf:F.flat (l.map t)=E.flat l:=by
  unfold L.EK.flat EK.flat
  rw[List.flatMap_map]
  exact congrArg (fun f=>l.flatMap f) (funext ac)
 unfold Row at h
 unfold L.Row
 rw[hf,List.length_map,←he,←hs]
 exact h
theorem FilR.ownG {w:World}{base:Nat}{vm ve:Value}{lm:List (Msg×SV×SV)}{le:List (Enm×SV)}(h:FilR w base vm ve lm le):L.OwnG w base vm ve (lm.map fun p=>(toM p.1,p.2)) (le.map fun p=>(toE p.1,p.2)):=by
 refine⟨A8m _ h.rowm rfl rfl (fun _=>rfl),A8m _ h.rowe rfl rfl (fun _=>rfl),?_,?_⟩
 ·intro p hp
  obtain⟨q,hq,rfl⟩:=List.mem_map.1 hp
  exact⟨A8m toF (h.ms q hq).1 rfl rfl (fun _=>rfl),A8m (fun n:Nat=>(n:Int)) (h.ms q hq).2 rfl rfl (fun _=>rfl)⟩
 ·intro p hp
  obtain⟨q,hq,rfl⟩:=List.mem_map.1 hp
  exact A8m toI (h.es q hq) rfl rfl (fun _=>rfl)
theorem FilR.grd {w:World}{base:Nat}{vm ve:Value}{lm:List (Msg×SV×SV)}{le:List (Enm×SV)}(h:FilR w base vm ve lm le){f:Fil}(hm:lm.map Prod.fst=f.msgs) (he:le.map Prod.fst=f.enums):L.GRd w vm ve (toG f):=by
 have:=h.ownG.rd
 have e1:(lm.map fun p=>(toM p.1,p.2)).map Prod.fst=f.msgs.map toM:=by rw[←hm,List.map_map,List.map_map];rfl
 have e2:(le.map fun p=>(toE p.1,p.2)).map Prod.fst=f.enums.map toE:=by rw[←he,List.map_map,List.map_map];rfl
 rw[e1,e2] at this
 exact this
end Go.Proofs.YtgaoojpakjjdnaaGreatDoor
namespace Go.Proofs.YtgaoojpakjjdnaaGreatDoor
open Go.RowKit
def D4j:List UInt8:=[101,110,117,109,32,82,111,108,101,32,123,32,110,111,110,101,32,61,32,48,59,32,97,100,109,105,110,32,61,32,55,59,32,125,32,109,101,115,115,97,103,101,32,85,115,101,114,32,123,32,115,116,114,105,110,103,32,110,97,109,101,32,61,32,49,59,32,115,105,110,116,54,52,32,115,99,111,114,101,32,61,32,50,59,32,82,111,108,101,32,114,111,108,101,32,61,32,51,59,32,114,101,112,101,97,116,101,100,32,85,115,101,114,32,102,114,105,101,110,100,115,32,61,32,52,59,32,111,110,101,111,102,32,123,32,98,121,116,101,115,32,107,101,121,32,61,32,53,59,32,98,111,111,108,32,111,112,101,110,32,61,32,54,59,32,125,32,125]
def B2j:Fil:=⟨[⟨[85,115,101,114],[⟨[110,97,109,101],1,8,[],false,0⟩,⟨[115,99,111,114,101],2,2,[],false,0⟩,⟨[114,111,108,101],3,10,[82,111,108,101],false,0⟩,⟨[102,114,105,101,110,100,115],4,10,[85,115,101,114],true,0⟩,⟨[107,101,121],5,9,[],false,1⟩,⟨[111,112,101,110],6,4,[],false,1⟩],[]⟩],[⟨[82,111,108,101],[⟨[110,111,110,101],0⟩,⟨[97,100,109,105,110],7⟩]⟩]⟩
def A2b:L.GI:=⟨[⟨[85,115,101,114],[⟨[110,97,109,101],1,8,[],false,0⟩,⟨[115,99,111,114,101],2,2,[],false,0⟩,⟨[114,111,108,101],3,5,[82,111,108,101],false,0⟩,⟨[102,114,105,101,110,100,115],4,10,[85,115,101,114],true,0⟩,⟨[107,101,121],5,9,[],false,1⟩,⟨[111,112,101,110],6,4,[],false,1⟩],[]⟩],[⟨[82,111,108,101],[⟨[110,111,110,101],0⟩,⟨[97,100,109,105,110],7⟩]⟩]⟩
theorem B3d:A6e 400 D4j = .ok (B2j,[]):=by kernel_rfl
theorem C7x:L.wrongL (L.linkL (toG B2j))=(0,0):=by decide +kernel
theorem D5p:L.linkL (toG B2j)=A2b:=by kernel_rfl
theorem D4k:L.GOk (toG B2j):=by
 have hr:reachBytes=140737488351232:=rfl
 refine⟨?_,?_,?_,?_⟩
 ·intro m hm
  simp[toG,B2j,toM,toF] at hm
  subst hm
  refine⟨?_,?_,?_,?_,?_⟩
  ·simp[maxLen]
  ·intro f hf
   simp at hf
   rcases hf with rfl|rfl|rfl|rfl|rfl|rfl <;> simp[L.FOk,L.I64,maxLen]
  ·intro n hn;simp at hn
  ·simp[hr]
  ·simp[hr]
 ·intro e he
  simp[toG,B2j,toE,toI] at he
  subst he
  refine⟨by simp[maxLen],?_,by simp[hr]⟩
  intro f hf
  simp at hf
  rcases hf with rfl|rfl <;> simp[L.TOk,L.I64,maxLen]
 ·simp[toG,B2j,hr]
 ·simp[toG,B2j,hr]
theorem C7w:L.Fits A2b:=by
 refine⟨fun m hm=>?_,fun e he=>?_⟩
 ·simp only[A2b,List.mem_singleton] at hm
  subst hm
  refine⟨by decide,fun f hf=>?_⟩
  simp only[List.mem_cons,List.mem_nil_iff,or_false] at hf
  rcases hf with rfl|rfl|rfl|rfl|rfl|rfl <;> decide
 ·simp only[A2b,List.mem_singleton] at he
  subst he
  decide
theorem C0s:∀ M∈A2b.msgs,(∀ f∈M.fields,L.I64 f.number∧L.I64 f.choice)∧M.fields.length≤140737488355328:=by
 intro M hM
 simp only[A2b,List.mem_singleton] at hM
 subst hM
 refine⟨fun f hf=>?_,by decide⟩
 simp only[List.mem_cons,List.mem_nil_iff,or_false] at hf
 rcases hf with rfl|rfl|rfl|rfl|rfl|rfl <;> (unfold L.I64;decide)
theorem B5x {B:Nat}{w:World}(hg:Gl B w) (hB:B≤w.heap.size) :
  Calls Tryz.prog 11 #[.string (S D4j)] w fun e w'=>∃ am nm cm ae ne ce,e = .returned (.tuple #[.agg #[.slice am nm cm,.slice ae ne ce],.bool true])∧L.GRd w' (.slice am nm cm) (.slice ae ne ce) A2b∧Below w.heap.size w w':=by
 obtain⟨W1,bc⟩:∃ W1,Hid (W1=w.alloc (.cells #[.slice none 0 0,.slice none 0 0] 25)):=⟨_,rfl⟩
 have hb1:Below w.heap.size w W1:=by rw[bc.out];exact(Below.refl _ _).alloc (Nat.le_refl _) _
 have x1:W1.heap[w.heap.size]?=some (.cells #[.slice none 0 0,.slice none 0 0] 25 (0,0)):=by rw[bc.out];exact heap_alloc_new _ _
 have z1:w.heap.size+1≤W1.heap.size:=by rw[bc.out];simp
 have hp:=C3v D4j (by decide) (hg.later (hb1.mono hB)) (Nat.le_trans hB hb1.size) 400 (by decide) (by rw[B3d];intro h;cases h)
 rw[B3d] at hp
 go_enter Tryz.func11,Tryz.ntmps11
 go_wp2_with fail
 rw[←bc.out]
 refine hp.mono ?_
 rintro e w1 ⟨hb,vm,ve,lm,le,rfl,hF,hm,he,hlen⟩
 have hgr:=hF.grd hm he
 obtain⟨am,nm,cm,rfl,bv⟩:=hF.rowm.shape'
 obtain⟨ae,ne,ce,rfl,bu⟩:=hF.rowe.shape'
 clear hp hm he hlen hF
 obtain⟨W2,bg⟩:∃ W2,Hid (W2=(w1.alloc (.cells #[.slice am nm cm,.slice ae ne ce] 25)).alloc (.cells #[.int .i64 0,.int .i64 0] 50)):=⟨_,rfl⟩
 have bn:Below w1.heap.size w1 W2:=by rw[bg.out];exact((Below.refl _ _).alloc (Nat.le_refl _) _).alloc (by simp) _
 have hx2:W2.heap[w1.heap.size+1]?=some (.cells #[.int .i64 0,.int .i64 0] 50 (0,0)):=by rw[bg.out];exact A0i _ _ _
 have hz2:w1.heap.size+2≤W2.heap.size:=by rw[bg.out];simp
 have hlk:=L.link_any (hgr.below bn) D4k
 go_wp2_with fail
 rw[←bg.out]
 refine hlk.mono ?_
 rintro e w3 ⟨hb3,hx⟩
 rcases hx with⟨_,vm3,ve3,lm3,le3,rfl,hog,hm3,he3⟩|⟨hne,_⟩
 rotate_left
 ·rw[C7x] at hne;exact absurd rfl hne
 obtain⟨ag,au,aj,rfl,bt⟩:=hog.rowm.shape'
 obtain⟨ac,ak,ah,rfl,br⟩:=hog.rowe.shape'
 have a8:∀ V:World,(∀ k,W2.heap.size≤k→k < w3.heap.size→V.heap[k]?=w3.heap[k]?)→L.GRd V (.slice ag au aj) (.slice ac ak ah) A2b:=fun V hV=>by
  have h:=(hog.keep hV).rd
  rw[hm3,he3,show(⟨(L.linkL (toG B2j)).msgs,(toG B2j).enums⟩:L.GI)=A2b from by rw[D5p];rfl] at h
  exact h
 have a8:Hid (∀ V:World,(∀ k,W2.heap.size≤k→k < w3.heap.size→V.heap[k]?=w3.heap[k]?)→L.GRd V (.slice ag au aj) (.slice ac ak ah) A2b):=a8
 obtain⟨W4,bh⟩:∃ W4,Hid (W4=w3.alloc (.cells #[.slice ag au aj,.slice ac ak ah] 25)):=⟨_,rfl⟩
 have bl:Below w3.heap.size w3 W4:=by rw[bh.out];exact(Below.refl _ _).alloc (Nat.le_refl _) _
 have hz3:=hb3.size
 have hz1:=hb.size
 have y4:W4.heap[w3.heap.size]?=some (.cells #[.slice ag au aj,.slice ac ak ah] 25 (0,0)):=by rw[bh.out];exact heap_alloc_new _ _
 have y1:=(bl.block (w1.heap.size+1) (by omega)).trans ((hb3.block (w1.heap.size+1) (by omega)).trans hx2)
 have y0:=(bl.block w.heap.size (by omega)).trans ((hb3.block w.heap.size (by omega)).trans ((bn.block w.heap.size (by omega)).trans ((hb.block w.heap.size (by omega)).trans x1)))
 have bp:Below w.heap.size w W4:=hb1.trans ((hb.trans ((bn.trans ((hb3.trans (bl.mono hb3.size)).mono (by omega))).mono (by omega))).mono (by omega))
 obtain⟨c0,c1⟩:=A0t y1
 have f0:=A0b y1 0
 have f1:=A0b y1 1
 rw[bh.out] at c0 c1 f0 f1
 clear hlk hm3 he3 hog
 go_upto_region 5 with fail
 rw[←bh.out]
 obtain⟨W5,bk⟩:∃ W5,Hid (W5=(W4.setCell ⟨w1.heap.size+1,0,none⟩ (.int .i64 0)).setCell ⟨w1.heap.size+1,1,none⟩ (.int .i64 0)):=⟨_,rfl⟩
 have bq:Below w.heap.size w W5:=by rw[bk.out];exact L.KB_set (L.KB_set bp (by omega)) (by omega)
 have ba:∀ k,k≠w1.heap.size+1→W5.heap[k]?=W4.heap[k]?:=fun k hk=>by rw[bk.out];exact(Below.heap_setCell _ _ _ k hk).trans (Below.heap_setCell _ _ _ k hk)
 have x5:W5.heap[w1.heap.size+1]?=some (.cells #[.int .i64 0,.int .i64 0] 50 (0,0)):=by rw[bk.out];exact heap_setCell_same _ _ 1 _ _ _ (heap_setCell_same _ _ 0 _ _ _ y1)
 obtain⟨q0,q1⟩:=A0t ((ba w.heap.size (by omega)).trans y0)
 obtain⟨q2,q3⟩:=A0t ((ba w3.heap.size (by omega)).trans y4)
 obtain⟨q4,q5⟩:=A0t x5
 have g0:=A0b ((ba w.heap.size (by omega)).trans y0) 0
 have g1:=A0b ((ba w.heap.size (by omega)).trans y0) 1
 have n1:¬ w.heap.size=w1.heap.size+1:=by omega
 have n2:¬ w.heap.size=w3.heap.size:=by omega
 have n3:¬ w1.heap.size+1=w.heap.size:=by omega
 have n4:¬ w3.heap.size=w.heap.size:=by omega
 rw[←bk.out]
 clear c0 c1 f0 f1 y1 y0 y4
 have aw:L.GRd ((W5.drew.setCell ⟨w.heap.size,0,none⟩ (.slice ag au aj)).setCell ⟨w.heap.size,1,none⟩ (.slice ac ak ah)) (.slice ag au aj) (.slice ac ak ah) A2b∧Below w.heap.size w ((W5.drew.setCell ⟨w.heap.size,0,none⟩ (.slice ag au aj)).setCell ⟨w.heap.size,1,none⟩ (.slice ac ak ah)):=
  ⟨a8.out _ fun k h1 h2=>(Below.heap_setCell _ _ _ k (show k≠w.heap.size by omega)).trans ((Below.heap_setCell _ _ _ k (show k≠w.heap.size by omega)).trans ((ba k (by omega)).trans (bl.block k h2))),L.KB_set (L.KB_set bq.drew (Nat.le_refl _)) (Nat.le_refl _)⟩
 have aw:Hid (L.GRd ((W5.drew.setCell ⟨w.heap.size,0,none⟩ (.slice ag au aj)).setCell ⟨w.heap.size,1,none⟩ (.slice ac ak ah)) (.slice ag au aj) (.slice ac ak ah) A2b∧Below w.heap.size w ((W5.drew.setCell ⟨w.heap.size,0,none⟩ (.slice ag au aj)).setCell ⟨w.heap.size,1,none⟩ (.slice ac ak ah))):=aw
 go_region
 all_goals
  go_wp2
  refine bodyPost_ret (v:=.tuple #[.agg #[.slice ag au aj,.slice ac ak ah],.bool true]) (by simp[results,Tryz.results11,go_sem,q0,q1]) rfl ?_
  exact⟨_,_,_,_,_,_,rfl,aw.out⟩
end Go.Proofs.YtgaoojpakjjdnaaGreatDoor
namespace Go.Proofs.YtgaoojpakjjdnaaGreatDoor
namespace L
open Go.RowKit
set_option linter.unusedVariables false
def C3z:List UInt8:=[10,2,104,105,16,3,24,7]
def A5l:BO (BI 11):=⟨[⟨1,[],[[104,105]],[]⟩,⟨2,[18446744073709551614],[],[]⟩,⟨3,[7],[],[]⟩],[]⟩
theorem C1d:A6f A2b 0 C3z = .ok A5l:=by kernel_rfl
theorem B5d {w:World}{a b:Option Addr}{n c n' c':Nat}(hg:GRd w (.slice a n c) (.slice b n' c') A2b) (hT:Tabs w):WIn A2b a n c b n' c' 0 w:=⟨hg,by decide,by decide,C7w,C0s,hT,by decide,by decide⟩
theorem C0t:Hid (∀ M∈A2b.msgs,∀ x∈M.fields,x.many=false→x.kind=10→A8v A2b x):=fun M hM x hx hm hk=>absurd hk ((show ∀ M∈A2b.msgs,∀ x∈M.fields,x.many=false→¬ x.kind=10 by decide) M hM x hx hm)
theorem C4a:∀ v∈A5l.vals,VOk (BOk 11) v:=by
 intro v hv
 have hv:v=⟨1,[],[[104,105]],[]⟩∨v=⟨2,[18446744073709551614],[],[]⟩∨v=⟨3,[7],[],[]⟩:=by simpa [A5l] using hv
 rcases hv with rfl|rfl|rfl <;> refine⟨by unfold I64;decide,by decide,by unfold reachBytes;decide,?_,by unfold reachBytes;decide,fun s hs=>(List.not_mem_nil hs).elim,by unfold reachBytes;decide⟩
 ·intro l hl
  rw[List.mem_singleton.1 hl]
  unfold reachBytes
  decide
 ·intro l hl;exact(List.not_mem_nil hl).elim
 ·intro l hl;exact(List.not_mem_nil hl).elim
theorem D0w {w:World}{g n:Nat}{t:TypeId}{l:List UInt8}(hl:l.length=n) (hn:n≤1000000) (hx:w.heap[g]?=some (.cells (l.map fun b=>Value.int .u8 (b.toNat:Int)).toArray t (0,0))):RdL 1 YAt w (.slice (some ⟨g,0,none⟩) n n) l:=by
 refine⟨_,n,n,rfl,hl,Nat.le_refl _,by unfold maxLen;omega,(fun e=>by cases e),fun x ac k a ha=>?_⟩
 cases ac
 rw[A0d,Nat.zero_add,Nat.mul_one]
 exact A0a hx k _ (by simp[ha])
theorem D3g {w:World}{v0 v1:Value}(h:BRd 11 w v0 v1 A5l) :
  Calls Tryz.prog 18 #[.agg #[v0,v1],.int .i64 2] w fun e w'=>∃ (g c:Nat) (a2:Option Addr) (n2 c2:Nat) (a3:Option Addr) (n3 c3:Nat),e = .returned (.tuple #[.agg #[.int .i64 2,.slice (some ⟨g,0,none⟩) 1 c,.slice a2 n2 c2,.slice a3 n3 c3],.bool true])∧w'.cell? ⟨g,0,none⟩=some (.int .u64 18446744073709551614)∧Below w.heap.size w w':=by
 refine(B0y (B0:=0) (Nat.zero_le _) h C4a 2).mono ?_
 rintro e w' ⟨⟨hno,rfl⟩|⟨k,v,ak,hk2,hk3,y,q0,u1,v1,z1,u2,v2,z2,u3,v3,z3,ag,rfl,hpl,aj,_,_⟩,hb⟩
 ·exact absurd (hno ⟨2,[18446744073709551614],[],[]⟩ (by simp[A5l])) (by decide)
 ·have hk:k=1:=by
   have:A0l (fun v:VI (BI 11)=>decide (v.number=2)) A5l.vals=1:=by decide +kernel
   omega
  subst hk
  have hv:v=⟨2,[18446744073709551614],[],[]⟩:=by
   have:A5l.vals[1]?=some ⟨2,[18446744073709551614],[],[]⟩:=rfl
   rw[this] at hk2
   exact(Option.some.inj hk2).symm
  subst hv
  have h0 : [Value.int .i64 y.number,y.p1.v,y.p2.v,y.p3.v] = [.int .i64 q0,.slice u1 v1 z1,.slice u2 v2 z2,.slice u3 v3 z3]:=ag
  simp only[List.cons.injEq,and_true,Value.int.injEq,true_and] at h0
  obtain⟨e0,e1,e2,e3⟩:=h0
  have ah:q0=2:=by rw[←e0];exact congrArg VI.number hpl
  subst ah
  have ac:y.bits = [18446744073709551614]:=congrArg VI.bits hpl
  have hr:=aj.r1
  rw[e1,ac] at hr
  obtain rfl:v1=1:=hr.len
  obtain⟨g,rfl,hc⟩:=hr.get (k:=0) rfl
  have hc:=hc 0 _ rfl
  exact⟨g,z1,u2,v2,z2,u3,v3,z3,rfl,hc,hb⟩
theorem C4b {B:Nat}{w:World}(hg:Gl B w) (hB:B≤w.heap.size) (hT:Tabs w) :
  Calls Tryz.prog 7 #[] w fun e w'=>e = .returned (.bool true)∧Below w.heap.size w w':=by
 have hf:=B5x hg hB
 go_enter Tryz.func7,Tryz.ntmps7
 go_wp2_with fail
 refine hf.mono ?_
 rintro e w1 ⟨am,nm,cm,ae,ne,ce,rfl,hG,hb1⟩
 obtain⟨W3,ah⟩:∃ W3,Hid (W3=(w1.alloc (.cells #[.slice am nm cm,.slice ae ne ce] 25)).alloc (.cells #[.int .u8 10,.int .u8 2,.int .u8 104,.int .u8 105,.int .u8 16,.int .u8 3,.int .u8 24,.int .u8 7] 5)):=⟨_,rfl⟩
 have x3:W3.heap[w1.heap.size+1]?=some (.cells #[.int .u8 10,.int .u8 2,.int .u8 104,.int .u8 105,.int .u8 16,.int .u8 3,.int .u8 24,.int .u8 7] 5 (0,0)):=by rw[ah.out];exact A0i _ _ _
 have hb3:Below w1.heap.size w1 W3:=by rw[ah.out];exact((Below.refl _ _).alloc (Nat.le_refl _) _).alloc (by simp) _
 have ac:Below w.heap.size w W3:=KBT hb1 hb3
 have bg:Calls Tryz.prog 9 #[.agg #[.slice am nm cm,.slice ae ne ce],.int .i64 0,.slice (some ⟨w1.heap.size+1,0,none⟩) 8 8] W3 fun e w'=>∃ (i0:Option Addr) (l0:Nat) (i1:Option Addr) (j1 l1:Nat),e = .returned (.tuple #[.agg #[.slice i0 3 l0,.slice i1 j1 l1],.int .i64 0])∧Hid (BRd 11 w' (.slice i0 3 l0) (.slice i1 j1 l1) A5l)∧Below W3.heap.size W3 w':=by
  refine(B2x C0t (B5d (hG.below hb3) (hT.below ac)) (D0w (l:=C3z) rfl (by decide) x3)).mono ?_
  intro e w' ho
  rw[C1d] at ho
  obtain⟨c,i0,j0,l0,i1,j1,l1,h1,h2,h3,h4,_,h5⟩:=ho
  have h6:=OwnB.rd (show OwnB W3.heap.size (11+1) w' c from h4)
  have h7 : [PV.v (BL.q0 c),PV.v (BL.q1 c)] = [.slice i0 j0 l0,.slice i1 j1 l1]:=h1
  simp only[List.cons.injEq,and_true] at h7
  rw[h7.1,h7.2,show LB.pl (11+1) c=A5l from h3] at h6
  obtain rfl:j0=3:=h6.1.len.1
  exact⟨i0,l0,i1,j1,l1,h2,h6,h5⟩
 clear hf
 go_wp2_with fail
 rw[←ah.out]
 refine bg.mono ?_
 rintro e w4 ⟨i0,l0,i1,j1,l1,rfl,hR,hb4⟩
 obtain⟨W5,ag⟩:∃ W5,Hid (W5=w4.alloc (.cells #[.slice i0 3 l0,.slice i1 j1 l1] 29)):=⟨_,rfl⟩
 have x5:W5.heap[w4.heap.size]?=some (.cells #[.slice i0 3 l0,.slice i1 j1 l1] 29 (0,0)):=by rw[ag.out];exact heap_alloc_new _ _
 have ba:Below w4.heap.size w4 W5:=by rw[ag.out];exact(Below.refl _ _).alloc (Nat.le_refl _) _
 have z5:w4.heap.size+1≤W5.heap.size:=by rw[ag.out];simp
 have bc:=D3g (hR.out.below ba)
 have aw:Below w.heap.size w W5:=KBT (KBT ac hb4) ba
 clear bg
 go_wp2_with fail
 rw[←ag.out]
 refine bc.mono ?_
 rintro e w6 ⟨g,c,a2,n2,c2,a3,n3,c3,rfl,hc,ak⟩
 obtain⟨W7,aj⟩:∃ W7,Hid (W7=w6.alloc (.cells #[.int .i64 2,.slice (some ⟨g,0,none⟩) 1 c,.slice a2 n2 c2,.slice a3 n3 c3] 62)):=⟨_,rfl⟩
 have au:Below w6.heap.size w6 W7:=by rw[aj.out];exact(Below.refl _ _).alloc (Nat.le_refl _) _
 have bk:=ak.size
 obtain⟨y0,y1⟩:=A0t ((au.block _ (by omega)).trans ((ak.block _ (by omega)).trans x5))
 have bh:=A0c au hc
 have a8:Below w.heap.size w W7:=KBT (KBT aw ak) au
 rw[aj.out] at y0 y1 bh
 have hwr:wrap64 18446744073709551614 = -2:=by decide +kernel
 clear bc hc
 go_wp2_with fail
 rw[←aj.out]
 go_ret
 exact⟨rfl,a8⟩
end L
end Go.Proofs.YtgaoojpakjjdnaaGreatDoor
