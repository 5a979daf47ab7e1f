import Derived.Test.YtgaoojpakjjdnaaGreatDoorRows
import Derived.Test.YtgaoojpakjjdnaaGreatDoorV46
import Derived.Test.YtgaoojpakjjdnaaGreatDoorV31
import Derived.Lib.LaidU8T
import Derived.Below
set_option maxHeartbeats 32000000
set_option maxRecDepth 100000
set_option linter.unusedVariables false
namespace Go.Proofs.YtgaoojpakjjdnaaGreatDoor
open Go.RowKit
theorem B9h {P:Program}{w w':World}{n:String}{cs:Array Value}(hb:Below w.heap.size w w')(h:w.var? P n=some cs):w'.var? P n=some cs:=by
 unfold World.var? at h ⊢
 cases hg:P.globalNamed n with
 | none=>rw[hg] at h;cases h
 | some g=>
  rw[hg] at h
  simp only[Option.bind_some] at h ⊢
  by_cases hlt:g<w.heap.size
  ·rw[hb.block g hlt];exact h
  ·rw[Array.getElem?_eq_none (by omega)] at h;cases h
theorem B6a {P:Program}{w:World}{fuel:Nat}{t:TypeId}{cs:List Value}{m:String}{d:DataW Unit}{p:List MemPlace}{ms}(ht:P.underlying t=some (.interface ms))(h:DataW.trod (fun _=>()) P w 0 (fun _=>true) false fuel t cs=some (.iface m d,p)):∃ u v,cs = [.iface u v]:=by
 cases fuel with
 | zero=>simp[DataW.trod] at h
 | succ fuel=>
  simp only[DataW.trod,ht] at h
  split at h <;> first|(rename_i hh;cases hh;done)|skip
  all_goals first|exact⟨_,_,rfl⟩|(simp at h;done)
theorem D8v : (Tryz.prog.globalNamed "internal/strconv.uint64pow10").bind (fun g => (Tryz.prog.globals[g]?).map (·.type)) = some 325 := by kernel_rfl
theorem D8u : (Tryz.prog.globalNamed "strconv.ErrRange").bind (fun g => (Tryz.prog.globals[g]?).map (·.type)) = some 295 := by kernel_rfl
theorem D9d:Tryz.prog.underlying 325=some (.array 20 63):=by kernel_rfl
theorem D9c:∃ ms,Tryz.prog.underlying 295=some (.interface ms):=⟨_,Tryz.underlying295⟩
theorem D2g:(Rows.laid_internal_strconv_uint64pow10:DataW Unit)=Lib.tabData .u64 Lib.pow10Tab:=by rfl
def D9b:Shelf.Ren:=⟨fun x=>x,fun x=>if x=119 then 236 else if x=138 then 238 else if x=139 then 239 else if x=5 then 5 else x,fun x=>if x=3 then 0 else if x=4 then 1 else x⟩
theorem C4x:(Rows.laid_unicode_utf8_first:DataW Unit)=Lib.firstData:=by kernel_rfl
theorem C0p:(Rows.laid_unicode_utf8_acceptRanges:DataW Unit)=Lib.acceptData:=by kernel_rfl
theorem D3t {W:World}(h:laidMet Tryz.prog Rows.topDeepRow.laid W):L.Tabs W:=by
 have h3:=Lib.laidMet.reads h (.tail _ (.tail _ (.tail _ (.tail _ (.tail _ (.tail _ (.head _)))))))
 have h4:=Lib.laidMet.reads h (.tail _ (.tail _ (.tail _ (.head _))))
 rw[C4x] at h3
 rw[C0p] at h4
 exact utf8Tabs_of_readsT (ρ:=D9b) ⟨by kernel_rfl,by kernel_rfl,by kernel_rfl,by kernel_rfl⟩ ⟨by kernel_rfl,by kernel_rfl,by kernel_rfl,by kernel_rfl,by kernel_rfl,by kernel_rfl,by kernel_rfl⟩ h3 h4
theorem D7i {W:World}(h:laidMet Tryz.prog Rows.topDeepRow.laid W):Gl W.heap.size W:=by
 obtain⟨ps,⟨g1,t1,cs1,ak,p1,q1,hg1,df,bh,cg,⟨g2,t2,bt,au,p2,q2,hg2,dg,bk,cj,⟨g3,t3,bu,aw,p3,q3,hg3,bq,ac,bg,⟨g5,t5,bw,bc,p5,q5,cw,dh,bn,cu,⟨g4,t4,bv,ba,p4,q4,hg4,br,ag,bp,_,_⟩,_⟩,_⟩,_⟩,_⟩,_⟩:=h
 have e3:=D8v
 rw[hg3] at e3
 simp only[Option.bind_some] at e3
 obtain rfl:=Option.some.inj (bq.symm.trans e3)
 have e4:=D8u
 rw[hg4] at e4
 simp only[Option.bind_some] at e4
 obtain rfl:=Option.some.inj (br.symm.trans e4)
 obtain⟨ms,hu⟩:=D9c
 obtain⟨u,v,aj⟩:=B6a hu bp
 rw[D2g] at bg
 have ah:=Lib.cells_of_tab D9d Tryz.underlying63 (by kernel_rfl) (by kernel_rfl) bg
 intro w' hb
 refine⟨⟨u,v,?_⟩,?_⟩
 ·rw[B9h hb ag,←aj]
 ·show w'.var? _ _=_
  rw[B9h hb ac,←ah]
end Go.Proofs.YtgaoojpakjjdnaaGreatDoor
namespace Go.Proofs.YtgaoojpakjjdnaaGreatDoor
open Go.RowKit
def toF (f:Fld):L.FI:=⟨f.name,f.number,f.kind,f.type,f.many,f.choice⟩
def toM (m:Msg):L.MI:=⟨m.name,m.fields.map toF,m.barred.map fun n:Nat=>(n:Int)⟩
def toI (i:Itm):L.II:=⟨i.name,i.value⟩
def toE (e:Enm):L.EI:=⟨e.name,e.items.map toI⟩
def toG (f:Fil):L.GI:=⟨f.msgs.map toM,f.enums.map toE⟩
theorem A9u {α β:Type}{E:EK α}{F:L.EK β}{w:World}{base:Nat}{v:Value}{l:List α}(t : α→β)(h:Row E w base v l)(he:E.elem=F.elem)(hs:E.size=F.size)(ac:∀ a,F.enc (t a)=E.enc a):L.Row F w base v (l.map t):=by
 have hf:F.flat (l.map t)=E.flat l:=by
  unfold L.EK.flat EK.flat
  rw[List.flatMap_map]
  exact congrArg (fun f=>l.flatMap f) (funext ac)
 unfold Row at h
 unfold L.Row
 rw[hf,List.length_map,←he,←hs]
 exact h
theorem FilR.ownG {w:World}{base:Nat}{vm ve:Value}{lm:List (Msg×SV×SV)}{le:List (Enm×SV)}(h:FilR w base vm ve lm le):L.OwnG w base vm ve (lm.map fun p=>(toM p.1,p.2)) (le.map fun p=>(toE p.1,p.2)):=by
 refine⟨A9u _ h.rowm rfl rfl (fun _=>rfl),A9u _ h.rowe rfl rfl (fun _=>rfl),?_,?_⟩
 ·intro p hp
  obtain⟨q,hq,rfl⟩:=List.mem_map.1 hp
  exact⟨A9u toF (h.ms q hq).1 rfl rfl (fun _=>rfl),A9u (fun n:Nat=>(n:Int)) (h.ms q hq).2 rfl rfl (fun _=>rfl)⟩
 ·intro p hp
  obtain⟨q,hq,rfl⟩:=List.mem_map.1 hp
  exact A9u toI (h.es q hq) rfl rfl (fun _=>rfl)
theorem FilR.grd {w:World}{base:Nat}{vm ve:Value}{lm:List (Msg×SV×SV)}{le:List (Enm×SV)}(h:FilR w base vm ve lm le){f:Fil}(hm:lm.map Prod.fst=f.msgs)(he:le.map Prod.fst=f.enums):L.GRd w vm ve (toG f):=by
 have:=h.ownG.rd
 have e1:(lm.map fun p=>(toM p.1,p.2)).map Prod.fst=f.msgs.map toM:=by rw[←hm,List.map_map,List.map_map];rfl
 have e2:(le.map fun p=>(toE p.1,p.2)).map Prod.fst=f.enums.map toE:=by rw[←he,List.map_map,List.map_map];rfl
 rw[e1,e2] at this
 exact this
end Go.Proofs.YtgaoojpakjjdnaaGreatDoor
namespace Go.Proofs.YtgaoojpakjjdnaaGreatDoor
open Go.RowKit
def D6s:List UInt8:=[101,110,117,109,32,82,111,108,101,32,123,32,110,111,110,101,32,61,32,48,59,32,97,100,109,105,110,32,61,32,55,59,32,125,32,109,101,115,115,97,103,101,32,85,115,101,114,32,123,32,115,116,114,105,110,103,32,110,97,109,101,32,61,32,49,59,32,115,105,110,116,54,52,32,115,99,111,114,101,32,61,32,50,59,32,82,111,108,101,32,114,111,108,101,32,61,32,51,59,32,114,101,112,101,97,116,101,100,32,85,115,101,114,32,102,114,105,101,110,100,115,32,61,32,52,59,32,111,110,101,111,102,32,123,32,98,121,116,101,115,32,107,101,121,32,61,32,53,59,32,98,111,111,108,32,111,112,101,110,32,61,32,54,59,32,125,32,125]
def B4c:Fil:=⟨[⟨[85,115,101,114],[⟨[110,97,109,101],1,8,[],false,0⟩,⟨[115,99,111,114,101],2,2,[],false,0⟩,⟨[114,111,108,101],3,10,[82,111,108,101],false,0⟩,⟨[102,114,105,101,110,100,115],4,10,[85,115,101,114],true,0⟩,⟨[107,101,121],5,9,[],false,1⟩,⟨[111,112,101,110],6,4,[],false,1⟩],[]⟩],[⟨[82,111,108,101],[⟨[110,111,110,101],0⟩,⟨[97,100,109,105,110],7⟩]⟩]⟩
def A6s:L.GI:=⟨[⟨[85,115,101,114],[⟨[110,97,109,101],1,8,[],false,0⟩,⟨[115,99,111,114,101],2,2,[],false,0⟩,⟨[114,111,108,101],3,5,[82,111,108,101],false,0⟩,⟨[102,114,105,101,110,100,115],4,10,[85,115,101,114],true,0⟩,⟨[107,101,121],5,9,[],false,1⟩,⟨[111,112,101,110],6,4,[],false,1⟩],[]⟩],[⟨[82,111,108,101],[⟨[110,111,110,101],0⟩,⟨[97,100,109,105,110],7⟩]⟩]⟩
theorem B5c:A7e 400 D6s = .ok (B4c,[]):=by kernel_rfl
theorem D0j:L.wrongL (L.linkL (toG B4c))=(0,0):=by decide +kernel
theorem D8a:L.linkL (toG B4c)=A6s:=by kernel_rfl
theorem D6t:L.GOk (toG B4c):=by
 have hr:reachBytes=140737488351232:=rfl
 refine⟨?_,?_,?_,?_⟩
 ·intro m hm
  simp[toG,B4c,toM,toF] at hm
  subst hm
  refine⟨?_,?_,?_,?_,?_⟩
  ·simp[maxLen]
  ·intro f hf
   simp at hf
   rcases hf with rfl|rfl|rfl|rfl|rfl|rfl <;> simp[L.FOk,L.I64,maxLen]
  ·intro n hn;simp at hn
  ·simp[hr]
  ·simp[hr]
 ·intro e he
  simp[toG,B4c,toE,toI] at he
  subst he
  refine⟨by simp[maxLen],?_,by simp[hr]⟩
  intro f hf
  simp at hf
  rcases hf with rfl|rfl <;> simp[L.TOk,L.I64,maxLen]
 ·simp[toG,B4c,hr]
 ·simp[toG,B4c,hr]
theorem D0i:L.Fits A6s:=by
 refine⟨fun m hm=>?_,fun e he=>?_⟩
 ·simp only[A6s,List.mem_singleton] at hm
  subst hm
  refine⟨by decide,fun f hf=>?_⟩
  simp only[List.mem_cons,List.mem_nil_iff,or_false] at hf
  rcases hf with rfl|rfl|rfl|rfl|rfl|rfl <;> decide
 ·simp only[A6s,List.mem_singleton] at he
  subst he
  decide
theorem D3y:∀ M∈A6s.msgs,(∀ f∈M.fields,L.I64 f.number∧L.I64 f.choice)∧M.fields.length≤140737488355328:=by
 intro M hM
 simp only[A6s,List.mem_singleton] at hM
 subst hM
 refine⟨fun f hf=>?_,by decide⟩
 simp only[List.mem_cons,List.mem_nil_iff,or_false] at hf
 rcases hf with rfl|rfl|rfl|rfl|rfl|rfl <;> (unfold L.I64;decide)
theorem C7i {B:Nat}{w:World}(hg:Gl B w)(hB:B≤w.heap.size) :
  Calls Tryz.prog 11 #[.string (S D6s)] w fun e w'=>∃ am nm cm ae ne ce,e = .returned (.tuple #[.agg #[.slice am nm cm,.slice ae ne ce],.bool true])∧L.GRd w' (.slice am nm cm) (.slice ae ne ce) A6s∧Below w.heap.size w w':=by
 obtain⟨W1,bg⟩:∃ W1,Hid (W1=w.alloc (.cells #[.slice none 0 0,.slice none 0 0] 25)):=⟨_,rfl⟩
 have hb1:Below w.heap.size w W1:=by rw[bg.out];exact(Below.refl _ _).alloc (Nat.le_refl _) _
 have x1:W1.heap[w.heap.size]?=some (.cells #[.slice none 0 0,.slice none 0 0] 25 (0,0)):=by rw[bg.out];exact heap_alloc_new _ _
 have z1:w.heap.size+1≤W1.heap.size:=by rw[bg.out];simp
 have hp:=C6i D6s (by decide) (hg.later (hb1.mono hB)) (Nat.le_trans hB hb1.size) 400 (by decide) (by rw[B5c];intro h;cases h)
 rw[B5c] at hp
 go_enter Tryz.func11,Tryz.ntmps11
 go_wp2_with fail
 rw[←bg.out]
 refine hp.mono ?_
 rintro e w1 ⟨hb,vm,ve,lm,le,rfl,hF,hm,he,hlen⟩
 have hgr:=hF.grd hm he
 obtain⟨am,nm,cm,rfl,cg⟩:=hF.rowm.shape'
 obtain⟨ae,ne,ce,rfl,bw⟩:=hF.rowe.shape'
 clear hp hm he hlen hF
 obtain⟨W2,bh⟩:∃ W2,Hid (W2=(w1.alloc (.cells #[.slice am nm cm,.slice ae ne ce] 25)).alloc (.cells #[.int .i64 0,.int .i64 0] 50)):=⟨_,rfl⟩
 have bq:Below w1.heap.size w1 W2:=by rw[bh.out];exact((Below.refl _ _).alloc (Nat.le_refl _) _).alloc (by simp) _
 have hx2:W2.heap[w1.heap.size+1]?=some (.cells #[.int .i64 0,.int .i64 0] 50 (0,0)):=by rw[bh.out];exact A0j _ _ _
 have hz2:w1.heap.size+2≤W2.heap.size:=by rw[bh.out];simp
 have hlk:=L.link_any (hgr.below bq) D6t
 go_wp2_with fail
 rw[←bh.out]
 refine hlk.mono ?_
 rintro e w3 ⟨hb3,hx⟩
 rcases hx with⟨_,vm3,ve3,lm3,le3,rfl,hog,hm3,he3⟩|⟨hne,_⟩
 rotate_left
 ·rw[D0j] at hne;exact absurd rfl hne
 obtain⟨ag,au,aj,rfl,bv⟩:=hog.rowm.shape'
 obtain⟨ac,ak,ah,rfl,bu⟩:=hog.rowe.shape'
 have ba:∀ V:World,(∀ k,W2.heap.size≤k→k<w3.heap.size→V.heap[k]?=w3.heap[k]?)→L.GRd V (.slice ag au aj) (.slice ac ak ah) A6s:=fun V hV=>by
  have h:=(hog.keep hV).rd
  rw[hm3,he3,show(⟨(L.linkL (toG B4c)).msgs,(toG B4c).enums⟩:L.GI)=A6s from by rw[D8a];rfl] at h
  exact h
 have ba:Hid (∀ V:World,(∀ k,W2.heap.size≤k→k<w3.heap.size→V.heap[k]?=w3.heap[k]?)→L.GRd V (.slice ag au aj) (.slice ac ak ah) A6s):=ba
 obtain⟨W4,bk⟩:∃ W4,Hid (W4=w3.alloc (.cells #[.slice ag au aj,.slice ac ak ah] 25)):=⟨_,rfl⟩
 have bp:Below w3.heap.size w3 W4:=by rw[bk.out];exact(Below.refl _ _).alloc (Nat.le_refl _) _
 have hz3:=hb3.size
 have hz1:=hb.size
 have y4:W4.heap[w3.heap.size]?=some (.cells #[.slice ag au aj,.slice ac ak ah] 25 (0,0)):=by rw[bk.out];exact heap_alloc_new _ _
 have y1:=(bp.block (w1.heap.size+1) (by omega)).trans ((hb3.block (w1.heap.size+1) (by omega)).trans hx2)
 have y0:=(bp.block w.heap.size (by omega)).trans ((hb3.block w.heap.size (by omega)).trans ((bq.block w.heap.size (by omega)).trans ((hb.block w.heap.size (by omega)).trans x1)))
 have br:Below w.heap.size w W4:=hb1.trans ((hb.trans ((bq.trans ((hb3.trans (bp.mono hb3.size)).mono (by omega))).mono (by omega))).mono (by omega))
 obtain⟨c0,c1⟩:=A0y y1
 have f0:=A0b y1 0
 have f1:=A0b y1 1
 rw[bk.out] at c0 c1 f0 f1
 clear hlk hm3 he3 hog
 go_upto_region 5 with fail
 rw[←bk.out]
 obtain⟨W5,bn⟩:∃ W5,Hid (W5=(W4.setCell ⟨w1.heap.size+1,0,none⟩ (.int .i64 0)).setCell ⟨w1.heap.size+1,1,none⟩ (.int .i64 0)):=⟨_,rfl⟩
 have bt:Below w.heap.size w W5:=by rw[bn.out];exact L.KB_set (L.KB_set br (by omega)) (by omega)
 have bc:∀ k,k≠w1.heap.size+1→W5.heap[k]?=W4.heap[k]?:=fun k hk=>by rw[bn.out];exact(Below.heap_setCell _ _ _ k hk).trans (Below.heap_setCell _ _ _ k hk)
 have x5:W5.heap[w1.heap.size+1]?=some (.cells #[.int .i64 0,.int .i64 0] 50 (0,0)):=by rw[bn.out];exact heap_setCell_same _ _ 1 _ _ _ (heap_setCell_same _ _ 0 _ _ _ y1)
 obtain⟨q0,q1⟩:=A0y ((bc w.heap.size (by omega)).trans y0)
 obtain⟨q2,q3⟩:=A0y ((bc w3.heap.size (by omega)).trans y4)
 obtain⟨q4,q5⟩:=A0y x5
 have g0:=A0b ((bc w.heap.size (by omega)).trans y0) 0
 have g1:=A0b ((bc w.heap.size (by omega)).trans y0) 1
 have n1:¬ w.heap.size=w1.heap.size+1:=by omega
 have n2:¬ w.heap.size=w3.heap.size:=by omega
 have n3:¬ w1.heap.size+1=w.heap.size:=by omega
 have n4:¬ w3.heap.size=w.heap.size:=by omega
 rw[←bn.out]
 clear c0 c1 f0 f1 y1 y0 y4
 have aw:L.GRd ((W5.drew.setCell ⟨w.heap.size,0,none⟩ (.slice ag au aj)).setCell ⟨w.heap.size,1,none⟩ (.slice ac ak ah)) (.slice ag au aj) (.slice ac ak ah) A6s∧Below w.heap.size w ((W5.drew.setCell ⟨w.heap.size,0,none⟩ (.slice ag au aj)).setCell ⟨w.heap.size,1,none⟩ (.slice ac ak ah)):=
  ⟨ba.out _ fun k h1 h2=>(Below.heap_setCell _ _ _ k (show k≠w.heap.size by omega)).trans ((Below.heap_setCell _ _ _ k (show k≠w.heap.size by omega)).trans ((bc k (by omega)).trans (bp.block k h2))),L.KB_set (L.KB_set bt.drew (Nat.le_refl _)) (Nat.le_refl _)⟩
 have aw:Hid (L.GRd ((W5.drew.setCell ⟨w.heap.size,0,none⟩ (.slice ag au aj)).setCell ⟨w.heap.size,1,none⟩ (.slice ac ak ah)) (.slice ag au aj) (.slice ac ak ah) A6s∧Below w.heap.size w ((W5.drew.setCell ⟨w.heap.size,0,none⟩ (.slice ag au aj)).setCell ⟨w.heap.size,1,none⟩ (.slice ac ak ah))):=aw
 go_region
 all_goals
  go_wp2
  refine bodyPost_ret (v:=.tuple #[.agg #[.slice ag au aj,.slice ac ak ah],.bool true]) (by simp[results,Tryz.results11,go_sem,q0,q1]) rfl ?_
  exact⟨_,_,_,_,_,_,rfl,aw.out⟩
end Go.Proofs.YtgaoojpakjjdnaaGreatDoor
namespace Go.Proofs.YtgaoojpakjjdnaaGreatDoor
namespace L
open Go.RowKit
def C6m:List UInt8:=[10,2,104,105,16,3,24,7]
def A6f:BO (BI 11):=⟨[⟨1,[],[[104,105]],[]⟩,⟨2,[18446744073709551614],[],[]⟩,⟨3,[7],[],[]⟩],[]⟩
theorem C3k:A6a A6s 0 C6m = .ok A6f:=by kernel_rfl
theorem D4a {w:World}{a b:Option Addr}{n c n' c':Nat}(hg:GRd w (.slice a n c) (.slice b n' c') A6s)(hT:Tabs w):WIn A6s a n c b n' c' 0 w:=⟨hg,by decide,by decide,D0i,D3y,hT,by decide,by decide⟩
theorem D3z:Hid (∀ M∈A6s.msgs,∀ x∈M.fields,x.many=false→x.kind=10→A8e A6s x):=fun M hM x hx hm hk=>absurd hk ((show ∀ M∈A6s.msgs,∀ x∈M.fields,x.many=false→¬ x.kind=10 by decide) M hM x hx hm)
theorem C6n:∀ v∈A6f.vals,VOk (BOk 11) v:=by
 intro v hv
 have hv:v=⟨1,[],[[104,105]],[]⟩∨v=⟨2,[18446744073709551614],[],[]⟩∨v=⟨3,[7],[],[]⟩:=by simpa [A6f] using hv
 rcases hv with rfl|rfl|rfl <;> refine⟨by unfold I64;decide,by decide,by unfold reachBytes;decide,?_,by unfold reachBytes;decide,fun s hs=>(List.not_mem_nil hs).elim,by unfold reachBytes;decide⟩
 ·intro l hl
  rw[List.mem_singleton.1 hl]
  unfold reachBytes
  decide
 ·intro l hl;exact(List.not_mem_nil hl).elim
 ·intro l hl;exact(List.not_mem_nil hl).elim
theorem D3g {w:World}{g n:Nat}{t:TypeId}{l:List UInt8}(hl:l.length=n)(hn:n≤1000000)(hx:w.heap[g]?=some (.cells (l.map fun b=>Value.int .u8 (b.toNat:Int)).toArray t (0,0))):RdL 1 YAt w (.slice (some ⟨g,0,none⟩) n n) l:=by
 refine⟨_,n,n,rfl,hl,Nat.le_refl _,by unfold maxLen;omega,(fun e=>by cases e),fun x ac k a ha=>?_⟩
 cases ac
 rw[A0e,Nat.zero_add,Nat.mul_one]
 exact A0a hx k _ (by simp[ha])
theorem D5s {w:World}{v0 v1:Value}(h:BRd 11 w v0 v1 A6f) :
  Calls Tryz.prog 18 #[.agg #[v0,v1],.int .i64 2] w fun e w'=>∃ (g c:Nat) (a2:Option Addr) (n2 c2:Nat) (a3:Option Addr) (n3 c3:Nat),e = .returned (.tuple #[.agg #[.int .i64 2,.slice (some ⟨g,0,none⟩) 1 c,.slice a2 n2 c2,.slice a3 n3 c3],.bool true])∧w'.cell? ⟨g,0,none⟩=some (.int .u64 18446744073709551614)∧Below w.heap.size w w':=by
 refine(B5t (B0:=0) (Nat.zero_le _) h C6n 2).mono ?_
 rintro e w' ⟨⟨hno,rfl⟩|⟨k,v,ak,hk2,hk3,y,q0,u1,v1,z1,u2,v2,z2,u3,v3,z3,ag,rfl,hpl,aj,_,_⟩,hb⟩
 ·exact absurd (hno ⟨2,[18446744073709551614],[],[]⟩ (by simp[A6f])) (by decide)
 ·have hk:k=1:=by
   have:A0k (fun v:VI (BI 11)=>decide (v.number=2)) A6f.vals=1:=by decide +kernel
   omega
  subst hk
  have hv:v=⟨2,[18446744073709551614],[],[]⟩:=by
   have:A6f.vals[1]?=some ⟨2,[18446744073709551614],[],[]⟩:=rfl
   rw[this] at hk2
   exact(Option.some.inj hk2).symm
  subst hv
  have h0 : [Value.int .i64 y.number,y.p1.v,y.p2.v,y.p3.v] = [.int .i64 q0,.slice u1 v1 z1,.slice u2 v2 z2,.slice u3 v3 z3]:=ag
  simp only[List.cons.injEq,and_true,Value.int.injEq,true_and] at h0
  obtain⟨e0,e1,e2,e3⟩:=h0
  have ah:q0=2:=by rw[←e0];exact congrArg VI.number hpl
  subst ah
  have ac:y.bits = [18446744073709551614]:=congrArg VI.bits hpl
  have hr:=aj.r1
  rw[e1,ac] at hr
  obtain rfl:v1=1:=hr.len
  obtain⟨g,rfl,hc⟩:=hr.get (k:=0) rfl
  have hc:=hc 0 _ rfl
  exact⟨g,z1,u2,v2,z2,u3,v3,z3,rfl,hc,hb⟩
theorem C6o {B:Nat}{w:World}(hg:Gl B w)(hB:B≤w.heap.size)(hT:Tabs w) :
  Calls Tryz.prog 7 #[] w fun e w'=>e = .returned (.bool true)∧Below w.heap.size w w':=by
 have hf:=C7i hg hB
 go_enter Tryz.func7,Tryz.ntmps7
 go_wp2_with fail
 refine hf.mono ?_
 rintro e w1 ⟨am,nm,cm,ae,ne,ce,rfl,hG,hb1⟩
 obtain⟨W3,ah⟩:∃ W3,Hid (W3=(w1.alloc (.cells #[.slice am nm cm,.slice ae ne ce] 25)).alloc (.cells #[.int .u8 10,.int .u8 2,.int .u8 104,.int .u8 105,.int .u8 16,.int .u8 3,.int .u8 24,.int .u8 7] 5)):=⟨_,rfl⟩
 have x3:W3.heap[w1.heap.size+1]?=some (.cells #[.int .u8 10,.int .u8 2,.int .u8 104,.int .u8 105,.int .u8 16,.int .u8 3,.int .u8 24,.int .u8 7] 5 (0,0)):=by rw[ah.out];exact A0j _ _ _
 have hb3:Below w1.heap.size w1 W3:=by rw[ah.out];exact((Below.refl _ _).alloc (Nat.le_refl _) _).alloc (by simp) _
 have ac:Below w.heap.size w W3:=KBT hb1 hb3
 have bh:Calls Tryz.prog 9 #[.agg #[.slice am nm cm,.slice ae ne ce],.int .i64 0,.slice (some ⟨w1.heap.size+1,0,none⟩) 8 8] W3 fun e w'=>∃ (i0:Option Addr) (l0:Nat) (i1:Option Addr) (j1 l1:Nat),e = .returned (.tuple #[.agg #[.slice i0 3 l0,.slice i1 j1 l1],.int .i64 0])∧Hid (BRd 11 w' (.slice i0 3 l0) (.slice i1 j1 l1) A6f)∧Below W3.heap.size W3 w':=by
  refine(C5l D3z (D4a (hG.below hb3) (hT.below ac)) (D3g (l:=C6m) rfl (by decide) x3)).mono ?_
  intro e w' ho
  rw[C3k] at ho
  obtain⟨c,i0,j0,l0,i1,j1,l1,h1,h2,h3,h4,_,h5⟩:=ho
  have h6:=OwnB.rd (show OwnB W3.heap.size (11+1) w' c from h4)
  have h7 : [PV.v (BL.q0 c),PV.v (BL.q1 c)] = [.slice i0 j0 l0,.slice i1 j1 l1]:=h1
  simp only[List.cons.injEq,and_true] at h7
  rw[h7.1,h7.2,show LB.pl (11+1) c=A6f from h3] at h6
  obtain rfl:j0=3:=h6.1.len.1
  exact⟨i0,l0,i1,j1,l1,h2,h6,h5⟩
 clear hf
 go_wp2_with fail
 rw[←ah.out]
 refine bh.mono ?_
 rintro e w4 ⟨i0,l0,i1,j1,l1,rfl,hR,hb4⟩
 obtain⟨W5,ag⟩:∃ W5,Hid (W5=w4.alloc (.cells #[.slice i0 3 l0,.slice i1 j1 l1] 29)):=⟨_,rfl⟩
 have x5:W5.heap[w4.heap.size]?=some (.cells #[.slice i0 3 l0,.slice i1 j1 l1] 29 (0,0)):=by rw[ag.out];exact heap_alloc_new _ _
 have bc:Below w4.heap.size w4 W5:=by rw[ag.out];exact(Below.refl _ _).alloc (Nat.le_refl _) _
 have z5:w4.heap.size+1≤W5.heap.size:=by rw[ag.out];simp
 have bg:=D5s (hR.out.below bc)
 have aw:Below w.heap.size w W5:=KBT (KBT ac hb4) bc
 clear bh
 go_wp2_with fail
 rw[←ag.out]
 refine bg.mono ?_
 rintro e w6 ⟨g,c,a2,n2,c2,a3,n3,c3,rfl,hc,ak⟩
 obtain⟨W7,aj⟩:∃ W7,Hid (W7=w6.alloc (.cells #[.int .i64 2,.slice (some ⟨g,0,none⟩) 1 c,.slice a2 n2 c2,.slice a3 n3 c3] 62)):=⟨_,rfl⟩
 have au:Below w6.heap.size w6 W7:=by rw[aj.out];exact(Below.refl _ _).alloc (Nat.le_refl _) _
 have bn:=ak.size
 obtain⟨y0,y1⟩:=A0y ((au.block _ (by omega)).trans ((ak.block _ (by omega)).trans x5))
 have bk:=A0c au hc
 have ba:Below w.heap.size w W7:=KBT (KBT aw ak) au
 rw[aj.out] at y0 y1 bk
 have hwr:wrap64 18446744073709551614 = -2:=by decide +kernel
 clear bg hc
 go_wp2_with fail
 rw[←aj.out]
 go_ret
 exact⟨rfl,ba⟩
end L
end Go.Proofs.YtgaoojpakjjdnaaGreatDoor
