import Derived.Test.YthcomdofaaeihaaGreatDoorV16
set_option maxHeartbeats 32000000
set_option maxRecDepth 100000
namespace Go.Proofs.YthcomdofaaeihaaGreatDoor
namespace L
open Go.RowKit
def dD (b:Nat):List Ru:=[⟨7,159,#[.pointer (some ⟨b+6,0,none⟩)]⟩,⟨3,160,#[]⟩,⟨8,162,#[.pointer (some ⟨b+1,0,none⟩),.pointer (some ⟨b+7,0,none⟩)]⟩,⟨1,164,#[]⟩,⟨6,165,#[.pointer (some ⟨b,0,none⟩)]⟩,⟨8,167,#[]⟩,⟨2,169,#[.pointer (some ⟨b+8,0,none⟩)]⟩]
def aQ (b:Nat):Value:=.func (.func 199) #[] #[.pointer (some ⟨b+4,0,none⟩),.pointer (some ⟨b+5,0,none⟩)]
def dJ (b:Nat)(vm ve nm vf vb:Value):List Obj:=[.cells #[vm,ve] 25,.cells #[nm,vf,vb] 35,.cells #[.slice none 0 0] 85,.cells #[.slice none 0 0] 33,.cells #[.int .i64 0] 3,.cells #[.int .i64 0] 3,.cells #[.func (.func 152) #[] #[.pointer (some ⟨b+2,0,none⟩)]] 101,.cells #[.func (.func 198) #[] #[.pointer (some ⟨b+3,0,none⟩)]] 149,.cells #[aQ b] 149,.cells (kW (dD b)) 204]
theorem B3o (a1 a2 a3 a4:Option Addr)(n1 n2 n3 n4 c1 c2 c3 c4:Nat)(s:List UInt8)(w:World):Calls Tryz.prog 96 #[.agg #[.slice a1 n1 c1,.slice a2 n2 c2],.agg #[.string (S s),.slice a3 n3 c3,.slice a4 n4 c4]] w fun e w'=>e = .returned (.slice (some ⟨w.heap.size+9,0,none⟩) 7 7)∧pQ w (dJ w.heap.size (.slice a1 n1 c1) (.slice a2 n2 c2) (.string (S s)) (.slice a3 n3 c3) (.slice a4 n4 c4))=w':=by
 have ac:=tM;go_enter Tryz.func96,Tryz.ntmps96;go_wp2_with fail
 refine(SD _).mono ?_;rintro e w1 ⟨rfl,rfl⟩;go_wp2_with fail
 refine(B4a _).mono ?_;rintro e w1 ⟨rfl,rfl⟩;go_wp2_with fail
 refine(D8m _).mono ?_;rintro e w1 ⟨rfl,rfl⟩;go_wp2;go_ret;exact⟨rfl,rfl⟩
structure Mem where
 names:List (List UInt8)
 nums:List Int
 last:Int
 begun:Int
structure KSt (w0 W:World) (B b:Nat) (a1 a2 a3 a4:Option Addr) (n1 n2 n3 n4 c1 c2 c3 c4:Nat) (nm:List UInt8) (s:Mem):Prop where
 names:SSt W B (b+2) (b+6) s.names
 nums:NSt W B (b+3) (b+7) s.nums
 last:W.heap[b+4]?=some (.cells #[.int .i64 s.last] 3 (0,0))
 begun:W.heap[b+5]?=some (.cells #[.int .i64 s.begun] 3 (0,0))
 mis:W.heap[b+8]?=some (.cells #[aQ b] 149 (0,0))
 file:W.heap[b]?=some (.cells #[.slice a1 n1 c1,.slice a2 n2 c2] 25 (0,0))
 msg:W.heap[b+1]?=some (.cells #[.string (S nm),.slice a3 n3 c3,.slice a4 n4 c4] 35 (0,0))
 lt:b+9<B
 size:B≤W.heap.size
 base:b=w0.heap.size
 bel:Below b w0 W
section
variable {w0 W W':World}{B b:Nat}{a1 a2 a3 a4:Option Addr}{n1 n2 n3 n4 c1 c2 c3 c4:Nat}{nm:List UInt8}{s:Mem}
theorem KSt.bL (h:KSt w0 W B b a1 a2 a3 a4 n1 n2 n3 n4 c1 c2 c3 c4 nm s)(hb:zB W W'):KSt w0 W' B b a1 a2 a3 a4 n1 n2 n3 n4 c1 c2 c3 c4 nm s:=by
 have k:∀ {i o},W.heap[i]?=some o→W'.heap[i]?=some o:=fun {i o} hi=>(hb.block i (zR hi)).trans hi
 have hl:=h.lt;have hs:=h.size;exact⟨h.names.bL hb,h.nums.bL hb,k h.last,k h.begun,k h.mis,k h.file,k h.msg,h.lt,yN h.size hb.size,h.base,h.bel.trans (hb.mono (by omega))⟩
theorem KSt.setS {l:List (List UInt8)}(h:KSt w0 W B b a1 a2 a3 a4 n1 n2 n3 n4 c1 c2 c3 c4 nm s)(hS:SSt W' B (b+2) (b+6) l)(hF:FrT 9 B (b+2) W W'):KSt w0 W' B b a1 a2 a3 a4 n1 n2 n3 n4 c1 c2 c3 c4 nm ⟨l,s.nums,s.last,s.begun⟩:=by
 have hl:=h.lt;have hs:=h.size;exact⟨hS,h.nums.frt hF (by omega) (by omega) (by omega) (by omega),rP hF h.last (by omega) (by omega),rP hF h.begun (by omega) (by omega),rP hF h.mis (by omega) (by omega),rP hF h.file (by omega) (by omega),rP hF h.msg (by omega) (by omega),hl,yN hs hF.size,h.base,h.bel.trans ⟨hF.os,hF.tape,hF.output,hF.size,fun k hk=>hF.block k (by omega) (by omega) (.inl (by omega))⟩⟩
theorem KSt.setN {l:List Int}(h:KSt w0 W B b a1 a2 a3 a4 n1 n2 n3 n4 c1 c2 c3 c4 nm s)(hS:NSt W' B (b+3) (b+7) l)(hF:FrT 3 B (b+3) W W'):KSt w0 W' B b a1 a2 a3 a4 n1 n2 n3 n4 c1 c2 c3 c4 nm ⟨s.names,l,s.last,s.begun⟩:=by
 have hl:=h.lt;have hs:=h.size;exact⟨h.names.frt hF (by omega) (by omega) (by omega) (by omega),hS,rP hF h.last (by omega) (by omega),rP hF h.begun (by omega) (by omega),rP hF h.mis (by omega) (by omega),rP hF h.file (by omega) (by omega),rP hF h.msg (by omega) (by omega),hl,yN hs hF.size,h.base,h.bel.trans ⟨hF.os,hF.tape,hF.output,hF.size,fun k hk=>hF.block k (by omega) (by omega) (.inl (by omega))⟩⟩
theorem Row.same {α:Type}{E:EK α}{v:Value}{l:List α}(h:Row E W B v l)(hk:∀ k,B≤k→W'.heap[k]?=W.heap[k]?):Row E W' B v l:=by
 refine⟨h.1,?_⟩;rcases h.2 with hn|⟨g,cap,cur,hv,hbg,hg,r⟩
 ·exact .inl hn
 exact .inr ⟨g,cap,cur,hv,hbg,by rw[hk g hbg];exact hg,r⟩
theorem KSt.setM {x y:Int}(h:KSt w0 W B b a1 a2 a3 a4 n1 n2 n3 n4 c1 c2 c3 c4 nm s)(h1:W'.heap[b+4]?=some (.cells #[.int .i64 x] 3 (0,0)))(h2:W'.heap[b+5]?=some (.cells #[.int .i64 y] 3 (0,0)))(hk:∀ k,¬ k=b+4→¬ k=b+5→W'.heap[k]?=W.heap[k]?)(hz:W'.heap.size=W.heap.size)(ho:W'.os=W.os)(ht:W'.tape=W.tape)(hu:W'.output=W.output):KSt w0 W' B b a1 a2 a3 a4 n1 n2 n3 n4 c1 c2 c3 c4 nm ⟨s.names,s.nums,x,y⟩:=by
 have hl:=h.lt;have hs:=h.size;obtain⟨⟨v1,r1,r2⟩,r3,r4⟩:=h.names;obtain⟨⟨v2,q1,q2⟩,q3,q4⟩:=h.nums;refine⟨⟨⟨v1,(hk _ (by omega) (by omega)).trans r1,r2.same fun k hb=>hk k (by omega) (by omega)⟩,(hk _ (by omega) (by omega)).trans r3,r4⟩,⟨⟨v2,(hk _ (by omega) (by omega)).trans q1,q2.same fun k hb=>hk k (by omega) (by omega)⟩,(hk _ (by omega) (by omega)).trans q3,q4⟩,h1,h2,(hk _ (by omega) (by omega)).trans h.mis,(hk _ (by omega) (by omega)).trans h.file,(hk _ (by omega) (by omega)).trans h.msg,hl,by omega,h.base,h.bel.trans ⟨ho,ht,hu,by omega,fun k hb=>hk k (by omega) (by omega)⟩⟩
end
variable{c4 n4 c2 c1 B c3 n1 n3 b n2:Nat}{a1 a3 a2 a4:Option Addr}{nm:List UInt8}{W w0:World}
def yV (g:GI)(bar:List Int):Nat→FI→Mem→Bool×Mem
 | 0,x,s=>(!sM x.name||decide (x.name∈s.names),⟨vM x.name s.names,s.nums,s.last,s.begun⟩)
 | 1,x,s=>(!qZ x.nU,s)
 | 2,x,s=>(decide (x.nU∈bar)||decide (x.nU∈s.nums),⟨s.names,vM x.nU s.nums,s.last,s.begun⟩)
 | 3,x,s=>(decide (x.kind<1)||decide (10<x.kind),s)
 | 4,x,s=>(!qO g x,s)
 | 5,x,s=>(pL x||(decide (0<x.cE)&&x.many),s)
 | _,x,s=>(uH s.last s.begun x.cE,⟨s.names,s.nums,x.cE,max s.begun x.cE⟩)
theorem C4k {s:Mem}(g:GI)(bar:List Int)(h:KSt w0 W B b a1 a2 a3 a4 n1 n2 n3 n4 c1 c2 c3 c4 nm s)(hl:s.names.length≤1000)(x:FI)(hx:x.name.length≤9223372036854775807) :
  Calls Tryz.prog 159 #[fv x,.pointer (some ⟨b+6,0,none⟩)] W fun e W'=>e = .returned (.bool (yV g bar 0 x s).1)∧((yV g bar 0 x s).1=false→KSt w0 W' B b a1 a2 a3 a4 n1 n2 n3 n4 c1 c2 c3 c4 nm (yV g bar 0 x s).2)∧Fr B [b+2,b+3,b+4,b+5] W W':=by
 obtain⟨W1,ag,aj,ak,-⟩:=zV W (.cells #[.string (S x.name),.int .i64 x.nU,.int .i64 x.kind,.string (S x.type),.bool x.many,.int .i64 x.cE] 47);obtain⟨x0,x1,x2,x3,x4,x5⟩:=tW ak;have h1:=h.bL aj;have hlt:=h.lt;have hsz:=h1.size;have ah:Fr B [b+2,b+3,b+4,b+5] W W1:=Fr.of_below aj;have c0:W1.cell? ⟨b+6,0,none⟩=some (.func (.func 152) #[] #[.pointer (some ⟨b+2,0,none⟩)]):=zL h1.names.fn 0 _ rfl;have ac:=TG x.name hx W1;have hcc:=h1.names.call2 hsz hl (by omega) (by omega) x.name;unfold fv;cases hq:sM x.name with
 | false=>
  have HN:Hid ((yV g bar 0 x s).1=true):=by show _=_;rw[yV,hq];rfl
  rw[hq] at ac;clear hq hcc;go_enter Tryz.func159,Tryz.ntmps159;go_wp2_with fail
  rw[←ag.out];refine ac.mono ?_;rintro e w1 ⟨rfl,rfl⟩;go_wp2;go_ret;refine⟨by rw[HN.out];rfl,fun e=>?_,ah⟩;rw[HN.out] at e;cases e
 | true=>
 have HN:Hid ((yV g bar 0 x s).1=decide (x.name∈s.names)):=by show _=_;rw[yV,hq];rfl
 rw[hq] at ac;clear hq;go_enter Tryz.func159,Tryz.ntmps159;go_wp2_with fail
 rw[←ag.out];refine ac.mono ?_;rintro e w1 ⟨rfl,rfl⟩;go_wp2_with fail
 refine hcc.mono ?_;rintro e w2 ⟨rfl,h2,hF⟩;go_wp2;go_ret;exact⟨by rw[HN.out];rfl,fun _=>h1.setS h2 hF,ah.trans (hF.fr (.inl rfl) (by simp))⟩
theorem C4l {s:Mem}(g:GI)(bar:List Int)(h:KSt w0 W B b a1 a2 a3 a4 n1 n2 n3 n4 c1 c2 c3 c4 nm s)(x:FI) :
  Calls Tryz.prog 160 #[fv x] W fun e W'=>e = .returned (.bool (yV g bar 1 x s).1)∧((yV g bar 1 x s).1=false→KSt w0 W' B b a1 a2 a3 a4 n1 n2 n3 n4 c1 c2 c3 c4 nm (yV g bar 1 x s).2)∧Fr B [b+2,b+3,b+4,b+5] W W':=by
 obtain⟨W1,ag,ac,aj,-⟩:=zV W (.cells #[.string (S x.name),.int .i64 x.nU,.int .i64 x.kind,.string (S x.type),.bool x.many,.int .i64 x.cE] 47);obtain⟨x0,x1,x2,x3,x4,x5⟩:=tW aj;have h1:=h.bL ac;have hlt:=h.lt;have hsz:=h1.size;have ah:Fr B [b+2,b+3,b+4,b+5] W W1:=Fr.of_below ac;have hcb:=D7t x.nU W1;unfold fv;have HN:Hid ((yV g bar 1 x s).1 = !qZ x.nU):=rfl;generalize qZ x.nU=q at hcb HN;go_enter Tryz.func160,Tryz.ntmps160;go_wp2_with fail
 rw[←ag.out];refine hcb.mono ?_;rintro e w1 ⟨rfl,rfl⟩;go_wp2;go_ret;exact⟨by rw[HN.out];rfl,fun _=>h1,ah⟩
theorem C4m {s:Mem}(g:GI)(bar:List Int)(h:KSt w0 W B b a1 a2 a3 a4 n1 n2 n3 n4 c1 c2 c3 c4 nm s)(hl:s.nums.length≤1000)(ah:RdL 1 NAt w0 (.slice a4 n4 c4) bar)(x:FI) :
  Calls Tryz.prog 162 #[fv x,.pointer (some ⟨b+1,0,none⟩),.pointer (some ⟨b+7,0,none⟩)] W fun e W'=>e = .returned (.bool (yV g bar 2 x s).1)∧((yV g bar 2 x s).1=false→KSt w0 W' B b a1 a2 a3 a4 n1 n2 n3 n4 c1 c2 c3 c4 nm (yV g bar 2 x s).2)∧Fr B [b+2,b+3,b+4,b+5] W W':=by
 obtain⟨W1,ag,ak,au,-⟩:=zV W (.cells #[.string (S x.name),.int .i64 x.nU,.int .i64 x.kind,.string (S x.type),.bool x.many,.int .i64 x.cE] 47);obtain⟨x0,x1,x2,x3,x4,x5⟩:=tW au;have h1:=h.bL ak;have hlt:=h.lt;have hsz:=h1.size;have aj:Fr B [b+2,b+3,b+4,b+5] W W1:=Fr.of_below ak;have c0:W1.cell? ⟨b+7,0,none⟩=some (.func (.func 198) #[] #[.pointer (some ⟨b+3,0,none⟩)]):=zL h1.nums.fn 0 _ rfl;obtain⟨_,_,m2⟩:=uG h1.msg;rw[ag.out] at m2;have ac:=SK (ah.bL NAt.sT (h.base▸h1.bel)) x.nU;have hcc:=h1.nums.call2 hsz hl (by omega) (by omega) x.nU;unfold fv;cases hq:decide (x.nU∈bar) with
 | true=>
  have HN:Hid ((yV g bar 2 x s).1=true):=by show _=_;rw[yV,hq];rfl
  rw[hq] at ac;clear hq hcc;go_enter Tryz.func162,Tryz.ntmps162;go_wp2_with fail
  rw[←ag.out];refine ac.mono ?_;rintro e w1 ⟨rfl,rfl⟩;go_wp2;go_ret;refine⟨by rw[HN.out];rfl,fun e=>?_,aj⟩;rw[HN.out] at e;cases e
 | false=>
 have HN:Hid ((yV g bar 2 x s).1=decide (x.nU∈s.nums)):=by show _=_;rw[yV,hq];rfl
 rw[hq] at ac;clear hq;go_enter Tryz.func162,Tryz.ntmps162;go_wp2_with fail
 rw[←ag.out];refine ac.mono ?_;rintro e w1 ⟨rfl,rfl⟩;go_wp2_with fail
 refine hcc.mono ?_;rintro e w2 ⟨rfl,h2,hF⟩;go_wp2;go_ret;exact⟨by rw[HN.out];rfl,fun _=>h1.setN h2 hF,aj.trans (hF.fr (.inr rfl) (by simp))⟩
theorem C4n {s:Mem}(g:GI)(bar:List Int)(h:KSt w0 W B b a1 a2 a3 a4 n1 n2 n3 n4 c1 c2 c3 c4 nm s)(x:FI) :
  Calls Tryz.prog 164 #[fv x] W fun e W'=>e = .returned (.bool (yV g bar 3 x s).1)∧((yV g bar 3 x s).1=false→KSt w0 W' B b a1 a2 a3 a4 n1 n2 n3 n4 c1 c2 c3 c4 nm (yV g bar 3 x s).2)∧Fr B [b+2,b+3,b+4,b+5] W W':=by
 obtain⟨W1,aj,ac,au,-⟩:=zV W (.cells #[.string (S x.name),.int .i64 x.nU,.int .i64 x.kind,.string (S x.type),.bool x.many,.int .i64 x.cE] 47);obtain⟨x0,x1,x2,x3,x4,x5⟩:=tW au;have h1:=h.bL ac;have hlt:=h.lt;have hsz:=h1.size;have ak:Fr B [b+2,b+3,b+4,b+5] W W1:=Fr.of_below ac;unfold fv;obtain⟨q1,ag⟩:∃ q,decide (x.kind<1)=q:=⟨_,rfl⟩
 obtain⟨q2,ah⟩:∃ q,decide (10<x.kind)=q:=⟨_,rfl⟩
 have HN:Hid ((yV g bar 3 x s).1=(q1||q2)):=by show _=_;rw[yV,ag,ah]
 cases q1 <;> cases q2
 all_goals simp only[decide_eq_true_eq,uZ] at ag ah
 all_goals first|(exfalso;omega)|skip
 all_goals go_enter Tryz.func164,Tryz.ntmps164
 all_goals go_wp2
 all_goals rw[←aj.out]
 all_goals go_ret
 all_goals exact⟨by rw[HN.out];rfl,fun _=>h1,ak⟩
theorem Qh5{P:Prop}(h:P:=by
 refine ac.mono ?_;rintro e w1 ⟨rfl,hb1⟩;go_wp2;go_ret;exact⟨by rw[HN.out];rfl,fun _=>h1.bL hb1,aj.trans (Fr.of_below hb1)⟩):P:=h
theorem C4o {s:Mem}(g:GI)(bar:List Int)(h:KSt w0 W B b a1 a2 a3 a4 n1 n2 n3 n4 c1 c2 c3 c4 nm s)(hg:GRd w0 (.slice a1 n1 c1) (.slice a2 n2 c2) g)(x:FI) :
  Calls Tryz.prog 165 #[fv x,.pointer (some ⟨b,0,none⟩)] W fun e W'=>e = .returned (.bool (yV g bar 4 x s).1)∧((yV g bar 4 x s).1=false→KSt w0 W' B b a1 a2 a3 a4 n1 n2 n3 n4 c1 c2 c3 c4 nm (yV g bar 4 x s).2)∧Fr B [b+2,b+3,b+4,b+5] W W':=by
 obtain⟨W1,ag,ah,ak,-⟩:=zV W (.cells #[.string (S x.name),.int .i64 x.nU,.int .i64 x.kind,.string (S x.type),.bool x.many,.int .i64 x.cE] 47);obtain⟨x0,x1,x2,x3,x4,x5⟩:=tW ak;have h1:=h.bL ah;have hlt:=h.lt;have hsz:=h1.size;have aj:Fr B [b+2,b+3,b+4,b+5] W W1:=Fr.of_below ah;obtain⟨f0,f1⟩:=zO h1.file;rw[ag.out] at f0 f1;have ac:=C0g (hg.bL (h.base▸h1.bel)) x;unfold fv at ac;unfold fv;have HN:Hid ((yV g bar 4 x s).1 = !qO g x):=rfl;generalize qO g x=q at ac HN;go_enter Tryz.func165,Tryz.ntmps165;go_wp2_with fail
 rw[←ag.out];exact Qh5
theorem C4p {s:Mem}(g:GI)(bar:List Int)(h:KSt w0 W B b a1 a2 a3 a4 n1 n2 n3 n4 c1 c2 c3 c4 nm s)(x:FI) :
  Calls Tryz.prog 167 #[fv x] W fun e W'=>e = .returned (.bool (yV g bar 5 x s).1)∧((yV g bar 5 x s).1=false→KSt w0 W' B b a1 a2 a3 a4 n1 n2 n3 n4 c1 c2 c3 c4 nm (yV g bar 5 x s).2)∧Fr B [b+2,b+3,b+4,b+5] W W':=by
 obtain⟨W1,ah,au,ag,-⟩:=zV W (.cells #[.string (S x.name),.int .i64 x.nU,.int .i64 x.kind,.string (S x.type),.bool x.many,.int .i64 x.cE] 47);obtain⟨x0,x1,x2,x3,x4,x5⟩:=tW ag;have h1:=h.bL au;have hlt:=h.lt;have hsz:=h1.size;have aj:Fr B [b+2,b+3,b+4,b+5] W W1:=Fr.of_below au;have ac:=B8c x W1;unfold fv at ac;unfold fv;have HN:Hid ((yV g bar 5 x s).1=(pL x||(decide (0<x.cE)&&x.many))):=rfl;generalize pL x=q at ac HN;cases q with
 | true=>
  go_enter Tryz.func167,Tryz.ntmps167;go_wp2_with fail
  rw[←ah.out];exact Qh5
 | false=>
 obtain⟨q1,av⟩:∃ q,decide (0<x.cE)=q:=⟨_,rfl⟩
 rw[av] at HN;have ak:=fun w1 (hb:zB W1 w1)=>(hb.block _ (zR ag)).trans ag
 cases q1
 all_goals simp only[decide_eq_true_eq,uZ] at av
 all_goals go_enter Tryz.func167,Tryz.ntmps167
 all_goals go_wp2_with fail
 all_goals rw[←ah.out]
 all_goals refine ac.mono ?_
 all_goals rintro e w1 ⟨rfl,hb1⟩
 all_goals obtain⟨y0,y1,y2,y3,y4,y5⟩:=tW (ak w1 hb1)
 all_goals clear ak
 all_goals go_wp2
 all_goals go_ret
 all_goals exact⟨by rw[HN.out];rfl,fun _=>h1.bL hb1,aj.trans (Fr.of_below hb1)⟩
theorem C4q {s:Mem}(g:GI)(bar:List Int)(h:KSt w0 W B b a1 a2 a3 a4 n1 n2 n3 n4 c1 c2 c3 c4 nm s)(hb0:0≤s.begun)(hb1:s.begun≤1000000)(x:FI) :
  Calls Tryz.prog 169 #[fv x,.pointer (some ⟨b+8,0,none⟩)] W fun e W'=>e = .returned (.bool (yV g bar 6 x s).1)∧((yV g bar 6 x s).1=false→KSt w0 W' B b a1 a2 a3 a4 n1 n2 n3 n4 c1 c2 c3 c4 nm (yV g bar 6 x s).2)∧Fr B [b+2,b+3,b+4,b+5] W W':=by
 obtain⟨W1,ac,ag,aj,-⟩:=zV W (.cells #[.string (S x.name),.int .i64 x.nU,.int .i64 x.kind,.string (S x.type),.bool x.many,.int .i64 x.cE] 47);obtain⟨x0,x1,x2,x3,x4,x5⟩:=tW aj;have h1:=h.bL ag;have hlt:=h.lt;have hsz:=h1.size;have ah:Fr B [b+2,b+3,b+4,b+5] W W1:=Fr.of_below ag;have c0:W1.cell? ⟨b+8,0,none⟩=some (aQ b):=zL h1.mis 0 _ rfl;have hcc:=D4j h1.last h1.begun (by omega) hb0 hb1 x.cE;unfold aQ at c0;rw[ac.out] at c0;unfold fv;have HN:Hid ((yV g bar 6 x s).1=uH s.last s.begun x.cE):=rfl;go_enter Tryz.func169,Tryz.ntmps169;go_wp2_with fail
 rw[←ac.out];refine hcc.mono ?_;rintro e w2 ⟨rfl,k1,k2,k3,k4,k5,k6,k7⟩;have hF2:Fr B [b+2,b+3,b+4,b+5] W1 w2:=⟨k5,k6,k7,by omega,fun k hk hc _=>k3 k (fun e=>hc (by simp[e])) (fun e=>hc (by simp[e]))⟩
 have HK:Hid ((yV g bar 6 x s).1=false→KSt w0 w2 B b a1 a2 a3 a4 n1 n2 n3 n4 c1 c2 c3 c4 nm (yV g bar 6 x s).2):=by
  intro e;have e':uH s.last s.begun x.cE=false:=e;rw[e'] at k1 k2;exact h1.setM k1 k2 k3 k4 k5 k6 k7
 clear k1 k2 k3 k4 k5 k6 k7;go_wp2;go_ret;exact⟨by rw[HN.out];rfl,HK.out,ah.trans hF2⟩
end L
end Go.Proofs.YthcomdofaaeihaaGreatDoor
