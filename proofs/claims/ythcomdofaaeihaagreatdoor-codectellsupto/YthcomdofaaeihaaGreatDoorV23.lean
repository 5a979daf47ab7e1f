import Derived.Test.YthcomdofaaeihaaGreatDoorV16
import Derived.Deep.CutBlock
set_option maxHeartbeats 32000000
set_option maxRecDepth 100000
set_option linter.unusedVariables false
namespace Go.Proofs.YthcomdofaaeihaaGreatDoor
namespace L
open Go.RowKit
variable{α:Type}{g:Nat}{w:World}
def kO {α:Type}(E:EK α)(w:World)(ao:Option Addr)(n cap:Nat)(l:List α):Prop:=l.length=n∧(ao=none→n=0∧cap=0)∧∀ ad,ao=some ad→∀ k y,l[k]?=some y→∀ j u,(E.enc y)[j]?=some u→w.cell? (ad.add (k*E.size+j))=some u
theorem D1h {n cap D:Nat}{l:List Int}(h:RdL 1 NAt w (.slice (some ⟨g,0,none⟩) n cap) l):kO ekN w (some ⟨g,D,none⟩) (n-D) (cap-D) (l.drop D):=by
 obtain⟨h1,_,h3⟩:=h.srcN;refine⟨by rw[vE,h1],(fun e=>by cases e),fun ad had k y hy j u hu=>?_⟩;cases had
 rw[jX] at hy;have:=h3 _ rfl (D+k) y hy j u hu;rw[xS] at this ⊢;have e:0+((D+k)*ekN.size+j)=D+(k*ekN.size+j):=by rw[show ekN.size=1 from rfl];omega
 rw[e] at this;exact this
theorem B8w (E:EK α)(w:World):kO E w none 0 0 []:=⟨rfl,fun _=>⟨rfl,rfl⟩,fun _ h=>by cases h⟩
theorem D5p (E:EK α)(w:World)(a:Addr)(c:Nat):kO E w (some a) 0 c []:=⟨rfl,(fun e=>by cases e),fun _ _ k y hy=>by simp at hy⟩
theorem Row.empR (E:EK α){base:Nat}(hb:base≤g)(h:w.heap[g]?=some (.cells #[] E.elem (0,0))):Row E w base (.slice (some ⟨g,0,none⟩) 0 0) []:=
 ⟨by simp[EK.flat],.inr ⟨g,0,#[],rfl,hb,h,zG _,by unfold maxLen;omega,by simp,by simp[EK.flat]⟩⟩
theorem qS {W V V':World}{B:Nat}{r:Option Nat}(h:Below B W V)(hB:B≤W.heap.size)(hg:V.grownBy V' r)(hr:∀ k,r=some k→B≤k):Below B W V':=h.grown hg (yN hB h.size) hr
theorem UF (E:EK α){y : α}(h:w.heap[g]?=some (.cells (E.enc y).toArray E.elem (0,0))):∀ ad,some (⟨g,0,none⟩:Addr)=some ad→∀ k z,[y][k]?=some z→∀ j u,(E.enc z)[j]?=some u→w.cell? (ad.add (k*E.size+j))=some u:=by
 intro ad had k z hz j u hu;cases had
 cases k with
 | succ k=>simp at hz
 | zero=>
 have:y=z:=by simpa using hz
 subst this;rw[xS,jZ,tU,tU];exact zL h j _ (by simpa using hu)
theorem Qj3{P:Prop}(h:P:=by
 have bh:=zK dm dg;clear ac aj ba ah aw cg;go_wp2_with fail
 go_roundg (n1-(k+1))
 case measure=>omega
 case rel=>exact⟨k+1,a9,n9,c9,_,by omega,by go_num,rfl,bk,dt,HF,bh⟩):P:=h
theorem B8t {nm:List UInt8}{vf vb:Value}{m:MI}(h:RdL 6 FAt w vf m.fD)(fh:∃ ao n cap,vb = .slice ao n cap)(hl:m.fD.length≤3000000000000) :
  Calls Tryz.prog 7 #[.agg #[.string (S nm),vf,vb]] w fun e w'=>∃ ao n cap,e = .returned (.slice ao n cap)∧Row ekN w' w.heap.size (.slice ao n cap) (lC m)∧zB w w':=by
 obtain⟨a1,n1,c1,rfl,H1,_⟩:=h.sH;obtain⟨a2,n2,c2,rfl⟩:=fh;have gc:n1≤3000000000000:=by rw[H1.out];exact hl
 obtain⟨W0,ei,hb0,-,-⟩:=zV w (.cells #[.string (S nm),.slice a1 n1 c1,.slice a2 n2 c2] 35);obtain⟨R,HR⟩:=yP (pK [] (m.fD.drop 0));have HN:Hid (lC m=R):=by show _=_;rw[←HR.out,←D8o];rfl
 rw[HN.out];go_enter Tryz.func7,Tryz.ntmps7;go_wp2_with fail
 rw[←ei.out];go_loopg [3,10] n1 (fun g u i wr=>∃ (k:Nat) (ao:Option Addr) (no co:Nat) (acc:List Int),k+g=n1∧i = .int .i64 k∧u = .slice ao no co∧Row ekN wr w.heap.size (.slice ao no co) acc∧acc.length≤k∧Hid (pK acc (m.fD.drop k)=R)∧zB w wr)
 case atStart=>exact⟨0,none,0,0,[],by omega,rfl,rfl,Row.nil _ _ _,by simp,HR,hb0⟩
 obtain⟨k,ao,no,co,acc,hk,rfl,rfl,hr,dx,HK,hb⟩:=hrel;obtain⟨wo,ew⟩:∃ wo,wo=wr:=⟨_,rfl⟩
 subst ew;have hno:=hr.len;have dl:=zI hno;have gg:no≤k:=by rw[hno];exact dx
 clear hno;by_cases hlt:k<n1
 ·obtain⟨f,Hf⟩:=yE (l:=m.fD) (k:=k) (by rw[←H1.out];exact hlt);obtain⟨b,off,rfl,hat⟩:=(h.bL FAt.sT hb).get FAt.plain Hf.out;obtain⟨s0,s1,s2,s3,s4,s5⟩:=hat.at;have f9:(k:Int)<(n1:Int):=by omega
  have HS:=C5i Hf.out acc;obtain⟨D,HD⟩:=yP (rT f.nU acc acc.length);rw[HD.out] at HS;have hDl:D≤no:=by rw[←HD.out,dl.out];exact UO _ _ _
  have eh:Hid (rT f.nU acc no=D):=by show _=_;rw[dl.out];exact HD.out
  obtain⟨W1,eo,hb1,x1,hz1⟩:=zV wo (.cells #[.string (S f.name),.int .i64 f.nU,.int .i64 f.kind,.string (S f.type),.bool f.many,.int .i64 f.cE] 47);have hr1:=hr.bL hb1;clear hat;go_upto_block 2 with fail;rw[←eo.out];clear s0 s1 s2 s3 s4 s5 hr;go_cut [6] from 16 to 29 (fun s6 wc=>s6 = .int .i64 (D:Int)∧zB W1 wc)
  case first=>
   go_wp2_with fail
   go_loopg [6] no (fun g i wi=>∃ (a:Nat),a≤g∧i = .int .i64 (a:Int)∧a≤no∧Hid (rT f.nU acc a=D)∧zB W1 wi)
   case atStart=>exact⟨no,zG _,rfl,zG _,eh,zH _ _⟩
   obtain⟨a,fu,rfl,fw,HA,dh⟩:=hrel;obtain⟨t0,t1,t2,t3,t4,t5⟩:=tW ((zN dh).trans x1);have fe:=hr1.bL dh;by_cases ha0:a=0
   ·subst ha0;have dn:D=0:=by rw[←HA.out];rfl
    subst dn;go_wp2_with fail
    go_quiet (fail);go_wp2_with fail
    go_meet;exact⟨rfl,ZZ dh _⟩
   obtain⟨i,rfl⟩:∃ i,a=i+1:=⟨a-1,by omega⟩
   obtain⟨y,Hy⟩:=yE (l:=acc) (k:=i) (by rw[←dl.out];omega);obtain⟨g,og,rfl,d9⟩:=fe.rdN.get NAt.plain Hy.out;have u0:wr.cell? ⟨g,og+i,none⟩=some (.int .i64 y):=by simpa [NAt] using d9
   have cj:=HA.out;rw[rT,Hy.out] at cj;simp only at cj;have f6:(i:Int)<(no:Int):=by omega
   have fy:(0:Int)<(i:Int)+1:=by omega
   have fz:0<i+1:=by omega
   clear d9 ha0;by_cases hxy:f.nU<y
   ·rw[zF hxy] at cj;have ee:=zI cj;clear cj HA;go_wp2_with fail
    go_quiet (fail);go_wp2_with fail
    go_roundg i
    case measure=>omega
    case rel=>exact⟨i,zG _,by go_num,by omega,ee,ZZ dh _⟩
   rw[zC hxy] at cj;have fd:Hid (((i:Int)+1)=(D:Int)):=by show _=_;omega
   clear cj HA;go_wp2_with fail
   go_quiet (fail);go_wp2_with fail
   go_meet;exact⟨by rw[←fd.out],ZZ dh _⟩
  obtain⟨rfl,dy⟩:=hcut;have df:=hr1.bL dy;have fq:(D:Int)≤(no:Int):=by omega
  have xc:=(zN dy).trans x1;obtain⟨t0,t1,t2,t3,t4,t5⟩:=tW xc;have HF:Hid (pK (qX f.nU acc D) (m.fD.drop (k+1))=R):=by show _=_;rw[←HK.out,HS]
  have dt:(qX f.nU acc D).length≤k+1:=by have:=(C2f f.nU acc D).length_eq;rw[sQ] at this;omega
  have dm:=zK hb (zK hb1 dy);have dv:=dm.size;obtain⟨W,eu⟩:∃ W,W=wc:=⟨_,rfl⟩
  subst eu;have fj:=(zR xc)
  have bn:∀ o,zB W (W.alloc o).drew:=fun o=>((zH _ _).alloc (zG _) o).drew
  have au:∀ o o',zB W ((W.alloc o).alloc o').drew:=fun o o'=>(((zH _ _).alloc (zG _) o).alloc (by simp) o').drew
  have cw:=fun V (hV:zB W V)=>zQ hV t1
  have dp:∀ (V:World) (o:Obj) (n c:Nat),((W.alloc o).alloc (.cells #[.int .i64 f.nU] 3)).drew.grownBy V (Value.slice (some ⟨W.heap.size,0,none⟩) n c).ownBlock→V.heap[W.heap.size+1]?=some (.cells #[.int .i64 f.nU] 3 (0,0)):=fun V o n c hV=>(hV.block (W.heap.size+1) (by show _<((W.alloc o).alloc _).heap.size;simp) (by simp[Value.ownBlock])).trans (pX W o _)
  have dr:∀ (V:World) (o:Obj) (n c:Nat),((W.alloc (.cells #[.int .i64 f.nU] 3)).alloc o).drew.grownBy V (Value.slice (some ⟨W.heap.size+1,0,none⟩) n c).ownBlock→V.heap[W.heap.size]?=some (.cells #[.int .i64 f.nU] 3 (0,0)):=fun V o n c hV=>(hV.block W.heap.size (by show _<((W.alloc _).alloc o).heap.size;simp;omega) (by simp[Value.ownBlock])).trans (oP W _ o)
  have bc:(([]:List Int).length+(acc.take D).length)*ekN.bytes≤140737488355328:=by simp only[rH,vZ,show ekN.bytes=8 from rfl];omega
  have bg:(([]++acc.take D).length + [f.nU].length)*ekN.bytes≤140737488355328:=by simp only[tH,sQ,rH,vZ,show ekN.bytes=8 from rfl];omega
  have cu:(([]++acc.take D++[f.nU]).length+(acc.drop D).length)*ekN.bytes≤140737488355328:=by simp only[tH,yQ,sQ,rH,vZ,vE,show ekN.bytes=8 from rfl];omega
  have hrt:=df.short hDl;rcases df.2 with⟨hv,hn⟩|⟨g,cap,cur,hv,hbg,hg,hnc,hmx,hsz,htk0⟩
  ·cases hv
   have dn:D=0:=by omega
   subst dn;have dw:=uE hn;have ak:∀ V,zB W V→kO ekN V none 0 0 (acc.take 0):=fun V _=>by rw[dw];exact B8w ekN V
   have bl:∀ V,zB W V→kO ekN V none 0 0 (acc.drop 0):=fun V _=>by rw[dw];exact B8w ekN V
   clear hn dw hrt df;go_wp2_with fail
   go_region_law (first
    | (refine vS (by rfl) ekN _ _ (by rfl) W.heap.size (.slice (some ⟨W.heap.size,0,none⟩) 0 0) [] (acc.take 0) (by rfl) (Row.empR ekN (zG _) (by first|exact yM W _|exact oP W _ _)) none 0 0 (by rfl) (ak W (zH _ _)).1 (ak W (zH _ _)).2.1 (ak _ (by first|exact bn _|exact au _ _)).2.2 (by decide) bc (Below.size (by first|exact bn _|exact au _ _)) ?_;intro v5 w5 ac ah;obtain⟨a5,n5,c5,rfl,H5⟩:=ac.shape';have ag:zB W w5:=qS (by first|exact bn _|exact au _ _) (zG _) ah (fun k hk=>by simp[Value.ownBlock] at hk;omega);have p1:=cw w5 ag;first|have bu:=dp _ _ _ _ ah|skip)
    | (refine vS (by rfl) ekN _ _ (by rfl) W.heap.size (.slice (some ⟨W.heap.size+1,0,none⟩) 0 0) [] (acc.take 0) (by rfl) (Row.empR ekN (oU _) (pX W _ _)) none 0 0 (by rfl) (ak W (zH _ _)).1 (ak W (zH _ _)).2.1 (ak _ (au _ _)).2.2 (by decide) bc (Below.size (au _ _)) ?_;intro v5 w5 ac ah;obtain⟨a5,n5,c5,rfl,H5⟩:=ac.shape';have ag:zB W w5:=qS (au _ _) (zG _) ah (fun k hk=>by simp[Value.ownBlock] at hk;omega);have p1:=cw w5 ag;have bu:=dr _ _ _ _ ah)
    | (refine vS (by rfl) ekN _ _ (by rfl) W.heap.size (.slice a5 n5 c5) ([]++acc.take 0) [f.nU] (by rfl) (ac.bL ((zH _ _).alloc (zG _) _)) (some ⟨w5.heap.size,0,none⟩) 1 1 (by rfl) rfl (fun h=>by cases h) (mL ekN w5 f.nU) (by decide) bg (by have:=ag.size;simp;omega) ?_;intro v7 w7 aj aw;obtain⟨a7,n7,c7,rfl,H7⟩:=aj.shape';have av:zB W w7:=qS (oO ag (zG _) _) (zG _) aw (fun k hk=>(ac.own k hk).1))
    | (refine vS (by rfl) ekN _ _ (by rfl) W.heap.size (.slice a5 n5 c5) ([]++acc.take 0) [f.nU] (by rfl) ac (some ⟨_,0,none⟩) 1 1 (by rfl) rfl (fun h=>by cases h) (UF ekN bu) (by decide) bg ag.size ?_;intro v7 w7 aj aw;obtain⟨a7,n7,c7,rfl,H7⟩:=aj.shape';have av:zB W w7:=qS ag (zG _) aw (fun k hk=>(ac.own k hk).1))
    | (refine vS (by rfl) ekN _ _ (by rfl) W.heap.size (.slice a7 n7 c7) ([]++acc.take 0++[f.nU]) (acc.drop 0) (by rfl) aj none 0 0 (by rfl) (bl W (zH _ _)).1 (bl W (zH _ _)).2.1 (bl w7 av).2.2 (by decide) cu av.size ?_;intro v9 w9 ba cg;obtain⟨a9,n9,c9,rfl,H9⟩:=ba.shape';have dg:zB W w9:=qS av (zG _) cg (fun k hk=>(aj.own k hk).1))
    | fail)
   all_goals
    have bk:Row ekN w9 w.heap.size (.slice a9 n9 c9) (qX f.nU acc 0):=by
     unfold qX;rw[tH] at ba;exact ba.mono dv
    exact Qj3
  have di:=dl.out;have dz:co=cap:=by cases hv;rfl
  have hao:ao=some ⟨g,0,none⟩:=by cases hv;rfl
  subst hao;have fk:D≤co:=by omega
  have ak:=fun V (hV:zB W V)=>(hrt.rdN.bL NAt.sT hV).srcN
  by_cases hcD:co=D
  ·subst hcD;have bl:∀ V,zB W V→kO ekN V (some ⟨g,0,none⟩) (no-co) 0 (acc.drop co):=fun V _=>by
    rw[nC (by omega),show no-co=0 by omega];exact D5p ekN V _ _
   clear hv di dz df hrt;go_wp2_with fail
   go_region_law (first
   | (refine vS (by rfl) ekN _ _ (by rfl) W.heap.size (.slice (some ⟨W.heap.size,0,none⟩) 0 0) [] (acc.take co) (by rfl) (Row.empR ekN (zG _) (by first|exact yM W _|exact oP W _ _)) (some ⟨g,0,none⟩) co co (by rfl) (ak W (zH _ _)).1 (ak W (zH _ _)).2.1 (ak _ (by first|exact bn _|exact au _ _)).2.2 (by decide) bc (Below.size (by first|exact bn _|exact au _ _)) ?_;intro v5 w5 ac ah;obtain⟨a5,n5,c5,rfl,H5⟩:=ac.shape';have ag:zB W w5:=qS (by first|exact bn _|exact au _ _) (zG _) ah (fun k hk=>by simp[Value.ownBlock] at hk;omega);have p1:=cw w5 ag;first|have bu:=dp _ _ _ _ ah|skip)
   | (refine vS (by rfl) ekN _ _ (by rfl) W.heap.size (.slice (some ⟨W.heap.size+1,0,none⟩) 0 0) [] (acc.take co) (by rfl) (Row.empR ekN (oU _) (pX W _ _)) (some ⟨g,0,none⟩) co co (by rfl) (ak W (zH _ _)).1 (ak W (zH _ _)).2.1 (ak _ (au _ _)).2.2 (by decide) bc (Below.size (au _ _)) ?_;intro v5 w5 ac ah;obtain⟨a5,n5,c5,rfl,H5⟩:=ac.shape';have ag:zB W w5:=qS (au _ _) (zG _) ah (fun k hk=>by simp[Value.ownBlock] at hk;omega);have p1:=cw w5 ag;have bu:=dr _ _ _ _ ah)
   | (refine vS (by rfl) ekN _ _ (by rfl) W.heap.size (.slice a5 n5 c5) ([]++acc.take co) [f.nU] (by rfl) (ac.bL ((zH _ _).alloc (zG _) _)) (some ⟨w5.heap.size,0,none⟩) 1 1 (by rfl) rfl (fun h=>by cases h) (mL ekN w5 f.nU) (by decide) bg (by have:=ag.size;simp;omega) ?_;intro v7 w7 aj aw;obtain⟨a7,n7,c7,rfl,H7⟩:=aj.shape';have av:zB W w7:=qS (oO ag (zG _) _) (zG _) aw (fun k hk=>(ac.own k hk).1))
   | (refine vS (by rfl) ekN _ _ (by rfl) W.heap.size (.slice a5 n5 c5) ([]++acc.take co) [f.nU] (by rfl) ac (some ⟨_,0,none⟩) 1 1 (by rfl) rfl (fun h=>by cases h) (UF ekN bu) (by decide) bg ag.size ?_;intro v7 w7 aj aw;obtain⟨a7,n7,c7,rfl,H7⟩:=aj.shape';have av:zB W w7:=qS ag (zG _) aw (fun k hk=>(ac.own k hk).1))
   | (refine vS (by rfl) ekN _ _ (by rfl) W.heap.size (.slice a7 n7 c7) ([]++acc.take co++[f.nU]) (acc.drop co) (by rfl) aj (some ⟨g,0,none⟩) (no-co) 0 (by rfl) (bl W (zH _ _)).1 (bl W (zH _ _)).2.1 (bl w7 av).2.2 (by decide) cu av.size ?_;intro v9 w9 ba cg;obtain⟨a9,n9,c9,rfl,H9⟩:=ba.shape';have dg:zB W w9:=qS av (zG _) cg (fun k hk=>(aj.own k hk).1))
   | fail)
   all_goals
    have bk:Row ekN w9 w.heap.size (.slice a9 n9 c9) (qX f.nU acc co):=by
     unfold qX;rw[tH] at ba;exact ba.mono dv
    exact Qj3
  have bl:=fun V (hV:zB W V)=>D1h (D:=D) (df.rdN.bL NAt.sT hV)
  clear hv di dz df hrt;go_wp2_with fail
  go_region_law (first
  | (refine vS (by rfl) ekN _ _ (by rfl) W.heap.size (.slice (some ⟨W.heap.size,0,none⟩) 0 0) [] (acc.take D) (by rfl) (Row.empR ekN (zG _) (by first|exact yM W _|exact oP W _ _)) (some ⟨g,0,none⟩) D co (by rfl) (ak W (zH _ _)).1 (ak W (zH _ _)).2.1 (ak _ (by first|exact bn _|exact au _ _)).2.2 (by decide) bc (Below.size (by first|exact bn _|exact au _ _)) ?_;intro v5 w5 ac ah;obtain⟨a5,n5,c5,rfl,H5⟩:=ac.shape';have ag:zB W w5:=qS (by first|exact bn _|exact au _ _) (zG _) ah (fun k hk=>by simp[Value.ownBlock] at hk;omega);have p1:=cw w5 ag;first|have bu:=dp _ _ _ _ ah|skip)
  | (refine vS (by rfl) ekN _ _ (by rfl) W.heap.size (.slice (some ⟨W.heap.size+1,0,none⟩) 0 0) [] (acc.take D) (by rfl) (Row.empR ekN (oU _) (pX W _ _)) (some ⟨g,0,none⟩) D co (by rfl) (ak W (zH _ _)).1 (ak W (zH _ _)).2.1 (ak _ (au _ _)).2.2 (by decide) bc (Below.size (au _ _)) ?_;intro v5 w5 ac ah;obtain⟨a5,n5,c5,rfl,H5⟩:=ac.shape';have ag:zB W w5:=qS (au _ _) (zG _) ah (fun k hk=>by simp[Value.ownBlock] at hk;omega);have p1:=cw w5 ag;have bu:=dr _ _ _ _ ah)
  | (refine vS (by rfl) ekN _ _ (by rfl) W.heap.size (.slice a5 n5 c5) ([]++acc.take D) [f.nU] (by rfl) (ac.bL ((zH _ _).alloc (zG _) _)) (some ⟨w5.heap.size,0,none⟩) 1 1 (by rfl) rfl (fun h=>by cases h) (mL ekN w5 f.nU) (by decide) bg (by have:=ag.size;simp;omega) ?_;intro v7 w7 aj aw;obtain⟨a7,n7,c7,rfl,H7⟩:=aj.shape';have av:zB W w7:=qS (oO ag (zG _) _) (zG _) aw (fun k hk=>(ac.own k hk).1))
  | (refine vS (by rfl) ekN _ _ (by rfl) W.heap.size (.slice a5 n5 c5) ([]++acc.take D) [f.nU] (by rfl) ac (some ⟨_,0,none⟩) 1 1 (by rfl) rfl (fun h=>by cases h) (UF ekN bu) (by decide) bg ag.size ?_;intro v7 w7 aj aw;obtain⟨a7,n7,c7,rfl,H7⟩:=aj.shape';have av:zB W w7:=qS ag (zG _) aw (fun k hk=>(ac.own k hk).1))
  | (refine vS (by rfl) ekN _ _ (by rfl) W.heap.size (.slice a7 n7 c7) ([]++acc.take D++[f.nU]) (acc.drop D) (by rfl) aj (some ⟨g,D,none⟩) (no-D) (co-D) (by rfl) (bl W (zH _ _)).1 (bl W (zH _ _)).2.1 (bl w7 av).2.2 (by decide) cu av.size ?_;intro v9 w9 ba cg;obtain⟨a9,n9,c9,rfl,H9⟩:=ba.shape';have dg:zB W w9:=qS av (zG _) cg (fun k hk=>(aj.own k hk).1))
  | fail)
  all_goals
   have bk:Row ekN w9 w.heap.size (.slice a9 n9 c9) (qX f.nU acc D):=by
    unfold qX;rw[tH] at ba;exact ba.mono dv
   exact Qj3
 have HF:Hid (R=acc):=by show _=_;rw[←HK.out,nC (by rw[←H1.out];omega)];rfl
 go_wp2;go_ret;exact⟨ao,no,co,rfl,by rw[HF.out];exact hr,hb⟩
end L
end Go.Proofs.YthcomdofaaeihaaGreatDoor
