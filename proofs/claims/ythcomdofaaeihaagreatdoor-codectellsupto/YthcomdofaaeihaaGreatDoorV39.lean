import Derived.Test.YthcomdofaaeihaaGreatDoorV35
import Derived.Test.YthcomdofaaeihaaGreatDoorV36
import Derived.Test.YthcomdofaaeihaaGreatDoorV31
set_option maxHeartbeats 32000000
set_option maxRecDepth 100000
set_option linter.unusedVariables false
namespace Go.Proofs.YthcomdofaaeihaaGreatDoor
namespace L
open Go.RowKit
variable{j0 base l0 B l1 j1 n:Nat}{v:Value}{w' V w:World}{i0 i1:Option Addr}{E:Int}
def kL:Value→PV
 | .slice a n c=>(a,n,c)
 | _=>(none,0,0)
theorem D6z {l:List UInt8}(h:Go.Proofs.YthcomdofaaeihaaGreatDoor.OwnB w base v l):(kL v).v=v:=by
 obtain⟨ao,len,cap,rfl,_⟩:=Go.Proofs.YthcomdofaaeihaaGreatDoor.OwnB.rd h;rfl
theorem E1d (l:List UInt8):ekY.flat l=l.map fun c=>Value.int .u8 (c.toNat:Int):=by
 induction l with
 | nil=>rfl
 | cons a l ih=>
 show _::ekY.flat l=_;rw[ih];rfl
theorem D5l {ps:List (Rcd×Value)}(h:OwnR w base v ps):∃ l:List (RI×PV),Row ekR w base v l∧(∀ r∈l,Row ekY w base r.2.v r.1.bytes)∧l.map Prod.fst=(ps.map Prod.fst).map xR:=by
 have hf:∀ ps:List (Rcd×Value),(∀ p∈ps,(kL p.2).v=p.2)→ekR.flat (ps.map fun p=>(xR p.1,kL p.2))=flat ps:=fun ps=>by
  induction ps with
  | nil=>intro _;rfl
  | cons p ps ih=>
  intro hp;have h1:=ih fun q hq=>hp q (wW _ hq)
  have h2:=hp p (vF ..);show pI (xR p.1,kL p.2)++ekR.flat (ps.map fun p=>(xR p.1,kL p.2))=mK p++flat ps;rw[h1]
  congr 1
  show [Value.int .i64 p.1.num,.int .i64 p.1.how,.int .u64 (p.1.bits:Int),(kL p.2).v]=_;rw[h2];rfl
 refine⟨ps.map fun p=>(xR p.1,kL p.2),?_,?_,by simp⟩
 ·show w.ownsRow base _ 4 v (ps.map _).length (ekR.flat _);rw[hf ps fun p hp=>D6z (h.2 p hp).1,yX];exact h.1
 intro r hr;obtain⟨p,hp,rfl⟩:=vT.1 hr;show w.ownsRow base _ 1 (kL p.2).v p.1.bytes.length (ekY.flat p.1.bytes);rw[D6z (h.2 p hp).1,E1d];exact(h.2 p hp).1
def DRes (n B:Nat)(res:Except Int (BI n))(i0:Option Addr)(j0 l0:Nat)(i1:Option Addr)(j1 l1:Nat)(E:Int)(w':World):Prop:=
 match res with
 | .error E'=>E'≠0∧E=E'∧i0=none∧j0=0∧l0=0∧i1=none∧j1=0∧l1=0
 | .ok s=>E=0∧∃ c:LB n,vO n c = [.slice i0 j0 l0,.slice i1 j1 l1]∧LB.pl n c=s∧OwnB B n w' c∧(LB.fp n c).Nodup
theorem DOut.open {res:Except Int (BI n)}{e:Ending}(h:DOut n V res e w'):∃ (i0:Option Addr) (j0 l0:Nat) (i1:Option Addr) (j1 l1:Nat) (E:Int),e = .returned (.tuple #[.agg #[.slice i0 j0 l0,.slice i1 j1 l1],.int .i64 E])∧DRes n V.heap.size res i0 j0 l0 i1 j1 l1 E w'∧zB V w':=by
 cases res with
 | error E'=>
  obtain⟨h1,rfl,h2⟩:=h;exact⟨none,0,0,none,0,0,E',rfl,⟨h1,rfl,rfl,rfl,rfl,rfl,rfl,rfl⟩,h2⟩
 | ok s=>
 obtain⟨c,i0,j0,l0,i1,j1,l1,h1,rfl,h2,h3,h4,h5⟩:=h;exact⟨i0,j0,l0,i1,j1,l1,0,rfl,⟨rfl,c,h1,h2,h3,h4⟩,h5⟩
theorem DRes.out {res:Except Int (BI n)}(h:DRes n B res i0 j0 l0 i1 j1 l1 E w')(hB:V.heap.size≤B)(hb:zB V w'):DOut n V res (.returned (.tuple #[.agg #[.slice i0 j0 l0,.slice i1 j1 l1],.int .i64 E])) w':=by
 cases res with
 | error E'=>
  obtain⟨h1,rfl,rfl,rfl,rfl,rfl,rfl,rfl⟩:=h;exact⟨h1,rfl,hb⟩
 | ok s=>
 obtain⟨rfl,c,h1,h2,h3,h4⟩:=h;exact⟨c,i0,j0,l0,i1,j1,l1,h1,rfl,h2,OwnB.mono n h3 hB,h4,hb⟩
theorem DRes.fr {res:Except Int (BI n)}{k:Nat}(h:DRes n B res i0 j0 l0 i1 j1 l1 E w)(hf:FrB [k] w w')(hk:k<B):DRes n B res i0 j0 l0 i1 j1 l1 E w':=by
 cases res with
 | error E'=>exact h
 | ok s=>
 obtain⟨h0,c,h1,h2,h3,h4⟩:=h;exact⟨h0,c,h1,h2,OwnB.fr n [k] _ _ c h3 hf (fun i hi hm=>by rw[zS] at hm;have:=(OwnB.inB n h3 i hi).1;omega),h4⟩
def dK (g:GI)(N:Nat→MI→List UInt8→Prop)(n:Nat):Prop:=∀ (w:World) (am:Option Addr) (nm cm:Nat) (ae:Option Addr) (ne ce:Nat) (af:Option Addr) (nf cf:Nat) (ab:Option Addr) (nb cb:Nat) (M:MI) (ao:Option Addr) (k c:Nat) (l:List UInt8) (D:Int),D+(n:Int)=13→1≤D→(∀ j:Nat,j<g.mG.length→WIn g am nm cm ae ne ce (j:Int) w)→M∈g.mG→RdL 6 FAt w (.slice af nf cf) M.fD→RdL 1 YAt w (.slice ao k c) l→N n M l→
 Calls Tryz.prog 20 #[.agg #[.slice am nm cm,.slice ae ne ce],.agg #[.string (S M.name),.slice af nf cf,.slice ab nb cb],.slice ao k c,.int .i64 D] w fun e w'=>DOut n w (vR g n M l) e w'
theorem D0k {g:GI}{N:Nat→MI→List UInt8→Prop}(ih:dK g N n){W:World}{am:Option Addr}{nm cm:Nat}{ae:Option Addr}{ne ce:Nat}{cf cd:Nat}(hI:∀ j:Nat,j<g.mG.length→WIn g am nm cm ae ne ce (j:Int) W)(xf:W.heap[cf]?=some (.cells #[.slice am nm cm,.slice ae ne ce] 25 (0,0))){D:Int}(hD:D+(n:Int)=12)(bl:1≤D){td:TypeId}(xd:W.heap[cd]?=some (.cells #[.int .i64 D] td (0,0))){t:List UInt8}{M:MI}(ht:g.mG.find? (isN t)=some M) :
  WQ n W 44 #[.pointer (some ⟨cf,0,none⟩),.pointer (some ⟨cd,0,none⟩)] t (fun l=>vR g n (msgD g t) l) (fun l=>N n (msgD g t) l):=by
 intro V ao k c l hQ hV hq hl;show Calls Tryz.prog 44 #[.string (S t),.slice ao k c,.pointer (some ⟨cf,0,none⟩),.pointer (some ⟨cd,0,none⟩)] V _;obtain⟨j,hj,ag⟩:=YB (show g.mG.find? (fun m=>decide (m.name=t))=some M from ht);have cg:=(yG.1 ag).1;have hg:=(hI j cg).hg;have bg:=hg.1.len.1;have cu:(j:Int)<(nm:Int):=by omega
 have bu:=(zR xf)
 have bn:=(zR xd)
 have av:=xV ag;have em:msgD g t=M:=by unfold msgD;rw[ht];rfl
 obtain⟨bm,om,rfl,hat⟩:=(hg.bL hV).1.get MAt.plain ag;obtain⟨vf,vb,s0,s1,s2,ak,ba⟩:=hat.at;obtain⟨af,nf,kf,rfl,_,_⟩:=ak.sH;obtain⟨ab,nb,kb,rfl,_,_⟩:=ba.sH;obtain⟨W1,bc,hb1,x1,hz1⟩:=zV V (.cells #[.slice none 0 0,.slice none 0 0] 29);have y1:=(hV.block _ bu).trans xf;have y2:=(hV.block _ bn).trans xd;have ed:IntKind.i64.wrap (D+1)=D+1:=by rw[IntKind.wrap_i64];omega
 have ac:∀ U,zB V U→zB V U∧(U.cell? ⟨cf,0,none⟩=some (.slice (some ⟨bm,om,none⟩) nm cm)∧U.cell? ⟨cf,1,none⟩=some (.slice ae ne ce))∧U.cell? ⟨cd,0,none⟩=some (.int .i64 D)∧U.cell? ⟨bm,om+j*3,none⟩=some (.string (S M.name))∧U.cell? ⟨bm,om+j*3+1,none⟩=some (.slice af nf kf)∧U.cell? ⟨bm,om+j*3+2,none⟩=some (.slice ab nb kb):=fun U hU=>by
  have hcv:=(zR y1)
  have hcw:=(zR y2)
  exact⟨hU,zO ((hU.block _ hcv).trans y1),zL ((hU.block _ hcw).trans y2) 0 _ rfl,zQ hU s0,zQ hU s1,zQ hU s2⟩
 have cj:∀ U,zB V U→Calls Tryz.prog 28 #[.agg #[.slice (some ⟨bm,om,none⟩) nm cm,.slice ae ne ce],.string (S t)] U fun e w'=>e = .returned (.int .i64 (j:Int))∧zB U w':=fun U hU=>by
  have:=fX ((hg.bL hV).bL hU).1 ⟨ae,ne,ce,rfl⟩ t;rw[hj] at this;exact this
 obtain⟨R,HR⟩:=yP (vR g n M l);have hwt:∀ U,zB V U→Calls Tryz.prog 20 #[.agg #[.slice (some ⟨bm,om,none⟩) nm cm,.slice ae ne ce],.agg #[.string (S M.name),.slice af nf kf,.slice ab nb kb],.slice ao k c,.int .i64 (D+1)] U fun e w'=>∃ (i0:Option Addr) (j0 l0:Nat) (i1:Option Addr) (j1 l1:Nat) (E:Int),e = .returned (.tuple #[.agg #[.slice i0 j0 l0,.slice i1 j1 l1],.int .i64 E])∧Hid (DRes n U.heap.size R i0 j0 l0 i1 j1 l1 E w')∧zB U w':=fun U hU=>by
  refine(ih U _ _ _ _ _ _ _ _ _ ab nb kb M ao k c l (D+1) (by omega) (by omega) (fun i hi=>(hI i hi).bL (zK hV hU)) av (ak.bL FAt.sT hU) (hq.bL YAt.sT hU) (by have h:N n (msgD g t) l:=hQ;rw[em] at h;exact h)).mono ?_;intro e w' ho;rw[HR.out] at ho;obtain⟨i0,j0,l0,i1,j1,l1,E,h1,h2,h3⟩:=ho.open;exact⟨i0,j0,l0,i1,j1,l1,E,h1,h2,h3⟩
 show Calls Tryz.prog 44 #[.string (S t),.slice ao k c,.pointer (some ⟨cf,0,none⟩),.pointer (some ⟨cd,0,none⟩)] V fun e w'=>DOut n V (vR g n (msgD g t) l) e w'
 rw[em,HR.out];have hd:=zK hb1 (zH _ _).drew;have aw:zB W1 W1.drew:=(zH _ _).drew;clear hat s0 s1 s2 ag hj ht ih hq ak ba hI hg em av hD bl bg;go_enter Tryz.func44,Tryz.ntmps44;go_wp2_with fail
 rw[←bc.out];refine wp_region_held_drew (S:=fun U=>zB V U) (by kernel_rfl) hd (fun hHeld=>?_);refine zTk 0 rfl ac ?_
 try simp only[zE]
 refine zTk 1 rfl ac ?_
 try simp only[zE]
 refine zTk 2 rfl ac ?_
 try simp only[zE]
 refine zTk 3 rfl ac ?_
 try simp only[zE]
 refine zTk 4 rfl ac ?_
 try simp only[zE]
 refine zTk 8 rfl ac ?_
 try simp only[zE]
 refine zTk 9 rfl ac ?_
 try simp only[zE]
 refine zTk 10 rfl ac ?_
 try simp only[zE]
 refine rA (i:=5) rfl fun K hK=>?_
 go_simp;refine(cj _ hd).mono ?_;rintro e w2 ⟨rfl,hb2⟩;have aj:=zK hd hb2;refine hK.out _ _ ?_ (fun hHeld=>?_)
 ·(try dsimp only);with_reducible assumption
 clear hK K
 try simp only[zE]
 refine zTk 6 rfl ac ?_
 try simp only[zE]
 refine zTk 7 rfl ac ?_
 try simp only[zE]
 refine rA (i:=11) rfl fun K hK=>?_
 go_simp
 (try rw[ed])
 refine(hwt _ aj).mono ?_;rintro e w3 ⟨i0,j0,l0,i1,j1,l1,E,rfl,ah,hb3⟩;have bh:=zK aj hb3;have au:=(zN (zK (zK aw hb2) hb3)).trans x1;obtain⟨p0,p1⟩:=zO au;have pf:=zJ au;have bk:zB V ((w3.setCell ⟨V.heap.size,0,none⟩ (.slice i0 j0 l0)).setCell ⟨V.heap.size,1,none⟩ (.slice i1 j1 l1)):=zT (zT bh (zG _)) (zG _);refine hK.out _ _ ?_ (fun hHeld=>?_)
 ·(try dsimp only);with_reducible assumption
 clear hK K
 try simp only[zE]
 refine zTk 12 rfl ac ?_
 try simp only[zE]
 refine zTk 13 rfl ac ?_
 try simp only[zE]
 refine rA (i:=14) rfl fun K hK=>?_
 go_simp;refine hK.out _ _ ?_ (fun hHeld=>?_)
 ·(try dsimp only);with_reducible assumption
 clear hK K
 try simp only[zE]
 refine zTk 15 rfl ac ?_
 try simp only[zE]
 refine wpAnyH_done (by kernel_rfl) ?_ _;go_wp2_with fail
 refine bodyPost_ret (v:=.tuple #[.agg #[.slice i0 j0 l0,.slice i1 j1 l1],.int .i64 E]) (by simp[results,Tryz.results44,go_sem, *]) rfl ?_;have hz2:=(zK aw hb2).size;exact(ah.out.fr (fr2 au) (by omega)).out aj.size bk
def TRes (n B L:Nat)(res:Except Int (VI (BI n)))(q:Int)(a1:Option Addr)(n1 c1:Nat)(a2:Option Addr)(n2 c2:Nat)(a3:Option Addr)(n3 c3:Nat)(E:Int)(w:World):Prop:=
 match res with
 | .error E'=>E=E'∧E≠0
 | .ok y=>E=0∧∃ y':VL (LB n),y'.nU=q∧y'.p1=(a1,n1,c1)∧y'.p2=(a2,n2,c2)∧y'.p3=(a3,n3,c3)∧VL.pl (LB.pl n) y'=y∧OwnV (ekB n) (OwnB B n) w B y'∧(∀ k∈VL.fp (LB.fp n) y',L≤k)∧(VL.fp (LB.fp n) y').Nodup
theorem TOut.open {res:Except Int (VI (BI n))}{e:Ending}(h:TOut n B w res e w'):∃ (q:Int) (a1:Option Addr) (n1 c1:Nat) (a2:Option Addr) (n2 c2:Nat) (a3:Option Addr) (n3 c3:Nat) (E:Int),e = .returned (.tuple #[.agg #[.int .i64 q,.slice a1 n1 c1,.slice a2 n2 c2,.slice a3 n3 c3],.int .i64 E])∧TRes n B w.heap.size res q a1 n1 c1 a2 n2 c2 a3 n3 c3 E w'∧zB w w':=by
 obtain⟨hb,h⟩:=h;cases res with
 | error E'=>
  obtain⟨h1,q,a1,n1,c1,a2,n2,c2,a3,n3,c3,rfl⟩:=h;exact⟨q,a1,n1,c1,a2,n2,c2,a3,n3,c3,E',rfl,⟨rfl,h1⟩,hb⟩
 | ok y=>
 obtain⟨y',rfl,h1,h2,h3,h4⟩:=h;obtain⟨nu,bi,ac,su,⟨a1,n1,c1⟩,⟨a2,n2,c2⟩,⟨a3,n3,c3⟩⟩:=y';exact⟨nu,a1,n1,c1,a2,n2,c2,a3,n3,c3,0,rfl,⟨rfl,_,rfl,rfl,rfl,rfl,h1,h2,h3,h4⟩,hb⟩
theorem TRes.fr {L L':Nat}{res:Except Int (VI (BI n))}{q:Int}{a1:Option Addr}{n1 c1:Nat}{a2:Option Addr}{n2 c2:Nat}{a3:Option Addr}{n3 c3:Nat}{F:List Nat}(h:TRes n B L res q a1 n1 c1 a2 n2 c2 a3 n3 c3 E w)(hf:FrB F w w')(hF:∀ k∈F,k<L)(hL:L'≤L):TRes n B L' res q a1 n1 c1 a2 n2 c2 a3 n3 c3 E w':=by
 cases res with
 | error E'=>exact h
 | ok y=>
 obtain⟨h0,y',g1,g2,g3,g4,h1,h2,h3,h4⟩:=h;exact⟨h0,y',g1,g2,g3,g4,h1,OwnV.fr (OwnB.fr n) h2 hf (fun k hk hm=>by have:=h3 k hk;have:=hF k hm;omega),fun k hk=>yN hL (h3 k hk),h4⟩
def E1m (d:Nat)(L:Nat)(b0:Option Addr)(m0 d0:Nat)(b1:Option Addr)(m1 d1:Nat)(b:BO (BI d))(res:Except Int (BO (BI d)))(i0:Option Addr)(j0 l0:Nat)(i1:Option Addr)(j1 l1:Nat)(E:Int)(w':World):Prop:=
 match res with
 | .error E'=>E=E'∧E≠0
 | .ok b'=>E=0∧((b'=b∧i0=b0∧j0=m0∧l0=d0∧i1=b1∧j1=m1∧l1=d1)∨∃ c:LB (d+1),vO (d+1) c = [.slice i0 j0 l0,.slice i1 j1 l1]∧LB.pl (d+1) c=b'∧OwnB L (d+1) w' c∧(LB.fp (d+1) c).Nodup)
theorem WOut.open {d:Nat}{b0:Option Addr}{m0 d0:Nat}{b1:Option Addr}{m1 d1:Nat}{b:BO (BI d)}{res:Except Int (BO (BI d))}{e:Ending}(h:WOut d w (.slice b0 m0 d0) (.slice b1 m1 d1) b res e w'):∃ (i0:Option Addr) (j0 l0:Nat) (i1:Option Addr) (j1 l1:Nat) (E:Int),e = .returned (.tuple #[.agg #[.slice i0 j0 l0,.slice i1 j1 l1],.int .i64 E])∧E1m d w.heap.size b0 m0 d0 b1 m1 d1 b res i0 j0 l0 i1 j1 l1 E w':=by
 cases res with
 | error E'=>
  obtain⟨h1,rfl⟩:=h;exact⟨none,0,0,none,0,0,E',rfl,rfl,h1⟩
 | ok b'=>
 rcases h with⟨rfl,rfl⟩|⟨c,i0,j0,l0,i1,j1,l1,h1,rfl,h2,h3,h4⟩
 ·exact⟨b0,m0,d0,b1,m1,d1,0,rfl,rfl,.inl ⟨rfl,rfl,rfl,rfl,rfl,rfl,rfl⟩⟩
 exact⟨i0,j0,l0,i1,j1,l1,0,rfl,rfl,.inr ⟨c,h1,h2,h3,h4⟩⟩
structure DSt (n B L:Nat) (w:World) (cc:BL (LB n)) (b:BO (BI n)) (u:PV) (ul:List (RI×PV)):Prop where
 own:OwnB B (n+1) w cc
 pl:LB.pl (n+1) cc=b
 nd:(LB.fp (n+1) cc).Nodup
 lo:∀ k∈LB.fp (n+1) cc,L≤k
 ur:Row ekR w B u.v ul
 uy:∀ r∈ul,Row ekY w B r.2.v r.1.bytes
 ulo:∀ k∈own1 u,L≤k∧k∉LB.fp (n+1) cc
section
variable {n B L:Nat}{w w':World}{cc:BL (LB n)}{b:BO (BI n)}{u:PV}{ul:List (RI×PV)}
theorem DSt.fr (h:DSt n B L w cc b u ul){F:List Nat}(hf:FrB F w w')(hF:∀ k∈F,k<L):DSt n B L w' cc b u ul:=
 ⟨OwnB.fr (n+1) F _ _ _ h.own hf (fun k hk hm=>by have:=h.lo k hk;have:=hF k hm;omega),h.pl,h.nd,h.lo,Row.frB h.ur hf (fun k hk hm=>by have:=(h.ulo k hk).1;have:=hF k hm;omega),fun r hr=>(h.uy r hr).frY hf,h.ulo⟩
theorem dV {p:PV}{k:Nat}:k∈own1 p↔p.v.ownBlock=some k:=by unfold own1;simp
theorem DSt.ult (h:DSt n B L w cc b u ul):∀ k∈own1 u,k<w.heap.size:=fun k hk=>(World.ownsRow.lt h.ur k (dV.1 hk)).2
theorem DSt.nil (n B L:Nat)(w:World):DSt n B L w ⟨[],[],(none,0,0),(none,0,0)⟩ ⟨[],[]⟩ (none,0,0) []:=
 ⟨⟨jY _ _ _ _,fun v hv=>(xP hv).elim,jY _ _ _ _,fun v hv=>(xP hv).elim⟩,rfl,List.nodup_nil,fun k hk=>(xP (show k∈[] from hk)).elim,jY _ _ _ _,fun v hv=>(xP hv).elim,fun k hk=>(xP (show k∈[] from hk)).elim⟩
theorem DSt.new (h:DSt n B L w cc b u ul){ac:BL (LB n)}{b':BO (BI n)}(hs:L≤w.heap.size)(hB:B≤w.heap.size)(hw:DSt n B L w' cc b u ul)(ho:OwnB w.heap.size (n+1) w' ac)(hp:LB.pl (n+1) ac=b')(hn:(LB.fp (n+1) ac).Nodup):DSt n B L w' ac b' u ul:=
 ⟨OwnB.mono (n+1) ho hB,hp,hn,fun k hk=>by have:=(OwnB.inB (n+1) ho k hk).1;omega,hw.ur,hw.uy,fun k hk=>⟨(h.ulo k hk).1,fun hm=>by have:=(OwnB.inB (n+1) ho k hm).1;have:=h.ult k hk;omega⟩⟩
theorem DSt.app_fr (h:DSt n B L w cc b u ul)(hg:w.grownBy w' u.v.ownBlock):FrB (own1 u) w w':=
 UL hg (t:=78) (by decide) (fun g hg=>by
  rcases h.ur.2 with⟨hv,_⟩|⟨g',cap,cur,hv,_,hc,_⟩
  ·rw[hv] at hg
   cases hg
  ·rw[hv] at hg
   cases hg
   exact⟨_,_,hc⟩) (fun g hg=>dV.2 hg)
theorem DSt.app (h:DSt n B L w cc b u ul){u':PV}{a:RI×PV}(hs:L≤w.heap.size)(hg:w.grownBy w' u.v.ownBlock)(hr:Row ekR w' B u'.v (ul++[a]))(hk:∀ k,u'.v.ownBlock=some k→u.v.ownBlock=some k∨w.heap.size≤k)(ha:Row ekY w B a.2.v a.1.bytes):DSt n B L w' cc b u' (ul++[a]):=by
 have hf:=h.app_fr hg;refine⟨OwnB.fr (n+1) _ _ _ _ h.own hf (fun k hk hm=>(h.ulo k hm).2 hk),h.pl,h.nd,h.lo,hr,fun r ag=>?_,fun k ac=>?_⟩
 ·rcases zU.1 ag with h1|h1
  ·exact(h.uy r h1).frY hf
  rw[zS.1 h1];exact ha.frY hf
 rcases hk k (dV.1 ac) with h1|h1
 ·exact h.ulo k (dV.2 h1)
 exact⟨by omega,fun hm=>by have:=(OwnB.inB (n+1) h.own k hm).2;omega⟩
theorem DSt.fin (h:DSt n B L w cc b u ul):OwnB B (n+1) w (⟨cc.vals,ul,cc.q0,u⟩:BL (LB n))∧LB.pl (n+1) (⟨cc.vals,ul,cc.q0,u⟩:BL (LB n))=(⟨b.vals,ul.map Prod.fst⟩:BO (BI n))∧(LB.fp (n+1) (⟨cc.vals,ul,cc.q0,u⟩:BL (LB n))).Nodup∧∀ k∈LB.fp (n+1) (⟨cc.vals,ul,cc.q0,u⟩:BL (LB n)),L≤k:=by
 have ho:OwnL (ekB n) (OwnB B n) w B cc:=h.own;refine⟨⟨ho.r0,ho.r0v,h.ur,h.uy⟩,?_,mR.2 fun k=>?_,fun k hk=>?_⟩
 ·have:=congrArg BO.vals (show(⟨cc.vals.map (VL.pl (LB.pl n)),cc.unk.map Prod.fst⟩:BO (BI n))=b from h.pl);show(⟨cc.vals.map (VL.pl (LB.pl n)),ul.map Prod.fst⟩:BO (BI n))=_;rw[←this]
 ·have h1:=mR.1 h.nd k;have e1:LB.fp (n+1) cc=own1 cc.q0++own1 cc.q1++cc.vals.flatMap (VL.fp (LB.fp n)):=rfl;show(own1 cc.q0++own1 u++cc.vals.flatMap (VL.fp (LB.fp n))).count k≤1;have h2:(own1 u).count k≤1:=by
   unfold own1;cases u.v.ownBlock with
   | none=>simp
   | some g=>simp only[Option.toList_some];by_cases e:g=k <;> simp[e]
  rw[e1] at h1;simp only[tR] at h1 ⊢;by_cases h3:k∈own1 u
  ·have h4:=(h.ulo k h3).2;rw[e1] at h4;have h5:=List.count_eq_zero.2 h4;simp only[tR] at h5;omega
  have:=List.count_eq_zero.2 h3;omega
 have ac:k∈own1 cc.q0++own1 u++cc.vals.flatMap (VL.fp (LB.fp n)):=hk;have e1:LB.fp (n+1) cc=own1 cc.q0++own1 cc.q1++cc.vals.flatMap (VL.fp (LB.fp n)):=rfl;by_cases h3:k∈own1 u
 ·exact(h.ulo k h3).1
 refine h.lo k ?_;rw[e1];simp only[zU] at ac ⊢;rcases ac with(h4|h4)|h4
 ·exact .inl (.inl h4)
 ·exact absurd h4 h3
 exact .inr h4
end
variable{g:GI}
theorem D1a (hr:(yB g).1=0):∀ m∈g.mG,∀ x∈m.fD,1≤x.nU:=by
 intro m hm x hx;obtain⟨s,hs⟩:=YU _ _ _ (ZI ((YL hr).2.2 m hm)).2.2.2 x hx;simp only[pA,lS] at hs;have hh:=hs.2.1;unfold qZ at hh;simp at hh;omega
theorem Qo0{P:Prop}(h:P:=by
 go_enter Tryz.func16,Tryz.ntmps16;go_wp2_with fail
 rw[←ak.out];refine hwr.mono ?_;rintro r w3 ⟨rfl,hb3⟩;go_wp2;go_ret;exact⟨by rw[HA.out];rfl,(BTd hb2 hb3).alloc (BTd hb2 hb3).size _⟩):P:=h
theorem B6q {w:World}{d:Nat}{vm ve v0 v1:Value}{msg:Int}{x:BI (d+1)}(hg:GRd w vm ve g)(cj:g.mG.length≤140737488355328)(cu:g.enums.length≤140737488355328)(ba:Fits g)(hq:BRd d w v0 v1 x)(bk:BOk (d+1) x)(hch:∀ m∈g.mG,∀ y∈m.fD,I64 y.cE)(df : -9223372036854775808≤msg)(dg:msg≤9223372036854775807) :
  Calls Tryz.prog 16 #[.agg #[vm,ve],.int .i64 msg,.agg #[v0,v1]] w fun r w'=>r = .returned (.int .i64 (wD g d msg x))∧zB w w':=by
 obtain⟨am,nm,cm,rfl,bg,_⟩:=hg.1.sH;obtain⟨ae,ne,ce,rfl,_,_⟩:=hg.2.sH;obtain⟨a0,n0,c0,a1,n1,c1,rfl,rfl⟩:=hq.sH;obtain⟨W2,ak,hb2,z2,x1,x2⟩:=uD w (.cells #[.slice am nm cm,.slice ae ne ce] 25) (.cells #[.slice a0 n0 c0,.slice a1 n1 c1] 29);have hwr:=B4w (hg.bL hb2) cj cu ba;obtain⟨Q,HQ⟩:=zM ((yB g).1);obtain⟨QI,bl⟩:=zM ((((yB g).2:Nat):Int));rw[←HQ.out,←bl.out] at hwr;have aw:∀ V,zB W2 V→V.cell? ⟨w.heap.size,0,none⟩=some (.slice am nm cm)∧V.cell? ⟨w.heap.size,1,none⟩=some (.slice ae ne ce)∧V.cell? ⟨w.heap.size+1,0,none⟩=some (.slice a0 n0 c0)∧V.cell? ⟨w.heap.size+1,1,none⟩=some (.slice a1 n1 c1):=fun V hV=>⟨zQ hV (zL x1 0 _ rfl),zQ hV (zL x1 1 _ rfl),zQ hV (zL x2 0 _ rfl),zQ hV (zL x2 1 _ rfl)⟩
 obtain⟨ag,ac⟩:=zM (wD g d msg x);rw[←ac.out];by_cases hQ0:Q=0
 ·have ez:(Q != 0)=false:=by simp[hQ0]
  have hr:(yB g).1=0:=by rw[←HQ.out];exact hQ0
  have HZ:=zI hQ0;clear hQ0;by_cases hlo:msg<0
  ·have HA:Hid (ag=6):=by show _=_;rw[ac.out,wD,zC (by rw[hr];simp),zF (.inl hlo)]
   exact Qo0
  have aj:=hlo;by_cases bc:(nm:Int)≤msg
  ·have HA:Hid (ag=6):=by show _=_;rw[ac.out,wD,zC (by rw[hr];simp),zF (.inr (by rw[←bg.out];exact bc))]
   go_enter Tryz.func16,Tryz.ntmps16;go_wp2_with fail
   rw[←ak.out];refine hwr.mono ?_;rintro r w3 ⟨rfl,hb3⟩;obtain⟨t0,t1,t2,t3⟩:=aw w3 hb3;have hs3:w.heap.size<w3.heap.size:=nD (by omega) hb3.size;go_wp2;go_ret;exact⟨by rw[HA.out];rfl,(BTd hb2 hb3).alloc (BTd hb2 hb3).size _⟩
  have au:msg.toNat<g.mG.length:=by rw[←bg.out];omega
  obtain⟨i,rfl⟩:∃ i:Nat,msg=(i:Int):=⟨msg.toNat,by omega⟩
  have au:i<g.mG.length:=au;obtain⟨m,hm⟩:∃ m,g.mG[i]?=some m:=⟨g.mG[i],vG au⟩
  have HA:Hid (ag=yT g (d+1) 1 m.fD x):=by
   show _=_;rw[ac.out,wD,zC (by rw[hr];simp),zC (by omega)];show(match g.mG[((i:Nat):Int).toNat]? with|some m=>yT g (d+1) 1 m.fD x|none=>6)=_;rw[qU,hm]
  have ah:∀ V,zB W2 V→Calls Tryz.prog 32 #[.agg #[.slice am nm cm,.slice ae ne ce],.int .i64 (i:Int),.agg #[.slice a0 n0 c0,.slice a1 n1 c1],.int .i64 1] V fun r w'=>r = .returned (.int .i64 ag)∧zB V w':=by
   intro V hV;have bh:=BTd hb2 hV;rw[HA.out];exact B8l (sY hr) (fun m hm y hy=>⟨D1a hr m hm y hy,hch m hm y hy⟩) hg (d+1) V 1 i m _ _ x bh (by omega) (by omega) hm (hq.bL bh) bk
  have cw:(i:Int)<(nm:Int):=by omega
  clear hg hq bk hm hlo hr au aj bc hch;have aj:¬ ((i:Int)<0):=by omega
  have bc:¬ ((nm:Int)≤(i:Int)):=by omega
  go_enter Tryz.func16,Tryz.ntmps16;go_wp2_with fail
  rw[←ak.out];refine hwr.mono ?_;rintro r w3 ⟨rfl,hb3⟩;obtain⟨W4,bn,av,-,-⟩:=zV w3 (.cells #[.int .i64 Q,.int .i64 QI] 54);have hb4:=BTd hb3 av;have hs3:w.heap.size<w3.heap.size:=nD (by omega) hb3.size;obtain⟨t0,t1,t2,t3⟩:=aw w3 hb3;have cg:=ah _ hb4;obtain⟨s0,s1,s2,s3⟩:=aw _ hb4;go_upto_region 6 with fail
  rw[←bn.out];go_wp2_with fail
  refine cg.mono ?_;rintro r w5 ⟨rfl,bu⟩;go_wp2;go_ret;exact⟨rfl,BTd hb2 (BTd hb4 bu)⟩
 have ez:(Q != 0)=true:=by simpa using hQ0
 have HA:Hid (ag=Q):=by show _=_;rw[ac.out,wD,zF (by rw[←HQ.out];exact hQ0),HQ.out]
 clear hQ0;exact Qo0
end L
end Go.Proofs.YthcomdofaaeihaaGreatDoor
