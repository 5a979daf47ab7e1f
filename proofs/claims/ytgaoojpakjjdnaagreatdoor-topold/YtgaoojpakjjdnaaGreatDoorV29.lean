import Derived.Test.YtgaoojpakjjdnaaGreatDoorV28
set_option maxHeartbeats 32000000
set_option maxRecDepth 100000
set_option linter.unusedVariables false
namespace Go.Proofs.YtgaoojpakjjdnaaGreatDoor
namespace L
open Go.RowKit
def D4x:Value→PV
 | .slice a n c=>(a,n,c)
 | _=>(none,0,0)
theorem D4z {w:World}{base:Nat}{v:Value}{l:List UInt8}(h:Go.Proofs.YtgaoojpakjjdnaaGreatDoor.OwnB w base v l):(D4x v).v=v:=by
 obtain⟨ao,len,cap,rfl,_⟩:=Go.Proofs.YtgaoojpakjjdnaaGreatDoor.OwnB.rd h
 rfl
theorem D8s (l:List UInt8):ekY.flat l=l.map fun c=>Value.int .u8 (c.toNat:Int):=by
 induction l with
 | nil=>rfl
 | cons a l ih=>
  show _::ekY.flat l=_
  rw[ih]
  rfl
theorem D3i {w:World}{base:Nat}{v:Value}{ps:List (Rcd×Value)}(h:OwnR w base v ps):∃ l:List (RI×PV),Row ekR w base v l∧(∀ r∈l,Row ekY w base r.2.v r.1.bytes)∧l.map Prod.fst=(ps.map Prod.fst).map A6e:=by
 have hf:∀ ps:List (Rcd×Value),(∀ p∈ps,(D4x p.2).v=p.2)→ekR.flat (ps.map fun p=>(A6e p.1,D4x p.2))=flat ps:=fun ps=>by
  induction ps with
  | nil=>intro _;rfl
  | cons p ps ih=>
   intro hp
   have h1:=ih fun q hq=>hp q (List.mem_cons_of_mem _ hq)
   have h2:=hp p (List.mem_cons_self ..)
   show D4o (A6e p.1,D4x p.2)++ekR.flat (ps.map fun p=>(A6e p.1,D4x p.2))=A2u p++flat ps
   rw[h1]
   congr 1
   show [Value.int .i64 p.1.num,.int .i64 p.1.how,.int .u64 (p.1.bits:Int),(D4x p.2).v]=_
   rw[h2]
   rfl
 refine⟨ps.map fun p=>(A6e p.1,D4x p.2),?_,?_,by simp⟩
 ·show w.ownsRow base _ 4 v (ps.map _).length (ekR.flat _)
  rw[hf ps fun p hp=>D4z (h.2 p hp).1,List.length_map]
  exact h.1
 ·intro r hr
  obtain⟨p,hp,rfl⟩:=List.mem_map.1 hr
  show w.ownsRow base _ 1 (D4x p.2).v p.1.bytes.length (ekY.flat p.1.bytes)
  rw[D4z (h.2 p hp).1,D8s]
  exact(h.2 p hp).1
def DRes (n B:Nat)(res:Except Int (BI n))(i0:Option Addr)(j0 l0:Nat)(i1:Option Addr)(j1 l1:Nat)(E:Int)(w':World):Prop:=
 match res with
 | .error E'=>E'≠0∧E=E'∧i0=none∧j0=0∧l0=0∧i1=none∧j1=0∧l1=0
 | .ok s=>E=0∧∃ c:LB n,C0f n c = [.slice i0 j0 l0,.slice i1 j1 l1]∧LB.pl n c=s∧OwnB B n w' c∧(LB.fp n c).Nodup
theorem DOut.open {n:Nat}{V w':World}{res:Except Int (BI n)}{e:Ending}(h:DOut n V res e w'):∃ (i0:Option Addr) (j0 l0:Nat) (i1:Option Addr) (j1 l1:Nat) (E:Int),e = .returned (.tuple #[.agg #[.slice i0 j0 l0,.slice i1 j1 l1],.int .i64 E])∧DRes n V.heap.size res i0 j0 l0 i1 j1 l1 E w'∧Below V.heap.size V w':=by
 cases res with
 | error E'=>
  obtain⟨h1,rfl,h2⟩:=h
  exact⟨none,0,0,none,0,0,E',rfl,⟨h1,rfl,rfl,rfl,rfl,rfl,rfl,rfl⟩,h2⟩
 | ok s=>
  obtain⟨c,i0,j0,l0,i1,j1,l1,h1,rfl,h2,h3,h4,h5⟩:=h
  exact⟨i0,j0,l0,i1,j1,l1,0,rfl,⟨rfl,c,h1,h2,h3,h4⟩,h5⟩
theorem DRes.out {n B:Nat}{V w':World}{res:Except Int (BI n)}{i0:Option Addr}{j0 l0:Nat}{i1:Option Addr}{j1 l1:Nat}{E:Int}(h:DRes n B res i0 j0 l0 i1 j1 l1 E w')(hB:V.heap.size≤B)(hb:Below V.heap.size V w'):DOut n V res (.returned (.tuple #[.agg #[.slice i0 j0 l0,.slice i1 j1 l1],.int .i64 E])) w':=by
 cases res with
 | error E'=>
  obtain⟨h1,rfl,rfl,rfl,rfl,rfl,rfl,rfl⟩:=h
  exact⟨h1,rfl,hb⟩
 | ok s=>
  obtain⟨rfl,c,h1,h2,h3,h4⟩:=h
  exact⟨c,i0,j0,l0,i1,j1,l1,h1,rfl,h2,OwnB.mono n h3 hB,h4,hb⟩
theorem DRes.fr {n B:Nat}{w w':World}{res:Except Int (BI n)}{i0:Option Addr}{j0 l0:Nat}{i1:Option Addr}{j1 l1:Nat}{E:Int}{k:Nat}(h:DRes n B res i0 j0 l0 i1 j1 l1 E w)(hf:FrB [k] w w')(hk:k<B):DRes n B res i0 j0 l0 i1 j1 l1 E w':=by
 cases res with
 | error E'=>exact h
 | ok s=>
  obtain⟨h0,c,h1,h2,h3,h4⟩:=h
  exact⟨h0,c,h1,h2,OwnB.fr n [k] _ _ c h3 hf (fun i hi hm=>by rw[List.mem_singleton] at hm;have:=(OwnB.inB n h3 i hi).1;omega),h4⟩
def B4f (g:GI)(N:Nat→MI→List UInt8→Prop)(n:Nat):Prop:=∀ (w:World) (am:Option Addr) (nm cm:Nat) (ae:Option Addr) (ne ce:Nat) (af:Option Addr) (nf cf:Nat) (ab:Option Addr) (nb cb:Nat) (M:MI) (ao:Option Addr) (k c:Nat) (l:List UInt8) (D:Int),D+(n:Int)=13→1≤D→(∀ j:Nat,j<g.msgs.length→WIn g am nm cm ae ne ce (j:Int) w)→M∈g.msgs→RdL 6 FAt w (.slice af nf cf) M.fields→RdL 1 YAt w (.slice ao k c) l→N n M l→
 Calls Tryz.prog 21 #[.agg #[.slice am nm cm,.slice ae ne ce],.agg #[.string (S M.name),.slice af nf cf,.slice ab nb cb],.slice ao k c,.int .i64 D] w fun e w'=>DOut n w (A3t g n M l) e w'
theorem C9d {g:GI}{N:Nat→MI→List UInt8→Prop}{n:Nat}(ih:B4f g N n){W:World}{am:Option Addr}{nm cm:Nat}{ae:Option Addr}{ne ce:Nat}{cf cd:Nat}(hI:∀ j:Nat,j<g.msgs.length→WIn g am nm cm ae ne ce (j:Int) W)(xf:W.heap[cf]?=some (.cells #[.slice am nm cm,.slice ae ne ce] 25 (0,0))){D:Int}(hD:D+(n:Int)=12)(bp:1≤D){td:TypeId}(xd:W.heap[cd]?=some (.cells #[.int .i64 D] td (0,0))){t:List UInt8}{M:MI}(ht:g.msgs.find? (isN t)=some M) :
  DDeep n W 46 #[.pointer (some ⟨cf,0,none⟩),.pointer (some ⟨cd,0,none⟩)] t (fun l=>A3t g n (msgD g t) l) (fun l=>N n (msgD g t) l):=by
 intro V ao k c l hQ hV hq hl
 show Calls Tryz.prog 46 #[.string (S t),.slice ao k c,.pointer (some ⟨cf,0,none⟩),.pointer (some ⟨cd,0,none⟩)] V _
 obtain⟨j,hj,ah⟩:=C1v (show g.msgs.find? (fun m=>decide (m.name=t))=some M from ht)
 have bt:j<g.msgs.length:=(List.getElem?_eq_some_iff.1 ah).1
 have hg:=(hI j bt).hg
 have bh:=hg.1.len.1
 have bv:(j:Int)<(nm:Int):=by omega
 have br:=(Array.getElem?_eq_some_iff.1 xf).1
 have bq:=(Array.getElem?_eq_some_iff.1 xd).1
 have ba:M∈g.msgs:=List.mem_of_getElem? ah
 have em:msgD g t=M:=by unfold msgD;rw[ht];rfl
 obtain⟨bm,om,rfl,hat⟩:=(hg.below hV).1.get MAt.plain ah
 obtain⟨vf,vb,s0,s1,s2,au,bg⟩:=hat.at
 obtain⟨af,nf,kf,rfl,_,_⟩:=au.shape
 obtain⟨ab,nb,kb,rfl,_,_⟩:=bg.shape
 obtain⟨W1,ag⟩:∃ W1,Hid (W1=V.alloc (.cells #[.slice none 0 0,.slice none 0 0] 29)):=⟨_,rfl⟩
 have hb1:Below V.heap.size V W1:=by rw[ag.out];exact(Below.refl _ _).alloc (Nat.le_refl _) _
 have hz1:V.heap.size+1≤W1.heap.size:=by rw[ag.out];simp
 have x1:W1.heap[V.heap.size]?=some (.cells #[.slice none 0 0,.slice none 0 0] 29 (0,0)):=by rw[ag.out];exact heap_alloc_new _ _
 have y1:=(hV.block _ br).trans xf
 have y2:=(hV.block _ bq).trans xd
 have ed:IntKind.i64.wrap (D+1)=D+1:=by rw[IntKind.wrap_i64];omega
 have ac:∀ U,Below V.heap.size V U→Below V.heap.size V U∧(U.cell? ⟨cf,0,none⟩=some (.slice (some ⟨bm,om,none⟩) nm cm)∧U.cell? ⟨cf,1,none⟩=some (.slice ae ne ce))∧U.cell? ⟨cd,0,none⟩=some (.int .i64 D)∧U.cell? ⟨bm,om+j*3,none⟩=some (.string (S M.name))∧U.cell? ⟨bm,om+j*3+1,none⟩=some (.slice af nf kf)∧U.cell? ⟨bm,om+j*3+2,none⟩=some (.slice ab nb kb):=fun U hU=>by
  have hcv:=(Array.getElem?_eq_some_iff.1 y1).1
  have hcw:=(Array.getElem?_eq_some_iff.1 y2).1
  exact⟨hU,A0y ((hU.block _ hcv).trans y1),A0a ((hU.block _ hcw).trans y2) 0 _ rfl,A0c hU s0,A0c hU s1,A0c hU s2⟩
 have bu:∀ U,Below V.heap.size V U→Calls Tryz.prog 35 #[.agg #[.slice (some ⟨bm,om,none⟩) nm cm,.slice ae ne ce],.string (S t)] U fun e w'=>e = .returned (.int .i64 (j:Int))∧Below U.heap.size U w':=fun U hU=>by
  have:=A2y ((hg.below hV).below hU).1 ⟨ae,ne,ce,rfl⟩ t
  rw[hj] at this
  exact this
 obtain⟨R,HR⟩:∃ R,Hid (A3t g n M l=R):=⟨_,rfl⟩
 have hwt:∀ U,Below V.heap.size V U→Calls Tryz.prog 21 #[.agg #[.slice (some ⟨bm,om,none⟩) nm cm,.slice ae ne ce],.agg #[.string (S M.name),.slice af nf kf,.slice ab nb kb],.slice ao k c,.int .i64 (D+1)] U fun e w'=>∃ (i0:Option Addr) (j0 l0:Nat) (i1:Option Addr) (j1 l1:Nat) (E:Int),e = .returned (.tuple #[.agg #[.slice i0 j0 l0,.slice i1 j1 l1],.int .i64 E])∧Hid (DRes n U.heap.size R i0 j0 l0 i1 j1 l1 E w')∧Below U.heap.size U w':=fun U hU=>by
  refine(ih U _ _ _ _ _ _ _ _ _ ab nb kb M ao k c l (D+1) (by omega) (by omega) (fun i hi=>(hI i hi).below (KBT hV hU)) ba (au.below FAt.stays hU) (hq.below YAt.stays hU) (by have h:N n (msgD g t) l:=hQ;rw[em] at h;exact h)).mono ?_
  intro e w' ho
  rw[HR.out] at ho
  obtain⟨i0,j0,l0,i1,j1,l1,E,h1,h2,h3⟩:=ho.open
  exact⟨i0,j0,l0,i1,j1,l1,E,h1,h2,h3⟩
 show Calls Tryz.prog 46 #[.string (S t),.slice ao k c,.pointer (some ⟨cf,0,none⟩),.pointer (some ⟨cd,0,none⟩)] V fun e w'=>DOut n V (A3t g n (msgD g t) l) e w'
 rw[em,HR.out]
 have hd:Below V.heap.size V W1.drew:=KBT hb1 (Below.refl _ _).drew
 have bc:Below W1.heap.size W1 W1.drew:=(Below.refl _ _).drew
 clear hat s0 s1 s2 ah hj ht ih hq au bg hI hg em ba hD bp bh
 go_enter Tryz.func46,Tryz.ntmps46
 go_wp2_with fail
 rw[←ag.out]
 refine wp_region_held_drew (S:=fun U=>Below V.heap.size V U) (by kernel_rfl) hd (fun hHeld=>?_)
 refine tK (i:=0) (v:=?vr1) rfl ⟨by rfl,?hyr1⟩ ?_
 case hyr1=>(intro W h;have:=ac W h;go_simp;first|done|with_reducible rfl)
 try simp only[pT,Act.put]
 refine tK (i:=1) (v:=?vr2) rfl ⟨by rfl,?hyr2⟩ ?_
 case hyr2=>(intro W h;have:=ac W h;go_simp;first|done|with_reducible rfl)
 try simp only[pT,Act.put]
 refine tK (i:=2) (v:=?vr3) rfl ⟨by rfl,?hyr3⟩ ?_
 case hyr3=>(intro W h;have:=ac W h;go_simp;first|done|with_reducible rfl)
 try simp only[pT,Act.put]
 refine tK (i:=3) (v:=?vr4) rfl ⟨by rfl,?hyr4⟩ ?_
 case hyr4=>(intro W h;have:=ac W h;go_simp;first|done|with_reducible rfl)
 try simp only[pT,Act.put]
 refine tK (i:=4) (v:=?vr5) rfl ⟨by rfl,?hyr5⟩ ?_
 case hyr5=>(intro W h;have:=ac W h;go_simp;first|done|with_reducible rfl)
 try simp only[pT,Act.put]
 refine tK (i:=8) (v:=?vr6) rfl ⟨by rfl,?hyr6⟩ ?_
 case hyr6=>(intro W h;have:=ac W h;go_simp;first|done|with_reducible rfl)
 try simp only[pT,Act.put]
 refine tK (i:=9) (v:=?vr7) rfl ⟨by rfl,?hyr7⟩ ?_
 case hyr7=>(intro W h;have:=ac W h;go_simp;first|done|with_reducible rfl)
 try simp only[pT,Act.put]
 refine tK (i:=10) (v:=?vr8) rfl ⟨by rfl,?hyr8⟩ ?_
 case hyr8=>(intro W h;have:=ac W h;go_simp;first|done|with_reducible rfl)
 try simp only[pT,Act.put]
 refine rA (i:=5) rfl fun K hK=>?_
 go_simp
 refine(bu _ hd).mono ?_
 rintro e w2 ⟨rfl,hb2⟩
 have ak:=KBT hd hb2
 refine hK.out _ _ ?_ (fun hHeld=>?_)
 ·(try dsimp only);with_reducible assumption
 clear hK K
 try simp only[pT,Act.put]
 refine tK (i:=6) (v:=?vr9) rfl ⟨by rfl,?hyr9⟩ ?_
 case hyr9=>(intro W h;have:=ac W h;go_simp;first|done|with_reducible rfl)
 try simp only[pT,Act.put]
 refine tK (i:=7) (v:=?vr10) rfl ⟨by rfl,?hyr10⟩ ?_
 case hyr10=>(intro W h;have:=ac W h;go_simp;first|done|with_reducible rfl)
 try simp only[pT,Act.put]
 refine rA (i:=11) rfl fun K hK=>?_
 go_simp
 (try rw[ed])
 refine(hwt _ ak).mono ?_
 rintro e w3 ⟨i0,j0,l0,i1,j1,l1,E,rfl,aj,hb3⟩
 have bk:=KBT ak hb3
 have aw:=((KBT (KBT bc hb2) hb3).block _ (by omega)).trans x1
 obtain⟨p0,p1⟩:=A0y aw
 have pf:=A0b aw
 have bn:Below V.heap.size V ((w3.setCell ⟨V.heap.size,0,none⟩ (.slice i0 j0 l0)).setCell ⟨V.heap.size,1,none⟩ (.slice i1 j1 l1)):=KB_set (KB_set bk (Nat.le_refl _)) (Nat.le_refl _)
 refine hK.out _ _ ?_ (fun hHeld=>?_)
 ·(try dsimp only);with_reducible assumption
 clear hK K
 try simp only[pT,Act.put]
 refine tK (i:=12) (v:=?vr11) rfl ⟨by rfl,?hyr11⟩ ?_
 case hyr11=>(intro W h;have:=ac W h;go_simp;first|done|with_reducible rfl)
 try simp only[pT,Act.put]
 refine tK (i:=13) (v:=?vr12) rfl ⟨by rfl,?hyr12⟩ ?_
 case hyr12=>(intro W h;have:=ac W h;go_simp;first|done|with_reducible rfl)
 try simp only[pT,Act.put]
 refine rA (i:=14) rfl fun K hK=>?_
 go_simp
 refine hK.out _ _ ?_ (fun hHeld=>?_)
 ·(try dsimp only);with_reducible assumption
 clear hK K
 try simp only[pT,Act.put]
 refine tK (i:=15) (v:=?vr13) rfl ⟨by rfl,?hyr13⟩ ?_
 case hyr13=>(intro W h;have:=ac W h;go_simp;first|done|with_reducible rfl)
 try simp only[pT,Act.put]
 refine wpAnyH_done (by kernel_rfl) ?_ _
 go_wp2_with fail
 refine bodyPost_ret (v:=.tuple #[.agg #[.slice i0 j0 l0,.slice i1 j1 l1],.int .i64 E]) (by simp[results,Tryz.results46,go_sem, *]) rfl ?_
 have hz2:=(KBT bc hb2).size
 exact(aj.out.fr (fr2 aw) (by omega)).out ak.size bn
def TRes (n B L:Nat)(res:Except Int (VI (BI n)))(q:Int)(a1:Option Addr)(n1 c1:Nat)(a2:Option Addr)(n2 c2:Nat)(a3:Option Addr)(n3 c3:Nat)(E:Int)(w:World):Prop:=
 match res with
 | .error E'=>E=E'∧E≠0
 | .ok y=>E=0∧∃ y':VL (LB n),y'.number=q∧y'.p1=(a1,n1,c1)∧y'.p2=(a2,n2,c2)∧y'.p3=(a3,n3,c3)∧VL.pl (LB.pl n) y'=y∧OwnV (ekB n) (OwnB B n) w B y'∧(∀ k∈VL.fp (LB.fp n) y',L≤k)∧(VL.fp (LB.fp n) y').Nodup
theorem TOut.open {n B:Nat}{w w':World}{res:Except Int (VI (BI n))}{e:Ending}(h:TOut n B w res e w'):∃ (q:Int) (a1:Option Addr) (n1 c1:Nat) (a2:Option Addr) (n2 c2:Nat) (a3:Option Addr) (n3 c3:Nat) (E:Int),e = .returned (.tuple #[.agg #[.int .i64 q,.slice a1 n1 c1,.slice a2 n2 c2,.slice a3 n3 c3],.int .i64 E])∧TRes n B w.heap.size res q a1 n1 c1 a2 n2 c2 a3 n3 c3 E w'∧Below w.heap.size w w':=by
 obtain⟨hb,h⟩:=h
 cases res with
 | error E'=>
  obtain⟨h1,q,a1,n1,c1,a2,n2,c2,a3,n3,c3,rfl⟩:=h
  exact⟨q,a1,n1,c1,a2,n2,c2,a3,n3,c3,E',rfl,⟨rfl,h1⟩,hb⟩
 | ok y=>
  obtain⟨y',rfl,h1,h2,h3,h4⟩:=h
  obtain⟨nu,bi,ac,su,⟨a1,n1,c1⟩,⟨a2,n2,c2⟩,⟨a3,n3,c3⟩⟩:=y'
  exact⟨nu,a1,n1,c1,a2,n2,c2,a3,n3,c3,0,rfl,⟨rfl,_,rfl,rfl,rfl,rfl,h1,h2,h3,h4⟩,hb⟩
theorem TRes.fr {n B L L':Nat}{res:Except Int (VI (BI n))}{q:Int}{a1:Option Addr}{n1 c1:Nat}{a2:Option Addr}{n2 c2:Nat}{a3:Option Addr}{n3 c3:Nat}{E:Int}{w w':World}{F:List Nat}(h:TRes n B L res q a1 n1 c1 a2 n2 c2 a3 n3 c3 E w)(hf:FrB F w w')(hF:∀ k∈F,k<L)(hL:L'≤L):TRes n B L' res q a1 n1 c1 a2 n2 c2 a3 n3 c3 E w':=by
 cases res with
 | error E'=>exact h
 | ok y=>
  obtain⟨h0,y',g1,g2,g3,g4,h1,h2,h3,h4⟩:=h
  exact⟨h0,y',g1,g2,g3,g4,h1,OwnV.fr (OwnB.fr n) h2 hf (fun k hk hm=>by have:=h3 k hk;have:=hF k hm;omega),fun k hk=>Nat.le_trans hL (h3 k hk),h4⟩
def D9i (d:Nat)(L:Nat)(b0:Option Addr)(m0 d0:Nat)(b1:Option Addr)(m1 d1:Nat)(b:BO (BI d))(res:Except Int (BO (BI d)))(i0:Option Addr)(j0 l0:Nat)(i1:Option Addr)(j1 l1:Nat)(E:Int)(w':World):Prop:=
 match res with
 | .error E'=>E=E'∧E≠0
 | .ok b'=>E=0∧((b'=b∧i0=b0∧j0=m0∧l0=d0∧i1=b1∧j1=m1∧l1=d1)∨∃ c:LB (d+1),C0f (d+1) c = [.slice i0 j0 l0,.slice i1 j1 l1]∧LB.pl (d+1) c=b'∧OwnB L (d+1) w' c∧(LB.fp (d+1) c).Nodup)
theorem WOut.open {d:Nat}{w w':World}{b0:Option Addr}{m0 d0:Nat}{b1:Option Addr}{m1 d1:Nat}{b:BO (BI d)}{res:Except Int (BO (BI d))}{e:Ending}(h:WOut d w (.slice b0 m0 d0) (.slice b1 m1 d1) b res e w'):∃ (i0:Option Addr) (j0 l0:Nat) (i1:Option Addr) (j1 l1:Nat) (E:Int),e = .returned (.tuple #[.agg #[.slice i0 j0 l0,.slice i1 j1 l1],.int .i64 E])∧D9i d w.heap.size b0 m0 d0 b1 m1 d1 b res i0 j0 l0 i1 j1 l1 E w':=by
 cases res with
 | error E'=>
  obtain⟨h1,rfl⟩:=h
  exact⟨none,0,0,none,0,0,E',rfl,rfl,h1⟩
 | ok b'=>
  rcases h with⟨rfl,rfl⟩|⟨c,i0,j0,l0,i1,j1,l1,h1,rfl,h2,h3,h4⟩
  ·exact⟨b0,m0,d0,b1,m1,d1,0,rfl,rfl,.inl ⟨rfl,rfl,rfl,rfl,rfl,rfl,rfl⟩⟩
  ·exact⟨i0,j0,l0,i1,j1,l1,0,rfl,rfl,.inr ⟨c,h1,h2,h3,h4⟩⟩
structure DSt (n B L:Nat) (w:World) (cc:BL (LB n)) (b:BO (BI n)) (u:PV) (ul:List (RI×PV)):Prop where
 own:OwnB B (n+1) w cc
 pl:LB.pl (n+1) cc=b
 nd:(LB.fp (n+1) cc).Nodup
 lo:∀ k∈LB.fp (n+1) cc,L≤k
 ur:Row ekR w B u.v ul
 uy:∀ r∈ul,Row ekY w B r.2.v r.1.bytes
 ulo:∀ k∈own1 u,L≤k∧k∉LB.fp (n+1) cc
section
variable {n B L:Nat}{w w':World}{cc:BL (LB n)}{b:BO (BI n)}{u:PV}{ul:List (RI×PV)}
theorem DSt.fr (h:DSt n B L w cc b u ul){F:List Nat}(hf:FrB F w w')(hF:∀ k∈F,k<L):DSt n B L w' cc b u ul:=
 ⟨OwnB.fr (n+1) F _ _ _ h.own hf (fun k hk hm=>by have:=h.lo k hk;have:=hF k hm;omega),h.pl,h.nd,h.lo,Row.frB h.ur hf (fun k hk hm=>by have:=(h.ulo k hk).1;have:=hF k hm;omega),fun r hr=>(h.uy r hr).frY hf,h.ulo⟩
theorem A9r {p:PV}{k:Nat}:k∈own1 p↔p.v.ownBlock=some k:=by unfold own1;simp
theorem DSt.ult (h:DSt n B L w cc b u ul):∀ k∈own1 u,k<w.heap.size:=fun k hk=>(World.ownsRow.lt h.ur k (A9r.1 hk)).2
theorem DSt.nil (n B L:Nat)(w:World):DSt n B L w ⟨[],[],(none,0,0),(none,0,0)⟩ ⟨[],[]⟩ (none,0,0) []:=
 ⟨⟨World.ownsRow_nil _ _ _ _,fun v hv=>(List.not_mem_nil hv).elim,World.ownsRow_nil _ _ _ _,fun v hv=>(List.not_mem_nil hv).elim⟩,rfl,List.nodup_nil,fun k hk=>(List.not_mem_nil (show k∈[] from hk)).elim,World.ownsRow_nil _ _ _ _,fun v hv=>(List.not_mem_nil hv).elim,fun k hk=>(List.not_mem_nil (show k∈[] from hk)).elim⟩
theorem DSt.new (h:DSt n B L w cc b u ul){ac:BL (LB n)}{b':BO (BI n)}(hs:L≤w.heap.size)(hB:B≤w.heap.size)(hw:DSt n B L w' cc b u ul)(ho:OwnB w.heap.size (n+1) w' ac)(hp:LB.pl (n+1) ac=b')(hn:(LB.fp (n+1) ac).Nodup):DSt n B L w' ac b' u ul:=
 ⟨OwnB.mono (n+1) ho hB,hp,hn,fun k hk=>by have:=(OwnB.inB (n+1) ho k hk).1;omega,hw.ur,hw.uy,fun k hk=>⟨(h.ulo k hk).1,fun hm=>by have:=(OwnB.inB (n+1) ho k hm).1;have:=h.ult k hk;omega⟩⟩
theorem DSt.app_fr (h:DSt n B L w cc b u ul)(hg:w.grownBy w' u.v.ownBlock):FrB (own1 u) w w':=
 B5u hg (t:=106) (by decide) (fun g hg=>by
  rcases h.ur.2 with⟨hv,_⟩|⟨g',cap,cur,hv,_,hc,_⟩
  ·rw[hv] at hg
   cases hg
  ·rw[hv] at hg
   cases hg
   exact⟨_,_,hc⟩) (fun g hg=>A9r.2 hg)
theorem DSt.app (h:DSt n B L w cc b u ul){u':PV}{a:RI×PV}(hs:L≤w.heap.size)(hg:w.grownBy w' u.v.ownBlock)(hr:Row ekR w' B u'.v (ul++[a]))(hk:∀ k,u'.v.ownBlock=some k→u.v.ownBlock=some k∨w.heap.size≤k)(ha:Row ekY w B a.2.v a.1.bytes):DSt n B L w' cc b u' (ul++[a]):=by
 have hf:=h.app_fr hg
 refine⟨OwnB.fr (n+1) _ _ _ _ h.own hf (fun k hk hm=>(h.ulo k hm).2 hk),h.pl,h.nd,h.lo,hr,fun r ag=>?_,fun k ac=>?_⟩
 ·rcases List.mem_append.1 ag with h1|h1
  ·exact(h.uy r h1).frY hf
  ·rw[List.mem_singleton.1 h1]
   exact ha.frY hf
 ·rcases hk k (A9r.1 ac) with h1|h1
  ·exact h.ulo k (A9r.2 h1)
  ·exact⟨by omega,fun hm=>by have:=(OwnB.inB (n+1) h.own k hm).2;omega⟩
theorem DSt.fin (h:DSt n B L w cc b u ul):OwnB B (n+1) w (⟨cc.vals,ul,cc.q0,u⟩:BL (LB n))∧LB.pl (n+1) (⟨cc.vals,ul,cc.q0,u⟩:BL (LB n))=(⟨b.vals,ul.map Prod.fst⟩:BO (BI n))∧(LB.fp (n+1) (⟨cc.vals,ul,cc.q0,u⟩:BL (LB n))).Nodup∧∀ k∈LB.fp (n+1) (⟨cc.vals,ul,cc.q0,u⟩:BL (LB n)),L≤k:=by
 have ho:OwnL (ekB n) (OwnB B n) w B cc:=h.own
 refine⟨⟨ho.r0,ho.r0v,h.ur,h.uy⟩,?_,List.nodup_iff_count.2 fun k=>?_,fun k hk=>?_⟩
 ·have:=congrArg BO.vals (show(⟨cc.vals.map (VL.pl (LB.pl n)),cc.unk.map Prod.fst⟩:BO (BI n))=b from h.pl)
  show(⟨cc.vals.map (VL.pl (LB.pl n)),ul.map Prod.fst⟩:BO (BI n))=_
  rw[←this]
 ·have h1:=List.nodup_iff_count.1 h.nd k
  have e1:LB.fp (n+1) cc=own1 cc.q0++own1 cc.q1++cc.vals.flatMap (VL.fp (LB.fp n)):=rfl
  show(own1 cc.q0++own1 u++cc.vals.flatMap (VL.fp (LB.fp n))).count k≤1
  have h2:(own1 u).count k≤1:=by
   unfold own1
   cases u.v.ownBlock with
   | none=>simp
   | some g=>simp only[Option.toList_some];by_cases e:g=k <;> simp[e]
  rw[e1] at h1
  simp only[List.count_append] at h1 ⊢
  by_cases h3:k∈own1 u
  ·have h4:=(h.ulo k h3).2
   rw[e1] at h4
   have h5:=List.count_eq_zero.2 h4
   simp only[List.count_append] at h5
   omega
  ·have:=List.count_eq_zero.2 h3
   omega
 ·have ac:k∈own1 cc.q0++own1 u++cc.vals.flatMap (VL.fp (LB.fp n)):=hk
  have e1:LB.fp (n+1) cc=own1 cc.q0++own1 cc.q1++cc.vals.flatMap (VL.fp (LB.fp n)):=rfl
  by_cases h3:k∈own1 u
  ·exact(h.ulo k h3).1
  ·refine h.lo k ?_
   rw[e1]
   simp only[List.mem_append] at ac ⊢
   rcases ac with(h4|h4)|h4
   ·exact .inl (.inl h4)
   ·exact absurd h4 h3
   ·exact .inr h4
end
end L
end Go.Proofs.YtgaoojpakjjdnaaGreatDoor
