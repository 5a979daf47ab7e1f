import Derived.Test.YthcomdofaaeihaaGreatDoorV40
set_option maxHeartbeats 32000000
set_option maxRecDepth 100000
set_option linter.unusedVariables false
namespace Go.Proofs.YthcomdofaaeihaaGreatDoor
namespace L
open Go.RowKit
variable{k ce cm nm ne c:Nat}{msg:Int}{am ae ao:Option Addr}{l:List UInt8}{g:GI}{w:World}
def qR (g:GI)(msg:Int)(l:List UInt8):Except Int (BI 12):=
 if (yB g).1≠0 then .error (yB g).1
 else if msg<0∨(g.mG.length:Int)≤msg then .error 6
 else match g.mG[msg.toNat]? with
  | some m=>vR g 12 m l
  | none=>.error 6
theorem WIn.any (h:WIn g am nm cm ae ne ce msg w)(j:Nat)(hj:j<g.mG.length):WIn g am nm cm ae ne ce (j:Int) w:=⟨h.hg,h.n1,h.n2,h.fit,h.fok,h.tabs,by omega,by have:=h.n1;omega⟩
theorem WIn.gd (h:WIn g am nm cm ae ne ce msg w)(hr:(yB g).1=0):FGd g:=⟨fun M hM x hx=>((h.fok M hM).1 x hx).1,fun M hM x hx hk=>sY hr M hM x hx hk⟩
theorem XI{P:Prop}(h:P:=by
 go_wp2_with fail
 refine bodyPost_ret (v:=.tuple #[.agg #[.slice none 0 0,.slice none 0 0],.int .i64 6]) (by simp[results,Tryz.results10,go_sem, *]) rfl ?_;rw[HT.out];exact⟨by decide,rfl,by first|exact ac|exact zT (zT ac (by omega)) (by omega)⟩):P:=h
theorem C5s {N:Nat→MI→List UInt8→Prop}(bn:Hid (NjC g N))(hI:WIn g am nm cm ae ne ce msg w)(hl:RdL 1 YAt w (.slice ao k c) l)(bu:Hid (∀ (j:Nat) (M:MI),msg=(j:Int)→g.mG[j]?=some M→N 12 M l)) :
  Calls Tryz.prog 10 #[.agg #[.slice am nm cm,.slice ae ne ce],.int .i64 msg,.slice ao k c] w fun e w'=>DOut 12 w (qR g msg l) e w':=by
 obtain⟨W2,cj,hb2,z2,x1,x2⟩:=uD w (.cells #[.slice am nm cm,.slice ae ne ce] 25) (.cells #[.slice none 0 0,.slice none 0 0] 29);have hwr:=B6x (hI.hg.bL hb2) hI.n1 hI.n2 hI.fit;obtain⟨Q,HQ⟩:=zM ((yB g).1);obtain⟨QI,cg⟩:=zM ((((yB g).2:Nat):Int));rw[←HQ.out,←cg.out] at hwr;have ak:Hid (nm=g.mG.length):=hI.hg.1.len.1;obtain⟨R,HR⟩:=yP (qR g msg l);rw[HR.out];have HI:Hid (WIn g am nm cm ae ne ce msg w):=hI;have HL:=zI hl;clear hI hl;obtain⟨y0,y1⟩:=zO x1;go_enter Tryz.func10,Tryz.ntmps10;go_upto_region 1 with fail
 rw[←cj.out];go_wp2_with fail
 refine hwr.mono ?_;rintro r w3 ⟨rfl,hb3⟩;obtain⟨W4,cu,au,x4,dr⟩:=zV w3 (.cells #[.int .i64 Q,.int .i64 QI] 54);have ah:=zP hb3 au;have ac:=zP hb2 ah;have hz3:=hb3.size;clear y0 y1 hwr;go_upto_region 2 with fail
 rw[←cu.out];obtain⟨t0,t1⟩:=zO x4;obtain⟨y0,y1⟩:=zO ((zN ah).trans x1);have bg:=(zN ah).trans x2;obtain⟨p0,p1⟩:=zO bg;have pf:=zJ bg;have n1:¬ w3.heap.size=w.heap.size+1:=by omega
 have n2:¬ w.heap.size+1=w3.heap.size:=by omega
 by_cases hQ0:Q=0
 ·have hr:(yB g).1=0:=by rw[←HQ.out];exact hQ0
  subst hQ0;by_cases hlo:msg<0
  ·have HT:Hid (R = .error 6):=by show _=_;rw[←HR.out,qR,zC (by rw[hr];simp),zF (.inl hlo)]
   exact XI
  by_cases hhi:(nm:Int)≤msg
  ·have HT:Hid (R = .error 6):=by show _=_;rw[←HR.out,qR,zC (by rw[hr];simp),zF (.inr (by rw[←ak.out];exact hhi))]
   have aw:=hlo;exact XI
  obtain⟨j,Hj⟩:∃ j:Nat,Hid (msg=(j:Int)):=⟨msg.toNat,by show _=_;omega⟩
  obtain⟨M,hM⟩:∃ M,g.mG[j]?=some M:=⟨g.mG[j]'(by have:=Hj.out;have:=ak.out;omega),vG _⟩
  have HT:Hid (R=vR g 12 M l):=by
   show _=_;have e:msg.toNat=j:=by have:=Hj.out;omega
   rw[←HR.out,qR,zC (by rw[hr];simp),zC (by rw[←ak.out];omega),e,hM]
  obtain⟨bm,om,rfl,hat⟩:=HI.out.hg.1.get MAt.plain hM;obtain⟨vf,vb,s0,s1,s2,ba,bl⟩:=hat.at;obtain⟨af,nf,kf,rfl,_,_⟩:=ba.sH;obtain⟨ab,nb,kb,rfl,_,_⟩:=bl.sH;have aw:=hlo;have di:msg<(nm:Int):=by omega
  have hd:=ac.drew;have dh:zB W4 W4.drew:=(zH _ _).drew;have ag:∀ V,Below (w.heap.size+1) W2 V→V.cell? ⟨w.heap.size,0,none⟩=some (.slice (some ⟨bm,om,none⟩) nm cm)∧V.cell? ⟨w.heap.size,1,none⟩=some (.slice ae ne ce)∧V.cell? ⟨bm,om+j*3,none⟩=some (.string (S M.name))∧V.cell? ⟨bm,om+j*3+1,none⟩=some (.slice af nf kf)∧V.cell? ⟨bm,om+j*3+2,none⟩=some (.slice ab nb kb):=fun V hV=>by
   have bc:=hb2.trans (hV.mono (by omega));obtain⟨e1,e2⟩:=zO ((zN hV).trans x1);exact⟨e1,e2,zQ bc s0,zQ bc s1,zQ bc s2⟩
  have dm:∀ U,zB w U→Calls Tryz.prog 20 #[.agg #[.slice (some ⟨bm,om,none⟩) nm cm,.slice ae ne ce],.agg #[.string (S M.name),.slice af nf kf,.slice ab nb kb],.slice ao k c,.int .i64 1] U fun e w'=>∃ (i0:Option Addr) (j0 l0:Nat) (i1:Option Addr) (j1 l1:Nat) (E:Int),e = .returned (.tuple #[.agg #[.slice i0 j0 l0,.slice i1 j1 l1],.int .i64 E])∧Hid (DRes 12 U.heap.size R i0 j0 l0 i1 j1 l1 E w')∧zB U w':=fun U hU=>by
   refine(C2w (HI.out.gd hr) bn 12 U _ _ _ _ _ _ _ _ _ ab nb kb M ao k c l 1 (by decide) (by decide) (fun i hi=>(HI.out.bL hU).any i hi) (xV hM) (ba.bL FAt.sT hU) (HL.out.bL YAt.sT hU) (bu.out j M Hj.out hM)).mono ?_;intro e w' ho;rw[←HT.out] at ho;obtain⟨i0,j0,l0,i1,j1,l1,E,h1,h2,h3⟩:=ho.open;exact⟨i0,j0,l0,i1,j1,l1,E,h1,h2,h3⟩
  have bk:Below (w.heap.size+1) W2 W4.drew:=(ah.drew).mono (by omega);clear hat s0 s1 s2 ba bl hM;have dl:=Hj.out;subst dl;go_upto_region 6 with fail
  refine wp_region_held_drew (S:=fun U=>Below (w.heap.size+1) W2 U) (by kernel_rfl) bk (fun hHeld=>?_);refine zTk 0 rfl ag ?_
  try simp only[zE]
  refine zTk 1 rfl ag ?_
  try simp only[zE]
  refine zTk 2 rfl ag ?_
  try simp only[zE]
  refine zTk 3 rfl ag ?_
  try simp only[zE]
  refine zTk 4 rfl ag ?_
  try simp only[zE]
  refine zTk 5 rfl ag ?_
  try simp only[zE]
  refine zTk 6 rfl ag ?_
  try simp only[zE]
  refine rA (i:=7) rfl fun K hK=>?_
  go_simp;refine(dm _ hd).mono ?_;rintro e w5 ⟨i0,j0,l0,i1,j1,l1,E,rfl,aj,av⟩;have cw:=zP hd av;have bh:=(zN (zP dh av)).trans bg;have dg:=bk.trans (av.mono (by have:=ac.size;show _≤W4.heap.size;omega));obtain⟨dt,dv⟩:=zO bh;have dw:=zJ bh;have df:zB w ((w5.setCell ⟨w.heap.size+1,0,none⟩ (.slice i0 j0 l0)).setCell ⟨w.heap.size+1,1,none⟩ (.slice i1 j1 l1)):=zT (zT cw (by omega)) (by omega);have dp:Below (w.heap.size+1) W2 ((w5.setCell ⟨w.heap.size+1,0,none⟩ (.slice i0 j0 l0)).setCell ⟨w.heap.size+1,1,none⟩ (.slice i1 j1 l1)):=zT (zT dg (zG _)) (zG _);refine hK.out _ _ ?_ (fun hHeld=>?_)
  ·(try dsimp only);with_reducible assumption
  clear hK K
  try simp only[zE]
  refine zTk 8 rfl ag ?_
  try simp only[zE]
  refine zTk 9 rfl ag ?_
  try simp only[zE]
  refine rA (i:=10) rfl fun K hK=>?_
  go_simp;refine hK.out _ _ ?_ (fun hHeld=>?_)
  ·(try dsimp only);with_reducible assumption
  clear hK K
  try simp only[zE]
  refine zTk 11 rfl ag ?_
  try simp only[zE]
  refine wpAnyH_done (by kernel_rfl) ?_ _;go_wp2_with fail
  refine bodyPost_ret (v:=.tuple #[.agg #[.slice i0 j0 l0,.slice i1 j1 l1],.int .i64 E]) (by simp[results,Tryz.results10,go_sem, *]) rfl ?_;have dn:=ac.size;exact(aj.out.fr (fr2 bh) (show w.heap.size+1<W4.heap.size by omega)).out dn df
 have HT:Hid (R = .error Q):=by show _=_;rw[←HR.out,qR,zF (by rw[←HQ.out];exact hQ0),HQ.out]
 have ez:(Q != 0)=true:=by simpa using hQ0
 go_upto_region 3 with fail
 go_region
 all_goals
  go_wp2_with fail
  refine bodyPost_ret (v:=.tuple #[.agg #[.slice none 0 0,.slice none 0 0],.int .i64 Q]) (by simp[results,Tryz.results10,go_sem, *]) rfl ?_;rw[HT.out];exact⟨hQ0,rfl,(zT (zT ac (by omega)) (by omega)).drew⟩
theorem C5t (HS:Hid (∀ M∈g.mG,∀ x∈M.fD,x.many=false→x.kind=10→iQ g x))(hI:WIn g am nm cm ae ne ce msg w)(hl:RdL 1 YAt w (.slice ao k c) l) :
  Calls Tryz.prog 10 #[.agg #[.slice am nm cm,.slice ae ne ce],.int .i64 msg,.slice ao k c] w fun e w'=>DOut 12 w (qR g msg l) e w':=
 C5s (N:=fun _ _ _=>True) ⟨fun {n M l rs A i r x} _ hM _ _ hx hk=>⟨trivial,fun hm=>.inl (HS.out M hM x (xL hx) hm hk)⟩⟩ hI hl (fun _ _ _ _=>trivial)
theorem D0a (hI:WIn g am nm cm ae ne ce msg w)(hl:RdL 1 YAt w (.slice ao k c) l) :
  Calls Tryz.prog 10 #[.agg #[.slice am nm cm,.slice ae ne ce],.int .i64 msg,.slice ao k c] w fun e w'=>DOut 12 w (qR g msg l) e w':=
 C5t (fun _ _ x _ hm hk=>C1f g x hm hk) hI hl
theorem D0l {n:Nat}{m:MI}{s:BI (n+1)}(h:vR g (n+1) m l = .ok s):∃ rs A,uL l=(rs,0,A)∧tN g (fun t l=>vR g n (msgD g t) l) m.fD (rs.map xR) ⟨[],[]⟩ [] = .ok s:=by
 obtain⟨rs,E,A,hp⟩:∃ rs E A,uL l=(rs,E,A):=⟨_,_,_,rfl⟩
 by_cases hE:E≠0
 ·rw[YM hp hE] at h;cases h
 have hE:E=0:=by omega
 subst hE;rw[ZW hp] at h;exact⟨rs,A,hp,h⟩
theorem UP (acc:List UInt8)(r:RI)(l:List RI):rL acc (r::l)=if yW r.nU r.how r.bits r.bytes.length≠0 then([],yW r.nU r.how r.bits r.bytes.length) else if 4000<(acc++recN r.nU r.how r.bits r.bytes).length then([],4) else rL (acc++recN r.nU r.how r.bits r.bytes) l:=rfl
theorem C7b {num how:Int}{bits len:Nat}(h:yW num how bits len=0):len≤4000:=B9j h
end L
end Go.Proofs.YthcomdofaaeihaaGreatDoor
namespace Go.Proofs.YthcomdofaaeihaaGreatDoor
theorem C8z:∀ (k n:Nat),L.klow k n=qD k n
 | 0,_=>rfl
 | k+1,n=>by rw[L.klow,qD,C8z k]
theorem D8r (num how:Int)(bits:Nat)(l:List UInt8):L.recN num how bits l=rJ num how bits l:=by
 unfold L.recN rJ L.ktagN mI L.kputB;by_cases h2:how=2
 ·rw[zF h2,zF h2]
 rw[zC h2,zC h2,C8z];rfl
namespace L
open Go.RowKit
variable{β:Type}{n:Nat}{k kind:Int}{g:GI}{x:FI}{m:MI}{v:VI β}
def WH (r:RI):Rcd:=⟨r.nU,r.how,r.bits,r.bytes⟩
theorem B6z:∀ (l:List RI) (i:Nat) (acc:List UInt8),∃ a,pR i acc (l.map WH)=((rL acc l).1,(rL acc l).2,a)
 | [],i,acc=>⟨0,rfl⟩
 | r::l,i,acc=>by
  rw[wS,pR,UP]
  show ∃ a,(if yW r.nU r.how r.bits r.bytes.length≠0 then _ else if 4000<(acc++rJ r.nU r.how r.bits r.bytes).length then _ else pR (i+1) (acc++rJ r.nU r.how r.bits r.bytes) (l.map WH))=_
  rw[D8r]
  by_cases h1:yW r.nU r.how r.bits r.bytes.length≠0
  ·rw[zF h1,zF h1]
   exact⟨_,rfl⟩
  ·rw[zC h1,zC h1]
   by_cases h2:4000<(acc++rJ r.nU r.how r.bits r.bytes).length
   ·rw[zF h2,zF h2]
    exact⟨_,rfl⟩
   ·rw[zC h2,zC h2]
    exact B6z l (i+1) _
theorem B7a:∀ (l:List RI) (acc:List UInt8),(rL acc l).2=0→∀ r∈l,yW r.nU r.how r.bits r.bytes.length=0
 | r::l,acc,h,q,hq=>by
  rw[UP] at h
  by_cases h1:yW r.nU r.how r.bits r.bytes.length≠0
  ·rw[zF h1] at h;exact absurd h h1
  ·rw[zC h1] at h
   by_cases h2:4000<(acc++recN r.nU r.how r.bits r.bytes).length
   ·rw[zF h2] at h;cases h
   ·rw[zC h2] at h
    rcases yY.1 hq with rfl|hq
    ·exact Decidable.not_not.1 h1
    ·exact B7a l _ h q hq
theorem B2p {l:List UInt8}{rs:List Rcd}{A:Nat}(h:uL l=(rs,0,A)):∀ r∈rs,yW r.num r.how r.bits r.bytes.length=0:=by
 obtain⟨p,hp,_,_,_⟩:=C0s h;obtain⟨a,ha⟩:=B6z (rs.map xR) 0 [];have e:(rs.map xR).map WH=rs:=by
  rw[jQ];exact(List.map_congr_left (fun _ _=>rfl)).trans (List.map_id _)
 rw[e,hp] at ha;have h2:(rL [] (rs.map xR)).2=0:=(congrArg (fun q=>q.2.1) ha).symm;intro r hr;exact B7a _ _ h2 (xR r) (bG hr)
theorem B7i (h1:1≤kind)(h7:kind≤7)(hs:kind=7→n<4294967296):yU kind (xN kind n)=0:=by
 by_cases h2:kind=1∨kind=2∨kind=3∨kind=6
 ·unfold yU;rw[zF h2]
 by_cases h4:kind=4
 ·have e:xN kind n=min n 1:=by unfold xN;rw[zC (by omega),zF h4]
  unfold yU;rw[e,zC h2,zF h4,zF (by omega)]
 by_cases h5:kind=5
 ·have e:xN kind n=if n%4294967296<2147483648 then n%4294967296 else n%4294967296+18446744069414584320:=by unfold xN;rw[zC (by omega),zC h4,zF h5]
  unfold yU;rw[zC h2,zC h4,zF h5,zF];rw[e];unfold kQ;simp only[jN,decide_eq_true_eq];split <;> omega
 have e:xN kind n=n:=by unfold xN;rw[zC (by omega),zC h4,zC h5]
 have:=hs (by omega);unfold yU;rw[e,zC h2,zC h4,zC h5,zF (by omega),zF (by omega)]
theorem C3y (hf:yU kind n=0)(h5:yI kind=5):wH kind n<4294967296:=by
 have hk:kind=7:=by
  unfold yI at h5;split at h5
  ·omega
  split at h5
  ·assumption
  split at h5 <;> omega
 subst hk;unfold yU at hf;rw[zC (by decide),zC (by decide),zC (by decide),zF rfl] at hf;unfold wH;rw[zC (by decide)];split at hf
 ·omega
 cases hf
def aV {β:Type}(a b:VI β):VI β:=⟨a.nU,a.bits++b.bits,a.bytes++b.bytes,a.subs++b.subs⟩
theorem C2k (a b:VI β):yS (aV a b)=yS a+yS b:=by
 unfold yS aV;simp only[yQ];omega
theorem TH {J:MI→β→β→β}{ms:List MI}(hm:x.many=true)(a b:VI β):zX J ms x a b=aV a b:=by
 unfold zX;rw[zF hm];rfl
theorem dX (h:vK x v=false):1≤yS v∧yS v≤60∧(1<yS v→x.many=true):=by
 unfold vK at h;simp only[pF,jL,uZ,Bool.not_eq_eq_eq_not,jS] at h;obtain⟨h1,h2,h3⟩:=h;refine⟨by omega,by omega,fun h4=>?_⟩;rcases h3 with h3|h3
 ·omega
 exact h3
theorem Qo3{P:Prop}(h:P:=by
 simp only[uZ] at h;exact⟨uE (by omega),uE (by omega)⟩):P:=h
theorem C3k (h:xG x v=false)(hk:x.kind=8∨x.kind=9):v.bits = []∧v.subs = []:=by
 unfold xG at h;rw[zF hk] at h;exact Qo3
theorem iO (h:xG x v=false)(hk:x.kind=10):v.bits = []∧v.bytes = []:=by
 unfold xG at h;rw[zC (by omega),zF hk] at h;exact Qo3
theorem VN (h:xG x v=false)(h8:¬ (x.kind=8∨x.kind=9))(hk:¬ x.kind=10):v.bytes = []∧v.subs = []:=by
 unfold xG at h;rw[zC h8,zC hk] at h;exact Qo3
theorem C8p (h8:k=8∨k=9):yI k=2:=by unfold yI;rcases h8 with h|h <;> simp[h]
theorem D3x (h:yI k=2)(h10:¬ k=10):k=8∨k=9:=by
 unfold yI at h;split at h
 ·cases h
 split at h
 ·cases h
 split at h
 ·omega
 cases h
theorem C3a {β:Type}{deep:List UInt8→β→List UInt8×Int}{fs:List FI}:∀ (l:List (VI β)) (acc:List RI),(sK deep fs acc l).2=0→(sK deep fs acc l).1=acc++l.flatMap (fun v=>(uU deep (xE fs v.nU) v).1)∧∀ v∈l,(uU deep (xE fs v.nU) v).2=0
 | [],acc,_=>⟨by simp[sK],fun _ h=>by cases h⟩
 | v::l,acc,h=>by
  unfold sK at h ⊢
  by_cases h1:(uU deep (xE fs v.nU) v).2≠0
  ·rw[zF h1] at h;exact absurd h h1
  ·rw[zC h1] at h ⊢
   obtain⟨e1,e2⟩:=C3a l _ h
   refine⟨by rw[e1];simp,fun c hc=>?_⟩
   rcases yY.1 hc with rfl|hc
   ·exact Decidable.not_not.1 h1
   ·exact e2 c hc
theorem D2b {fs:List FI}{r:RI}(h:vC fs r=0):yW r.nU r.how r.bits r.bytes.length=0∧fs.find? (isF r.nU)=none:=by
 unfold vC at h;split at h
 ·rename_i h1;refine⟨h1,?_⟩;split at h
  ·cases h
  rename_i h2;unfold yK at h2;cases hf:fs.findIdx? (fun f=>decide (f.nU=r.nU)) with
  | some j=>rw[hf] at h2;exact absurd (by simp) h2
  | none=>
  rw[bQ] at hf;exact oE.2 fun y hy=>by
   have:=hf y hy;simpa [isF] using this
 rename_i h1;exact absurd h h1
theorem C9n {t:List UInt8}(h:g.mG.find? (isN t)=some m):msgD g t=m:=by
 unfold msgD;rw[h];rfl
theorem C8c (ac:(yB g).1=0)(hm:m∈g.mG){f:List UInt8→β→Int}(hx:RtV m.fD f x v){s : β}(hs:s∈v.subs):x.kind=10∧∃ M,g.mG.find? (isN x.type)=some M:=by
 have hk:=XA hx.others (fun e=>by rw[e] at hs;cases hs);exact⟨hk,sY ac m hm x (xL hx.fld) hk⟩
end L
end Go.Proofs.YthcomdofaaeihaaGreatDoor
