import Derived.Test.YtgaoojpakjjdnaaGreatDoorV47
import Derived.Test.YtgaoojpakjjdnaaGreatDoorV39
set_option maxHeartbeats 32000000
set_option maxRecDepth 100000
set_option linter.unusedVariables false
namespace Go.Proofs.YtgaoojpakjjdnaaGreatDoor
namespace L
open Go.RowKit
attribute [local go_sem ↓] Go.wp_at_zero Go.wp_at_succ
theorem old_win {w:World}{am ae:Option Addr}{nm cm ne ce:Nat}{g:GI}{msg:Int}(hg:GRd w (.slice am nm cm) (.slice ae ne ce) g)(ac:GOk g)(hT:Tabs w)(h1 : -9223372036854775808≤msg)(h2:msg≤9223372036854775807):WIn g am nm cm ae ne ce msg w:=by
 obtain⟨g1,g2,g3,g4⟩:=id ac
 have hr:reachBytes=140737488351232:=rfl
 refine⟨hg,by omega,by omega,ac.fits,fun M hM=>?_,hT,h1,h2⟩
 obtain⟨_,p2,_,p4,_⟩:=g1 M hM
 exact⟨fun f hf=>⟨(p2 f hf).2.2.1,(p2 f hf).2.2.2.2⟩,by omega⟩
theorem D4e {lacks:List Int}{g:GI}{am ae ac:Option Addr}{nm cm ne ce ah ag:Nat}{msg:Int}{w:World}(h:WIn g am nm cm ae ne ce msg w)(hg:GRd w (.slice ac ah ag) (.slice ae ne ce) (A1p lacks g)):WIn (A1p lacks g) ac ah ag ae ne ce msg w:=by
 have hm:∀ M∈(A1p lacks g).msgs,∃ m∈g.msgs,A2e lacks m=M:=fun M hM=>List.mem_map.1 hM
 refine⟨hg,?_,h.n2,⟨fun M hM=>?_,h.fit.2⟩,fun M hM=>?_,h.tabs,h.m1,h.m2⟩
 ·have:=h.n1
  show(g.msgs.map (A2e lacks)).length≤_
  rw[List.length_map]
  exact this
 ·obtain⟨m,hm,rfl⟩:=hm M hM
  exact⟨(h.fit.1 m hm).1,fun f hf=>(h.fit.1 m hm).2 f (List.mem_filter.1 hf).1⟩
 ·obtain⟨m,hm,rfl⟩:=hm M hM
  exact⟨fun f hf=>(h.fok m hm).1 f (List.mem_filter.1 hf).1,Nat.le_trans (List.length_filter_le ..) (h.fok m hm).2⟩
theorem D5x {w:World}{base:Nat}{vm:Value}{lo:List (MI×LV×LV)}(hr:Row ekM w base vm lo)(h:∀ p∈lo,Row ekF w base p.2.1.v p.1.fields∧RdL 1 NAt w p.2.2.v p.1.barred):RdL 3 MAt w vm (lo.map Prod.fst):=by
 refine RdL.map (P:=fun w x (p:MI×LV×LV)=>w.cell? x=some (.string (S p.1.name))∧w.cell? (x.add 1)=some p.2.1.v∧w.cell? (x.add 2)=some p.2.2.v) Prod.fst (hr.rd _ fun g i a hc=>?_) ?_
 ·refine⟨by simpa using hc 0 _ rfl,?_,?_⟩
  ·rw[A0e];exact hc 1 _ rfl
  ·rw[A0e];exact hc 2 _ rfl
 ·rintro x p hp ⟨h0,h1,h2⟩
  exact⟨p.2.1.v,p.2.2.v,h0,h1,h2,(h p hp).1.rdF,(h p hp).2⟩
theorem B8o {g:GI}{N:Nat→MI→List UInt8→Prop}(ac:Hid (NjC g N)){am:Option Addr}{nm cm:Nat}{ae:Option Addr}{ne ce:Nat}{msg:Int}{w:World}(hI:Hid (WIn g am nm cm ae ne ce msg w)){ao:Option Addr}{k c:Nat}{l:List UInt8}(hl:Hid (RdL 1 YAt w (.slice ao k c) l))(ag:Hid (∀ (j:Nat) (M:MI),msg=(j:Int)→g.msgs[j]?=some M→N 12 M l)){y:BI 12}(hp:Hid (A6a g msg l = .ok y)) :
  Calls Tryz.prog 9 #[.agg #[.slice am nm cm,.slice ae ne ce],.int .i64 msg,.slice ao k c] w fun e w'=>∃ (i0:Option Addr) (j0 l0:Nat) (i1:Option Addr) (j1 l1:Nat),e = .returned (.tuple #[.agg #[.slice i0 j0 l0,.slice i1 j1 l1],.int .i64 0])∧Hid (BRd 11 w' (.slice i0 j0 l0) (.slice i1 j1 l1) y)∧Below w.heap.size w w':=by
 refine(B4t ac hI.out hl.out ag).mono ?_
 intro e w' ho
 rw[hp.out] at ho
 obtain⟨c,i0,j0,l0,i1,j1,l1,h1,h2,h3,h4,_,h5⟩:=ho
 have h6:=OwnB.rd (show OwnB w.heap.size (11+1) w' c from h4)
 have h7 : [PV.v (BL.q0 c),PV.v (BL.q1 c)] = [.slice i0 j0 l0,.slice i1 j1 l1]:=h1
 simp only[List.cons.injEq,and_true] at h7
 rw[h7.1,h7.2,show LB.pl (11+1) c=y from h3] at h6
 exact⟨i0,j0,l0,i1,j1,l1,h2,h6,h5⟩
theorem D3p {d:Nat}{w:World}{am ae:Option Addr}{nm cm ne ce:Nat}{msg:Int}{a0 a1 b0 b1:Option Addr}{n0 c0 n1 c1 m0 d0 m1 d1:Nat}{b:BO (BI d)}(h1:BRd d w (.slice a0 n0 c0) (.slice a1 n1 c1) b)(h2:BRd d w (.slice b0 m0 d0) (.slice b1 m1 d1) b) :
  Calls Tryz.prog 10 #[.agg #[.slice am nm cm,.slice ae ne ce],.int .i64 msg,.agg #[.slice a0 n0 c0,.slice a1 n1 c1],.agg #[.slice b0 m0 d0,.slice b1 m1 d1]] w fun e w'=>e = .returned (.bool true)∧Below w.heap.size w w':=by
 obtain⟨W1,ac⟩:∃ W1,Hid (W1=((w.alloc (.cells #[.slice am nm cm,.slice ae ne ce] 25)).alloc (.cells #[.slice a0 n0 c0,.slice a1 n1 c1] 29)).alloc (.cells #[.slice b0 m0 d0,.slice b1 m1 d1] 29)):=⟨_,rfl⟩
 have hb1:Below w.heap.size w W1:=by rw[ac.out];exact(((Below.refl _ _).alloc (Nat.le_refl _) _).alloc (by simp) _).alloc (by simp;omega) _
 have hs:=C6w (h1.below hb1) (h2.below hb1)
 go_enter Tryz.func10,Tryz.ntmps10
 go_wp2_with fail
 rw[←ac.out]
 refine hs.mono ?_
 rintro e w2 ⟨rfl,hb2⟩
 have ag:Below w.heap.size w w2:=KBT hb1 hb2
 go_wp2
 go_ret
 exact⟨rfl,ag⟩
theorem old_walk {B:Nat}{w:World}(jv:Gl B w)(hB:B≤w.heap.size){g:GI}{am:Option Addr}{nm cm:Nat}{ae:Option Addr}{ne ce:Nat}{msg:Int}(hI:WIn g am nm cm ae ne ce msg w){kk:Nat}{a0 a1:Option Addr}{n0 c0 n1 c1:Nat}{x:BI (kk+11+1)}(hq:BRd (kk+11) w (.slice a0 n0 c0) (.slice a1 n1 c1) x)(io:BOk (kk+11+1) x){la:Option Addr}{ln lc:Nat}{lacks:List Int}(hl:RdL 1 NAt w (.slice la ln lc) lacks) :
  Calls Tryz.prog 3 #[.agg #[.slice am nm cm,.slice ae ne ce],.int .i64 msg,.agg #[.slice a0 n0 c0,.slice a1 n1 c1],.slice la ln lc] w fun e w'=>e = .returned (.bool true)∧Below w.heap.size w w':=by
 obtain⟨W1,dl⟩:∃ W1,Hid (W1=(w.alloc (.cells #[.slice am nm cm,.slice ae ne ce] 25)).alloc (.cells #[.slice a0 n0 c0,.slice a1 n1 c1] 29)):=⟨_,rfl⟩
 have hb1:Below w.heap.size w W1:=by rw[dl.out];exact((Below.refl _ _).alloc (Nat.le_refl _) _).alloc (by simp) _
 have z1:w.heap.size+2≤W1.heap.size:=by rw[dl.out];simp
 have x1:W1.heap[w.heap.size]?=some (.cells #[.slice am nm cm,.slice ae ne ce] 25 (0,0)):=by rw[dl.out];exact A0o _ _ _
 have x2:W1.heap[w.heap.size+1]?=some (.cells #[.slice a0 n0 c0,.slice a1 n1 c1] 29 (0,0)):=by rw[dl.out];exact A0j _ _ _
 have ha:=C6o (w:=W1) (jv.later (hb1.mono hB)) (Nat.le_trans hB hb1.size) (hI.tabs.below hb1)
 have HI:Hid (WIn g am nm cm ae ne ce msg w):=hI
 have HL:Hid (RdL 1 NAt w (.slice la ln lc) lacks):=hl
 have HQ:Hid (BRd (kk+11) w (.slice a0 n0 c0) (.slice a1 n1 c1) x):=hq
 have gq:Hid (BOk (kk+11+1) x):=io
 clear hI hl hq io
 go_enter Tryz.func3,Tryz.ntmps3
 go_wp2_with fail
 rw[←dl.out]
 refine ha.mono ?_
 rintro e w2 ⟨rfl,hb2⟩
 have dr:Below w.heap.size w w2:=KBT hb1 hb2
 obtain⟨y0,y1⟩:=A0y ((hb2.block _ (by omega)).trans x1)
 obtain⟨y2,y3⟩:=A0y ((hb2.block _ (by omega)).trans x2)
 obtain⟨Bx,Ex,HX⟩:∃ Bx Ex,Hid (C6f g (kk+11) msg x=(Bx,Ex)):=⟨_,_,rfl⟩
 have bw:=B2i (HI.out.below dr) (HQ.out.below dr) gq.out
 rw[HX.out] at bw
 clear ha
 go_wp2_with fail
 refine bw.mono ?_
 rintro e w3 ⟨pa,pn,pc,rfl,j6,hb3⟩
 have aj:Below W1.heap.size W1 w3:=KBT hb2 hb3
 have cg:Below w.heap.size w w3:=KBT hb1 aj
 clear y0 y1 y2 y3 bw
 by_cases hE:Ex=0
 rotate_left
 ·have eE:(Ex != 0)=true:=by simpa using hE
  go_wp2_with fail
  go_ret
  exact⟨rfl,cg⟩
 have eE:(Ex != 0)=false:=by simpa using hE
 obtain⟨y0,y1⟩:=A0y ((aj.block _ (by omega)).trans x1)
 obtain⟨W4,gy,hb4,x4,z4⟩:=D8j w3 (.cells #[.slice none 0 0,.slice ae ne ce] 25)
 have fq:Below w.heap.size w W4:=KBT cg hb4
 have hz3:=aj.size
 obtain⟨y4,y5⟩:=A0y (((KBT aj hb4).block _ (by omega)).trans x1)
 rw[gy.out] at y4
 clear y5
 go_wp2_with fail
 rw[←gy.out]
 clear y0 y1 y4
 obtain⟨iu,jj,M,il,hM,he⟩:=B3s (C3p (show(C6f g (kk+11) msg x).2=0 by rw[HX.out];exact hE))
 have bc:Hid ((wrongL g).1=0):=iu
 have eu:Hid (A1j g (kk+11+1) 1 M.fields x=0):=he
 have HM:Hid (g.msgs[jj]?=some M):=hM
 have cw:Hid (msg=(jj:Int)):=il
 have HE:Hid (Ex=0):=hE
 clear il hM he iu hE eE
 have ju:nm≤10:=by have:=(A5f bc.out).1;have:=HI.out.hg.1.len.1;omega
 have H1:Hid (nm=g.msgs.length):=HI.out.hg.1.len.1
 have di:Hid (ln=lacks.length):=HL.out.len.1
 have jy:ln≤9223372036854775807:=by have:=HL.out.len.2;unfold maxLen at this;omega
 have jm:Hid (∀ m∈g.msgs,m.fields.length≤16):=fun m hm=>(B4y ((A5f bc.out).2.2 m hm)).1
 go_loopg [40] nm (fun m' i wr=>∃ (k:Nat) (lo:List (MI×LV×LV)) (vo:Value),k+m'=nm∧i = .int .i64 k∧Row ekM wr (w3.heap.size+1) vo lo∧(∀ p∈lo,Row ekF wr (w3.heap.size+1) p.2.1.v p.1.fields∧RdL 1 NAt w p.2.2.v p.1.barred)∧wr.heap[w3.heap.size]?=some (.cells #[vo,.slice ae ne ce] 25 (0,0))∧Hid (lo.map Prod.fst=(g.msgs.take k).map (A2e lacks))∧lo.length=k∧Below w3.heap.size W4 wr)
 case atStart=>exact⟨0,[],.slice none 0 0,by omega,rfl,Row.nil _ _ _,fun _ hp=>(List.not_mem_nil hp).elim,x4,by show _=_;simp,rfl,Below.refl _ _⟩
 case round=>
  obtain⟨k,lo,vo,hk,rfl,hro,dy,eh,gl,kt,hbr⟩:=hrel
  obtain⟨wo,jl⟩:∃ wo,wo=wr:=⟨_,rfl⟩
  subst jl
  have lg:=cg.size
  have lf:=hbr.size
  have bp:Below w.heap.size w wo:=fq.trans (hbr.mono (by omega))
  obtain⟨ao,no,co,rfl,ki⟩:=hro.shape'
  by_cases hlt:k<nm
  ·obtain⟨a,Ha⟩:∃ a,Hid (g.msgs[k]?=some a):=⟨g.msgs[k]'(by rw[←H1.out];exact hlt),List.getElem?_eq_getElem (by rw[←H1.out];exact hlt)⟩
   obtain⟨b,off,ie,hat⟩:=(HI.out.hg.below bp).1.get MAt.plain Ha.out
   obtain⟨vf,vb,s0,s1,s2,ir,jz⟩:=hat.at
   obtain⟨af,nf,cf,rfl,Hf,_⟩:=ir.shape
   obtain⟨ab,nb,cb,rfl,Hb,_⟩:=jz.shape
   have f6:Hid (RdL 1 NAt w (.slice ab nb cb) a.barred):=by
    obtain⟨b',off',dp,hat'⟩:=HI.out.hg.1.get MAt.plain Ha.out
    obtain⟨li,lh,_,_,j9,_,fz⟩:=hat'.at
    rw[ie] at dp
    cases dp
    have:=A0c bp j9
    rw[s2] at this
    cases this
    exact fz
   subst ie
   have ko:(k:Int)<(nm:Int):=by omega
   have ku:nf≤16:=by have:=jm.out a (List.mem_of_getElem? Ha.out);have:=Hf.out;omega
   obtain⟨W6,bg⟩:∃ W6,Hid (W6=(wo.alloc (.cells #[.string (S a.name),.slice af nf cf,.slice ab nb cb] 38)).alloc (.cells #[.string (S a.name),.slice none 0 0,.slice ab nb cb] 38)):=⟨_,rfl⟩
   have ei:Below wo.heap.size wo W6:=by rw[bg.out];exact((Below.refl _ _).alloc (Nat.le_refl _) _).alloc (by simp) _
   have ky:wo.heap.size+2≤W6.heap.size:=by rw[bg.out];simp
   have jn:W6.heap[wo.heap.size]?=some (.cells #[.string (S a.name),.slice af nf cf,.slice ab nb cb] 38 (0,0)):=by rw[bg.out];exact A0o _ _ _
   have jo:W6.heap[wo.heap.size+1]?=some (.cells #[.string (S a.name),.slice none 0 0,.slice ab nb cb] 38 (0,0)):=by rw[bg.out];exact A0j _ _ _
   obtain⟨q0,q1,q2⟩:=A4p (heap_alloc_new wo (.cells #[.string (S a.name),.slice af nf cf,.slice ab nb cb] 38))
   obtain⟨r0,r1,r2⟩:=A4p jn
   rw[bg.out] at r0 r1 r2
   clear hat
   go_wp2_with fail
   rw[←bg.out]
   clear q0 q1 q2 r0 r1 r2 s0 s1 s2
   go_loopg [52] nf (fun m' i wi=>∃ (j:Nat) (fs:List FI) (vf:Value),j+m'=nf∧i = .int .i64 j∧Row ekF wi W6.heap.size vf fs∧wi.heap[wo.heap.size+1]?=some (.cells #[.string (S a.name),vf,.slice ab nb cb] 38 (0,0))∧Hid (fs=(a.fields.take j).filter (A2n lacks))∧fs.length≤j∧Below (wo.heap.size+1) W6 wi)
   case atStart=>exact⟨0,[],.slice none 0 0,by omega,rfl,Row.nil _ _ _,jo,by show _=_;simp,Nat.le_refl _,Below.refl _ _⟩
   case round=>
    obtain⟨j,fs,vf,hj,rfl,hrow,cj,HJ,km,ej⟩:=hrel
    obtain⟨wi,jk⟩:∃ wi,wi=wr:=⟨_,rfl⟩
    subst jk
    have k9:=ej.size
    have df:Below wo.heap.size wo wi:=ei.trans (ej.mono (by omega))
    obtain⟨av,nv,cv,rfl,kj⟩:=hrow.shape'
    by_cases hjl:j<nf
    ·obtain⟨f,fe⟩:∃ f,Hid (a.fields[j]?=some f):=⟨a.fields[j]'(by rw[←Hf.out];exact hjl),List.getElem?_eq_getElem (by rw[←Hf.out];exact hjl)⟩
     obtain⟨bf,of,rfl,ij⟩:=(ir.below FAt.stays df).get FAt.plain fe.out
     obtain⟨y0,y1,y2,y3,y4,y5⟩:=ij.at
     have kn:(j:Int)<(nf:Int):=by omega
     obtain⟨W7,jg,ba,jp,kz⟩:=D8j wi (.cells #[.string (S f.name),.int .i64 f.number,.int .i64 f.kind,.string (S f.type),.bool f.many,.int .i64 f.choice] 40)
     have fk:Below w.heap.size w W7:=KBT (KBT bp df) ba
     obtain⟨f0,f1,f2,f3,f4,f5⟩:=B0h jp
     obtain⟨q,Hq⟩:∃ q,Hid (q=(decide (0<f.choice)&&decide (0<lacks.length))):=⟨_,rfl⟩
     clear ij
     go_upto_region 14 with fail
     rw[←jg.out]
     clear y0 y1 y2 y3 y4 y5
     go_cut [17] from 56 to 63 (fun gg wc=>gg = .bool q∧W7=wc)
     case first=>
      by_cases hc:0<f.choice
      ·by_cases hl:0<ln
       ·have jx:(0:Int)<(ln:Int):=by omega
        go_wp2_with fail
        go_meet
        case rel=>exact⟨by rw[Hq.out,decide_eq_true hc,decide_eq_true (by rw[←di.out];exact hl)];rfl,rfl⟩
       ·have jx:¬ (0:Int)<(ln:Int):=by omega
        go_wp2_with fail
        go_meet
        case rel=>exact⟨by rw[Hq.out,decide_eq_true hc,decide_eq_false (by rw[←di.out];exact hl)];rfl,rfl⟩
      ·go_wp2_with fail
       go_meet
       case rel=>exact⟨by rw[Hq.out,decide_eq_false (p:=0<f.choice) (by omega)];rfl,rfl⟩
     case rest=>
      obtain⟨rfl,gc⟩:=hcut
      subst gc
      go_wp2_with fail
      go_loopg [17,66] ln (fun m' gg i wr=>∃ (t:Nat) (bb:Bool),t+m'=ln∧gg = .bool bb∧i = .int .i64 t∧Hid (bb=(q||(lacks.take t).any fun k=>decide (k=f.number)))∧W7=wr)
      case atStart=>exact⟨0,q,by omega,rfl,rfl,by show _=_;simp,rfl⟩
      case round=>
       obtain⟨t,bb,ht,rfl,rfl,gh,gc⟩:=hrel
       subst gc
       by_cases htl:t<ln
       ·obtain⟨ee,g7⟩:∃ z,Hid (lacks[t]?=some z):=⟨lacks[t]'(by rw[←di.out];exact htl),List.getElem?_eq_getElem (by rw[←di.out];exact htl)⟩
        obtain⟨bl,ol,jw,fu⟩:=(HL.out.below NAt.stays fk).get NAt.plain g7.out
        subst jw
        have fu:W7.cell? ⟨bl,ol+t*1,none⟩=some (.int .i64 ee):=fu
        rw[Nat.mul_one] at fu
        have kx:(t:Int)<(ln:Int):=by omega
        have im:(lacks.take (t+1)).any (fun k=>decide (k=f.number))=((lacks.take t).any (fun k=>decide (k=f.number))||decide (ee=f.number)):=by
         rw[A0z g7.out,List.any_append]
         simp
        have gp:Hid ((q||(lacks.take (t+1)).any fun k=>decide (k=f.number))=(bb||decide (ee=f.number))):=by
         show _=_
         rw[im,gh.out,Bool.or_assoc]
        clear im
        cases bb with
        | true=>
         go_wp2_with fail
         go_roundg (ln-(t+1))
         case measure=>omega
         case rel=>exact⟨t+1,true,by omega,rfl,by go_num,by show _=_;rw[gp.out];rfl,rfl⟩
        | false=>
         obtain⟨e,He⟩:∃ e,Hid (e=decide (ee=f.number)):=⟨_,rfl⟩
         have kv:(ee==f.number)=e:=by rw[He.out,Bool.eq_iff_iff];simp
         go_wp2_with fail
         go_roundg (ln-(t+1))
         case measure=>omega
         case rel=>exact⟨t+1,e,by omega,rfl,by go_num,by show _=_;rw[gp.out,He.out];rfl,rfl⟩
       ·have gj:Hid (bb = !A2n lacks f):=by
         show _=_
         have h1:=gh.out
         rw[List.take_of_length_le (by rw[←di.out];omega),Hq.out] at h1
         rw[h1]
         unfold A2n
         rw[Bool.not_and,Bool.not_not,Bool.not_not]
         congr 1
         rw[Bool.eq_iff_iff]
         simp only[List.any_eq_true,decide_eq_true_eq]
         constructor
         ·rintro⟨z,hz,rfl⟩
          exact hz
         ·intro hz
          exact⟨_,hz,rfl⟩
        cases bb with
        | true=>
         have fh:Below (wo.heap.size+1) W6 W7:=ej.trans (ba.mono (by omega))
         have dv:=(ba.block _ (Array.getElem?_eq_some_iff.1 cj).1).trans cj
         have fy:=hrow.below ba
         go_wp2_with fail
         go_roundg (nf-(j+1))
         case measure=>omega
         case rel=>
          refine⟨j+1,fs,.slice av nv cv,by omega,by go_num,fy,dv,?_,by omega,fh⟩
          show _=_
          rw[A0z fe.out,List.filter_append,←HJ.out,List.filter_cons_of_neg (by have:=gj.out;intro e;rw[e] at this;cases this),List.filter_nil,List.append_nil]
        | false=>
         have fh:Below (wo.heap.size+1) W6 W7:=ej.trans (ba.mono (by omega))
         have dv:=(ba.block _ (Array.getElem?_eq_some_iff.1 cj).1).trans cj
         have fy:=hrow.below ba
         have j8:=ba.size
         have ak:Row ekF (W7.alloc (.cells #[.string (S f.name),.int .i64 f.number,.int .i64 f.kind,.string (S f.type),.bool f.many,.int .i64 f.choice] 40)) W6.heap.size (.slice (some ⟨W7.heap.size,0,none⟩) 1 1) [f]:=Row.one ekF W7 f (by omega)
         have bq:=(Below.refl W7.heap.size W7).alloc (Nat.le_refl _) (.cells #[.string (S f.name),.int .i64 f.number,.int .i64 f.kind,.string (S f.type),.bool f.many,.int .i64 f.choice] 40)
         have et:=fy.below bq
         have ik:=(Array.getElem?_eq_some_iff.1 dv).1
         have hka:=(bq.block _ ik).trans dv
         have dm:=fh.alloc (o:=.cells #[.string (S f.name),.int .i64 f.number,.int .i64 f.kind,.string (S f.type),.bool f.many,.int .i64 f.choice] 40) (by omega)
         obtain⟨m0,m1,m2⟩:=A4p dv
         go_wp2_with (at_builtin;refine A2r rfl ekF _ _ rfl W6.heap.size _ fs [f] rfl et W6.heap.size _ rfl ak ?e1 ?e2 ?_)
         case e1=>(try simp);omega
         case e2=>(try simp);omega
         intro v8 w8 ac ag
         have hown:=et.own
         have fj:Below (wo.heap.size+1) W6 w8:=dm.grown ag (by(try simp);omega) (fun k hk=>by have:=(hown k hk).1;omega)
         have hne:=et.ne_blk hka (by decide)
         have eo:=(ag.block _ (Array.getElem?_eq_some_iff.1 hka).1 (fun hh=>hne hh.symm)).trans hka
         have g1:=A0b eo 1
         obtain⟨k0,k1,k2⟩:=A4p eo
         obtain⟨a8,n8,c8,rfl,ji⟩:=ac.shape'
         clear hown ak et hka dm m0 m1 m2
         go_wp2_with fail
         go_roundg (nf-(j+1))
         case measure=>omega
         case rel=>
          refine⟨j+1,fs++[f],.slice a8 n8 c8,by omega,by go_num,ac.other (ac.ne_blk eo (by decide)) 1 _,heap_setCell_same _ _ 1 _ _ _ eo,?_,by simp;omega,fj.setCell (p:=⟨wo.heap.size+1,1,none⟩) (Nat.le_refl _) _⟩
          show _=_
          rw[A0z fe.out,List.filter_append,←HJ.out,List.filter_cons_of_pos (by have:=gj.out;cases hx:A2n lacks f with|true=>rfl|false=>rw[hx] at this;cases this),List.filter_nil]
    ·have HF:Hid (fs=a.fields.filter (A2n lacks)):=by
      show _=_
      rw[HJ.out,List.take_of_length_le (by rw[←Hf.out];omega)]
     have ik:=(Array.getElem?_eq_some_iff.1 cj).1
     obtain⟨e0,e1,e2⟩:=A4p cj
     have hoi:=(df.block w3.heap.size (by omega)).trans eh
     obtain⟨p0,p1⟩:=A0y hoi
     have f9:=hro.below df
     have ak:Row ekM (wi.alloc (.cells #[.string (S a.name),.slice av nv cv,.slice ab nb cb] 38)) (w3.heap.size+1) (.slice (some ⟨wi.heap.size,0,none⟩) 1 1) [(⟨a.name,fs,a.barred⟩,(av,nv,cv),(ab,nb,cb))]:=Row.one ekM wi (⟨a.name,fs,a.barred⟩,(av,nv,cv),(ab,nb,cb)) (by omega)
     have bq:=(Below.refl wi.heap.size wi).alloc (Nat.le_refl _) (.cells #[.string (S a.name),.slice av nv cv,.slice ab nb cb] 38)
     have aw:=f9.below bq
     have fx:=(bq.block w3.heap.size (by omega)).trans hoi
     have dx:=(hrow.mono (show w3.heap.size+1≤W6.heap.size by omega)).below bq
     have cu:∀ p∈lo,Row ekF (wi.alloc (.cells #[.string (S a.name),.slice av nv cv,.slice ab nb cb] 38)) (w3.heap.size+1) p.2.1.v p.1.fields:=fun p hp=>((dy p hp).1.below df).below bq
     have dm:Below w3.heap.size W4 (wi.alloc (.cells #[.string (S a.name),.slice av nv cv,.slice ab nb cb] 38)):=(hbr.trans (df.mono (by omega))).trans (bq.mono (by omega))
     clear cj hrow eh
     go_wp2_with (at_builtin;refine A2r rfl ekM _ _ rfl (w3.heap.size+1) _ lo [(⟨a.name,fs,a.barred⟩,(av,nv,cv),(ab,nb,cb))] rfl aw (w3.heap.size+1) _ rfl ak ?e1 ?e2 ?_)
     case e1=>(try simp);omega
     case e2=>(try simp);omega
     intro v8 w8 ac ag
     have hown:=aw.own
     have fj:Below w3.heap.size W4 w8:=dm.grown ag (by(try simp);omega) (fun k hk=>by have:=(hown k hk).1;omega)
     have dh:=(ag.block w3.heap.size (Array.getElem?_eq_some_iff.1 fx).1 (fun hh=>by have:=(hown w3.heap.size hh.symm).1;omega)).trans fx
     have g1:=A0b dh 0
     obtain⟨k0,k1⟩:=A0y dh
     obtain⟨a8,n8,c8,rfl,ji⟩:=ac.shape'
     have dw:=dx.grown ag (dx.ne aw (by decide))
     have dz:∀ p∈lo,Row ekF w8 (w3.heap.size+1) p.2.1.v p.1.fields:=fun p hp=>(cu p hp).grown ag ((cu p hp).ne aw (by decide))
     clear hown ak aw fx dm cu p0 p1 e0 e1 e2
     go_wp2_with fail
     go_roundg (nm-(k+1))
     case measure=>omega
     case rel=>
      refine⟨k+1,lo++[(⟨a.name,fs,a.barred⟩,(av,nv,cv),(ab,nb,cb))],.slice a8 n8 c8,by omega,by go_num,ac.other (ac.ne_blk dh (by decide)) 0 _,?_,heap_setCell_same _ _ 0 _ _ _ dh,?_,by simp;omega,fj.setCell (p:=⟨w3.heap.size,0,none⟩) (Nat.le_refl _) _⟩
      ·intro p hp
       rw[List.mem_append,List.mem_singleton] at hp
       rcases hp with hp|rfl
       ·exact⟨(dz p hp).other ((dz p hp).ne_blk dh (by decide)) 0 _,(dy p hp).2⟩
       ·exact⟨dw.other (dw.ne_blk dh (by decide)) 0 _,f6.out⟩
      ·show _=_
       rw[A0z Ha.out,List.map_append,List.map_append,gl.out]
       simp[A2e,HF.out]
  ·have g9:lo.map Prod.fst=(A1p lacks g).msgs:=by
    show _=g.msgs.map (A2e lacks)
    rw[gl.out,List.take_of_length_le (by rw[←H1.out];omega)]
   have g8:GRd wo (.slice ao no co) (.slice ae ne ce) (A1p lacks g):=by
    refine⟨?_,(HI.out.hg.below bp).2⟩
    rw[←g9]
    exact D5x hro fun p hp=>⟨(dy p hp).1,(dy p hp).2.below NAt.stays bp⟩
   have gi:Hid (WIn (A1p lacks g) ao no co ae ne ce msg wo):=D4e (HI.out.below bp) g8
   have br:Below w3.heap.size w3 wo:=hb4.trans hbr
   have gu:Hid (RdL 1 YAt wo (.slice pa pn pc) Bx):=(j6.below br).rdY
   have ix:Hid (pn=Bx.length):=gu.out.len.1
   have iw:=(br.block _ (by omega)).trans ((aj.block _ (by omega)).trans x1)
   have kg:=(br.block _ (by omega)).trans ((aj.block _ (by omega)).trans x2)
   have ld:w.heap.size+2≤wo.heap.size:=by omega
   have hgo:w3.heap.size<wo.heap.size:=by omega
   obtain⟨x',d9⟩:=D7y (k:=kk) 12 1 M.fields x (by decide) eu.out
   have dg:=List.mem_of_getElem? HM.out
   have ah:A0x g 12 M x'=(Bx,0):=by
    have h1:=HX.out
    rw[cw.out,C6x (by rw[B9k bc.out HM.out];exact eu.out) HM.out,←d9,HE.out] at h1
    have e:A0x g (kk+12) M (up kk 12 x')=A0x g 12 M x':=D0h 12 M x'
    rw[←e]
    exact h1
   have bh:A1j g 12 1 M.fields x'=0:=by
    have e:A1j g (kk+12) 1 M.fields (up kk 12 x')=A1j g 12 1 M.fields x':=C3a 12 1 M.fields x'
    rw[←e,d9]
    exact eu.out
   have bk:BQk 12 x':=D7z (k:=kk) 12 x' (by rw[d9];exact D6g _ _ gq.out)
   have hgd:=HI.out.gd bc.out
   have ho:=B1t lacks bc.out hgd 12 1 M x' dg (by decide) bh bk (by rw[ah])
   obtain⟨y,Hy⟩:∃ y,Hid (y=A3f g lacks 12 M x'):=⟨_,rfl⟩
   have dn:(A1p lacks g).msgs[jj]?=some (A2e lacks M):=by
    show(g.msgs.map (A2e lacks))[jj]?=_
    rw[List.getElem?_map,HM.out]
    rfl
   have bn:=B4z lacks bc.out
   have au:A3t (A1p lacks g) 12 (A2e lacks M) Bx = .ok y:=by
    have:=ho.rd
    rw[ah] at this
    rw[Hy.out]
    exact this
   have jc:Hid (A6a (A1p lacks g) msg Bx = .ok y):=by
    show _=_
    rw[cw.out,B8r bn dn]
    exact au
   have ii:=B0t bn 12 1 (A2e lacks M) _ _ (by decide) (A9i dg) au
   obtain⟨Cc,Ec,HC⟩:∃ Cc Ec,Hid (C6f (A1p lacks g) 11 msg y=(Cc,Ec)):=⟨_,_,rfl⟩
   have hcw:A0x (A1p lacks g) 12 (A2e lacks M) y=(Cc,Ec):=by
    rw[←HC.out,cw.out]
    exact(C6x (by rw[B9k bn dn];exact ii) dn).symm
   have i6:Ec=0:=by
    have:=ho.ok
    rw[←Hy.out,hcw] at this
    exact this
   subst i6
   have iy:Hid (Cc.length=Bx.length):=by
    have:=ho.len
    rw[←Hy.out,hcw,ah] at this
    exact this
   have jd:Hid (A6a g msg Cc = .ok x'):=by
    show _=_
    rw[cw.out,B8r bc.out HM.out]
    have:=ho.back
    rw[←Hy.out,hcw] at this
    exact this
   have jh:Hid (BOk 12 y):=by
    obtain⟨j7,hsw⟩:=B8v (B0m hgd) 12 (A2e lacks M) Bx y ((B0m hgd).fs (A9i dg)) au
    obtain⟨rs,A,hp,_⟩:=B8u au
    obtain⟨_,_,hw3⟩:=B6o hp
    exact D2t 12 y j7 (by omega)
   have ja:Hid (∀ (j:Nat) (N:MI),msg=(j:Int)→(A1p lacks g).msgs[j]?=some N→D8m g lacks 12 N Bx):=by
    intro i N hi hN
    have fw:i=jj:=by have:=cw.out;omega
    subst fw
    rw[dn] at hN
    cases hN
    exact⟨M,rfl,dg,1,x',bh,bk,by rw[ah],by rw[ah]⟩
   have jb:Hid (∀ (j:Nat) (N:MI),msg=(j:Int)→g.msgs[j]?=some N→D8l g lacks 12 N Cc):=by
    intro i N hi hN
    have fw:i=jj:=by have:=cw.out;omega
    subst fw
    rw[HM.out] at hN
    cases hN
    exact .inr ⟨dg,1,x',by decide,bh,bk,by rw[ah],by rw[←Hy.out,hcw]⟩
   have fd:Hid (BRd 11 w (.slice a0 n0 c0) (.slice a1 n1 c1) x'):=by
    have h:=HQ.out
    rw[←d9] at h
    exact D9e (k:=kk) (n:=11) h
   have ew:Hid (NjC (A1p lacks g) (D8m g lacks)):=D6c lacks bc.out
   have fc:Hid (NjC g (D8l g lacks)):=D6b lacks bc.out hgd
   clear ah bh bk hgd ho dn bn au ii hcw dg d9 g9 g8 hro dy
   have ip:Calls Tryz.prog 9 #[.agg #[.slice ao no co,.slice ae ne ce],.int .i64 msg,.slice pa pn pc] wo fun e w'=>∃ (i0:Option Addr) (j0 l0:Nat) (i1:Option Addr) (j1 l1:Nat),e = .returned (.tuple #[.agg #[.slice i0 j0 l0,.slice i1 j1 l1],.int .i64 0])∧Hid (BRd 11 w' (.slice i0 j0 l0) (.slice i1 j1 l1) y)∧Below wo.heap.size wo w':=B8o ew gi gu ja jc
   obtain⟨p0,p1⟩:=A0y eh
   go_wp2_with fail
   refine ip.mono ?_
   rintro e w5 ⟨i0,j0,l0,i1,j1,l1,rfl,je,jq⟩
   obtain⟨W6,bg,ei,x6,z6⟩:=D8j w5 (.cells #[.slice i0 j0 l0,.slice i1 j1 l1] 29)
   have bt:Below wo.heap.size wo W6:=KBT jq ei
   have bw:=B2i (gi.out.below bt) (je.out.below ei) jh.out
   rw[HC.out] at bw
   clear ip p0 p1
   obtain⟨p0,p1⟩:=A0y ((bt.block _ hgo).trans eh)
   obtain⟨q0,q1⟩:=A0y x6
   rw[bg.out] at p0 p1 q0 q1
   go_wp2_with fail
   rw[←bg.out]
   refine bw.mono ?_
   rintro e w7 ⟨ca,cn,cc,rfl,j5,ba⟩
   have bu:Below wo.heap.size wo w7:=KBT bt ba
   have ft:Below w.heap.size w w7:=KBT bp bu
   have i7:Hid (WIn g am nm cm ae ne ce msg w7):=HI.out.below ft
   have gw:Hid (RdL 1 YAt w7 (.slice ca cn cc) Cc):=j5.rdY
   have iz:Hid (cn=pn):=by show _=_;rw[ix.out,←iy.out];exact gw.out.len.1
   have iq:Calls Tryz.prog 9 #[.agg #[.slice am nm cm,.slice ae ne ce],.int .i64 msg,.slice ca cn cc] w7 fun e w'=>∃ (i0:Option Addr) (j0 l0:Nat) (i1:Option Addr) (j1 l1:Nat),e = .returned (.tuple #[.agg #[.slice i0 j0 l0,.slice i1 j1 l1],.int .i64 0])∧Hid (BRd 11 w' (.slice i0 j0 l0) (.slice i1 j1 l1) x')∧Below w7.heap.size w7 w':=B8o fc i7 gw jb jd
   clear p0 p1 q0 q1 bw
   obtain⟨p0,p1⟩:=A0y ((bu.block _ (by omega)).trans iw)
   go_wp2_with fail
   refine iq.mono ?_
   rintro e w8 ⟨u0,v0,s0,u1,v1,s1,rfl,jf,jr⟩
   obtain⟨W9,gz,ig,x9,z9⟩:=D8j w8 (.cells #[.slice u0 v0 s0,.slice u1 v1 s1] 29)
   have bv:Below wo.heap.size wo W9:=KBT bu (KBT jr ig)
   have dt:Below w.heap.size w W9:=KBT bp bv
   have hsm:=D3p (am:=am) (nm:=nm) (cm:=cm) (ae:=ae) (ne:=ne) (ce:=ce) (msg:=msg) (fd.out.below dt) (jf.out.below ig)
   clear p0 p1 iq
   obtain⟨p0,p1⟩:=A0y ((bv.block _ (by omega)).trans iw)
   obtain⟨q0,q1⟩:=A0y ((bv.block _ (by omega)).trans kg)
   obtain⟨r0,r1⟩:=A0y x9
   rw[gz.out] at p0 p1 q0 q1 r0 r1
   have jt:cn=pn:=iz.out
   subst jt
   go_wp2_with fail
   rw[←gz.out]
   refine hsm.mono ?_
   rintro e ke ⟨rfl,fo⟩
   have js:Below w.heap.size w ke:=KBT dt fo
   go_wp2
   go_ret
   exact⟨rfl,js⟩
end L
end Go.Proofs.YtgaoojpakjjdnaaGreatDoor
