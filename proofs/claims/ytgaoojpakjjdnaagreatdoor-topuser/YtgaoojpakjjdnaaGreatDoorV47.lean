import Derived.Test.YtgaoojpakjjdnaaGreatDoorV46
import Derived.Test.YtgaoojpakjjdnaaGreatDoorV36
import Derived.Test.YtgaoojpakjjdnaaGreatDoorV33
import Derived.Test.YtgaoojpakjjdnaaGreatDoorV37
import Derived.Laws.MakeOwn
import Derived.Deep.CutRange
import Derived.Deep.RegionWith
set_option maxHeartbeats 32000000
set_option maxRecDepth 100000
namespace Go.Proofs.YtgaoojpakjjdnaaGreatDoor
namespace L
open Go.RowKit
set_option linter.unusedVariables false
theorem C4p (W:World) (l:List UInt8) (hl:l.length≤140737488355328):RdL 1 YAt (Lib.bytesWorld W 5 (S l)) (.slice (some ⟨W.heap.size,0,none⟩) l.length (grownCap W l.length 0 5)) l:=by
 refine⟨_,_,_,rfl,rfl,grownCap_ge _ _ _ _,grownCap_le_maxLen _ _ _ _ (by unfold maxLen;omega),(fun e=>by cases e),fun x hx k a ha=>?_⟩
 cases hx
 have hk:=(List.getElem?_eq_some_iff.1 ha).1
 rw[A0d,Nat.zero_add,Nat.mul_one]
 show World.cell? _ _=_
 rw[Lib.bytesWorld_cell _ _ _ k (by rw[A2k];exact hk)]
 have e:(S l).data.toList=l:=by simp[S]
 rw[e,List.getD_eq_getElem?_getD,ha]
 rfl
theorem C7j (W:World) (l:List UInt8) (hl:l.length≤140737488355328):Below W.heap.size W ((Lib.bytesWorld W 5 (S l)).alloc (.cells #[.slice (some ⟨W.heap.size,0,none⟩) l.length (grownCap W l.length 0 5)] 32))∧RdL 1 ZAt ((Lib.bytesWorld W 5 (S l)).alloc (.cells #[.slice (some ⟨W.heap.size,0,none⟩) l.length (grownCap W l.length 0 5)] 32)) (.slice (some ⟨W.heap.size+1,0,none⟩) 1 1) [l]:=by
 have hb:=B2s W l
 have hb':Below (Lib.bytesWorld W 5 (S l)).heap.size (Lib.bytesWorld W 5 (S l)) ((Lib.bytesWorld W 5 (S l)).alloc (.cells #[.slice (some ⟨W.heap.size,0,none⟩) l.length (grownCap W l.length 0 5)] 32)):=(Below.refl _ _).alloc (Nat.le_refl _) _
 refine⟨hb.trans (hb'.mono hb.size),_,1,1,rfl,rfl,Nat.le_refl _,by unfold maxLen;omega,(fun e=>by cases e),fun x hx k a ha=>?_⟩
 cases hx
 match k,ha with
 | 0,ha=>
  obtain rfl:l=a:=Option.some.inj ha
  refine⟨_,?_,(C4p W l hl).below YAt.stays hb'⟩
  rw[A0d]
  have h:=heap_alloc_new (Lib.bytesWorld W 5 (S l)) (.cells #[.slice (some ⟨W.heap.size,0,none⟩) l.length (grownCap W l.length 0 5)] 32)
  rw[Lib.bytesWorld_size] at h
  exact A0a h 0 _ rfl
 | k+1,ha=>cases ha
theorem B8k (W:World) (n:Nat):Below W.heap.size W (W.alloc (.cells #[.int .u64 (n:Int)] 63))∧RdL 1 UAt (W.alloc (.cells #[.int .u64 (n:Int)] 63)) (.slice (some ⟨W.heap.size,0,none⟩) 1 1) [n]:=by
 refine⟨(Below.refl _ _).alloc (Nat.le_refl _) _,_,1,1,rfl,rfl,Nat.le_refl _,by unfold maxLen;omega,(fun e=>by cases e),fun x hx k a ha=>?_⟩
 cases hx
 match k,ha with
 | 0,ha=>
  obtain rfl:n=a:=Option.some.inj ha
  rw[A0d]
  exact A0a (heap_alloc_new W _) 0 _ rfl
 | k+1,ha=>cases ha
theorem C5r (W:World) (k:Nat) (hk:k≤20):(Instr.makeSlice 60 (.int .i64 (k:Int)) (.int .i64 (k:Int))).run Tryz.prog W = .ok (.slice (some ⟨W.heap.size,0,none⟩) k k) (W.alloc (.cells (madeCells #[.slice none 0 0,.slice none 0 0] (k*2)) 29)):=by
 obtain⟨i0,hi,hz0,hz1,hz2⟩:=info_parts (ekB 0).info
 have h:=run_make (P:=Tryz.prog) W 60 29 i0 _ (ekB 0).under hi hz0 .i64 .i64 (k:Int) (k:Int) (by omega) (by omega) (by rw[hz2];show((48:Nat):Int)*k≤_;omega) (by omega)
 rw[hz1,Int.toNat_natCast] at h
 exact h
theorem B6k (k j:Nat) (hj:j < k*2):(madeCells #[.slice none 0 0,.slice none 0 0] (k*2))[j]?=some (.slice none 0 0):=by
 unfold madeCells
 rw[Array.getElem?_map,Array.getElem?_range,if_pos hj]
 show some ((#[Value.slice none 0 0,Value.slice none 0 0]:Array Value)[j%2]!)=_
 rcases (by omega:j%2=0∨j%2=1) with h|h <;> rw[h] <;> rfl
theorem D1i (W:World) (k:Nat) (hk:k≤20):Below W.heap.size W ((W.alloc (.cells (madeCells #[.slice none 0 0,.slice none 0 0] (k*2)) 29)).drew)∧RdL 2 (BAt 11) ((W.alloc (.cells (madeCells #[.slice none 0 0,.slice none 0 0] (k*2)) 29)).drew) (.slice (some ⟨W.heap.size,0,none⟩) k k) (List.replicate k C3u):=by
 refine⟨((Below.refl _ _).alloc (Nat.le_refl _) _).drew,_,k,k,rfl,List.length_replicate ..,Nat.le_refl _,by unfold maxLen;omega,(fun e=>by cases e),fun x hx j a ha=>?_⟩
 cases hx
 obtain⟨hj,ha⟩:=List.getElem?_eq_some_iff.1 ha
 rw[List.length_replicate] at hj
 rw[List.getElem_replicate] at ha
 subst ha
 have hx:((W.alloc (.cells (madeCells #[.slice none 0 0,.slice none 0 0] (k*2)) 29)).drew).heap[W.heap.size]?=some (.cells (madeCells #[.slice none 0 0,.slice none 0 0] (k*2)) 29 (0,0)):=heap_alloc_new W _
 refine⟨.slice none 0 0,.slice none 0 0,?_,?_,RdL.nil _ _ _,RdL.nil _ _ _⟩ <;> rw[A0d,Nat.zero_add]
 ·exact A0a hx _ _ (B6k k _ (by omega))
 ·rw[A0d]
  exact A0a hx _ _ (B6k k _ (by omega))
theorem C8f {n:Int}(h1:1≤n) (h6:n≤6){l:List UInt8}(hl:l.length≤100):VOk (BOk 11) (⟨n,[],[l],[]⟩:VI (BI 11)):=by
 have hR:reachBytes=140737488351232:=rfl
 refine⟨⟨show _≤n by omega,show n≤_ by omega⟩,fun n hn=>(List.not_mem_nil hn).elim,by show 0*_≤_;omega,fun z hz=>?_,by show 1*24≤_;omega,fun s hs=>(List.not_mem_nil hs).elim,by show 0*_≤_;omega⟩
 rw[List.mem_singleton.1 hz]
 omega
theorem B9e {n:Int}(h1:1≤n) (h6:n≤6){s:Nat}(hs:s < 18446744073709551616):VOk (BOk 11) (⟨n,[s],[],[]⟩:VI (BI 11)):=by
 have hR:reachBytes=140737488351232:=rfl
 refine⟨⟨show _≤n by omega,show n≤_ by omega⟩,fun n hn=>?_,by show 1*8≤_;omega,fun l hl=>(List.not_mem_nil hl).elim,by show 0*_≤_;omega,fun s hs=>(List.not_mem_nil hs).elim,by show 0*_≤_;omega⟩
 rw[List.mem_singleton.1 hn]
 exact hs
theorem D4n {k:Nat}(hk:k≤20):VOk (BOk 11) (⟨4,[],[],List.replicate k C3u⟩:VI (BI 11)):=by
 have hR:reachBytes=140737488351232:=rfl
 refine⟨⟨show _≤(4:Int) by omega,show(4:Int)≤_ by omega⟩,fun n hn=>(List.not_mem_nil hn).elim,by show 0*_≤_;omega,fun l hl=>(List.not_mem_nil hl).elim,by show 0*_≤_;omega,fun s hs=>?_,by show(List.replicate k C3u).length*48≤_;rw[List.length_replicate];omega⟩
 rw[List.eq_of_mem_replicate hs]
 exact⟨fun v hv=>(List.not_mem_nil hv).elim,by show 0*_≤_;omega,fun r hr=>(List.not_mem_nil hr).elim,by show 0*_≤_;omega⟩
theorem B0p {nm:List UInt8}{s r k:Nat}{ky:List UInt8}(hu:UsrOk nm s r k ky){op:Bool}{l:List (VI (BI 11))}(hm:∀ v∈l,v∈(A4x nm s r k ky op).vals) (h5:l.length≤5):BOk 12 (⟨l,[]⟩:BO (BI 11)):=by
 have hR:reachBytes=140737488351232:=rfl
 exact⟨fun v hv=>(A9k hu op).1 v (hm v hv),by show l.length*80≤_;omega,fun r hr=>(List.not_mem_nil hr).elim,by show 0*48≤_;omega⟩
theorem A9l (nm:List UInt8):(uv1 nm).length≤1:=by unfold uv1;split <;> simp
theorem B5f (s:Nat):(uv2 s).length≤1:=by unfold uv2;split <;> simp
theorem C8c (s:Nat):(uv3 s).length≤1:=by unfold uv3;split <;> simp
theorem C6j (nm:List UInt8) (s r k:Nat):(B3b nm s r k).length+1≤5:=by
 have h:=B9a nm s r k [] false
 have e:(A4x nm s r k [] false).vals.length=(B3b nm s r k).length+1:=by
  show(B3b nm s r k++[_]).length=_
  rw[List.length_append]
  rfl
 omega
theorem D4z {w:World}{v0 v1:Value}{b:BO (BI 11)}(h:BRd 11 w v0 v1 b) (ah:∀ v∈b.vals,VOk (BOk 11) v) (x:Int) :
  Calls Tryz.prog 18 #[.agg #[v0,v1],.int .i64 x] w fun e w'=>∃ (B:Bool) (q0:Int) (a1:Option Addr) (n1 c1:Nat) (a2:Option Addr) (n2 c2:Nat) (a3:Option Addr) (n3 c3:Nat),e = .returned (.tuple #[.agg #[.int .i64 q0,.slice a1 n1 c1,.slice a2 n2 c2,.slice a3 n3 c3],.bool B])∧Below w.heap.size w w'∧(B=false→∀ v∈b.vals,v.number≠x)∧(B=true→∃ v∈b.vals,v.number=x∧Row ekU w' 0 (.slice a1 n1 c1) v.bits):=by
 refine(B0y (B0:=0) (Nat.zero_le _) h ah x).mono ?_
 rintro e w' ⟨⟨hno,rfl⟩|⟨k,v,ak,hk2,hk3,y,q0,u1,v1,z1,u2,v2,z2,u3,v3,z3,ag,rfl,hpl,aj,_,_⟩,hb⟩
 ·exact⟨false,_,_,_,_,_,_,_,_,_,_,rfl,hb,fun _ v hv=>of_decide_eq_false (hno v hv),fun h=>by cases h⟩
 ·have h0 : [Value.int .i64 y.number,y.p1.v,y.p2.v,y.p3.v] = [.int .i64 q0,.slice u1 v1 z1,.slice u2 v2 z2,.slice u3 v3 z3]:=ag
  simp only[List.cons.injEq,and_true,Value.int.injEq,true_and] at h0
  obtain⟨e0,e1,e2,e3⟩:=h0
  have ac:y.bits=v.bits:=congrArg VI.bits hpl
  have hr:=aj.r1
  rw[e1,ac] at hr
  exact⟨true,_,_,_,_,_,_,_,_,_,_,rfl,hb,(fun h=>by cases h),fun _=>⟨v,List.mem_of_getElem? hk2,hk3,hr⟩⟩
theorem C9t {nm:List UInt8}{s r k:Nat}{ky:List UInt8}(hu:UsrOk nm s r k ky) (op:Bool){w:World}{v0 v1:Value}(h:BRd 11 w v0 v1 (A4x nm s r k ky op)) :
  Calls Tryz.prog 18 #[.agg #[v0,v1],.int .i64 5] w fun e w'=>∃ (q0:Int) (a1:Option Addr) (n1 c1:Nat) (a2:Option Addr) (n2 c2:Nat) (a3:Option Addr) (n3 c3:Nat),e = .returned (.tuple #[.agg #[.int .i64 q0,.slice a1 n1 c1,.slice a2 n2 c2,.slice a3 n3 c3],.bool (!op)])∧Below w.heap.size w w':=by
 refine(D4z h (A9k hu op).1 5).mono ?_
 rintro e w' ⟨B,q0,a1,n1,c1,a2,n2,c2,a3,n3,c3,rfl,hb,hf,ht⟩
 have hB:B = !op:=by
  cases op with
  | false=>
   cases B with
   | true=>rfl
   | false=>exact absurd rfl (hf rfl (uv5 ky) (List.mem_append_right _ (List.mem_singleton.2 rfl)))
  | true=>
   cases B with
   | false=>rfl
   | true=>
    obtain⟨v,hv,hn,_⟩:=ht rfl
    rcases List.mem_append.1 hv with h|h
    ·have:=D0s (nm:=nm) (s:=s) (r:=r) (k:=k) h
     omega
    ·rw[List.mem_singleton.1 h] at hn
     exact absurd hn (show ¬ (6:Int)=5 by decide)
 subst hB
 exact⟨_,_,_,_,_,_,_,_,_,_,rfl,hb⟩
theorem D3f {nm:List UInt8}{s r k:Nat}{ky:List UInt8}(hu:UsrOk nm s r k ky) (op:Bool){w:World}{v0 v1:Value}(h:BRd 11 w v0 v1 (A4x nm s r k ky op)) :
  Calls Tryz.prog 18 #[.agg #[v0,v1],.int .i64 6] w fun e w'=>∃ (q0:Int) (a1:Option Addr) (n1 c1:Nat) (a2:Option Addr) (n2 c2:Nat) (a3:Option Addr) (n3 c3:Nat),e = .returned (.tuple #[.agg #[.int .i64 q0,.slice a1 n1 c1,.slice a2 n2 c2,.slice a3 n3 c3],.bool op])∧Below w.heap.size w w'∧Hid (op=true→n1=1∧∃ g,a1=some ⟨g,0,none⟩∧w'.cell? ⟨g,0,none⟩=some (.int .u64 1)):=by
 refine(D4z h (A9k hu op).1 6).mono ?_
 rintro e w' ⟨B,q0,a1,n1,c1,a2,n2,c2,a3,n3,c3,rfl,hb,hf,ht⟩
 cases op with
 | false=>
  have hB:B=false:=by
   cases B with
   | false=>rfl
   | true=>
    obtain⟨v,hv,hn,_⟩:=ht rfl
    rcases List.mem_append.1 hv with h|h
    ·have:=D0s (nm:=nm) (s:=s) (r:=r) (k:=k) h
     omega
    ·rw[List.mem_singleton.1 h] at hn
     exact absurd hn (show ¬ (5:Int)=6 by decide)
  subst hB
  exact⟨_,_,_,_,_,_,_,_,_,_,rfl,hb,fun h=>by cases h⟩
 | true=>
  have hB:B=true:=by
   cases B with
   | true=>rfl
   | false=>exact absurd rfl (hf rfl uv6 (List.mem_append_right _ (List.mem_singleton.2 rfl)))
  subst hB
  refine⟨_,_,_,_,_,_,_,_,_,_,rfl,hb,fun _=>?_⟩
  obtain⟨v,hv,hn,hr⟩:=ht rfl
  have ac:v=uv6:=by
   rcases List.mem_append.1 hv with h|h
   ·have:=D0s (nm:=nm) (s:=s) (r:=r) (k:=k) h
    omega
   ·exact List.mem_singleton.1 h
  subst ac
  have hr:Row ekU w' 0 (.slice a1 n1 c1) [1]:=hr
  obtain rfl:n1=1:=hr.len
  obtain⟨g,rfl,hc⟩:=hr.get (k:=0) rfl
  exact⟨rfl,g,rfl,hc 0 _ rfl⟩
theorem user_walk {B:Nat}{w:World}(hg:Gl B w) (hB:B≤w.heap.size) (hT:Tabs w) (nm ky:List UInt8) (i7:nm.length≤140737488351232) (iz:ky.length≤140737488351232) (sc ro fr:Int) (hs1 : -9223372036854775808≤sc) (hs2:sc≤9223372036854775807) (hr1 : -9223372036854775808≤ro) (hr2:ro≤9223372036854775807) (iy : -9223372036854775808≤fr) (hf2:fr≤9223372036854775807) (op:Bool) :
  Calls Tryz.prog 5 #[.string (S nm),.int .i64 sc,.int .i64 ro,.int .i64 fr,.string (S ky),.bool op] w fun e w'=>e = .returned (.bool true)∧Below w.heap.size w w':=by
 have ha:=C4b hg hB hT
 go_enter Tryz.func5,Tryz.ntmps5
 go_wp2_with fail
 refine ha.mono ?_
 rintro e w1 ⟨rfl,hb1⟩
 have hf:=B5x (hg.later (hb1.mono hB)) (Nat.le_trans hB hb1.size)
 clear ha
 go_wp2_with fail
 refine hf.mono ?_
 rintro e w2 ⟨am,f6,cm,ae,ne,ce,rfl,hG,hb2⟩
 have dn:Below w.heap.size w w2:=KBT hb1 hb2
 clear hf
 obtain⟨W3,dt⟩:∃ W3,Hid (W3=w2.alloc (.cells #[.slice am f6 cm,.slice ae ne ce] 25)):=⟨_,rfl⟩
 have hb3:Below w2.heap.size w2 W3:=by rw[dt.out];exact(Below.refl _ _).alloc (Nat.le_refl _) _
 have x3:W3.heap[w2.heap.size]?=some (.cells #[.slice am f6 cm,.slice ae ne ce] 25 (0,0)):=by rw[dt.out];exact heap_alloc_new _ _
 have z3:w2.heap.size+1≤W3.heap.size:=by rw[dt.out];simp
 have jd:W3.heap.size≤w2.heap.size+1:=by rw[dt.out];simp
 obtain⟨Wc,dv⟩:∃ Wc,Hid (Wc=Lib.bytesWorld W3 5 (S nm)):=⟨_,rfl⟩
 have fu:Below W3.heap.size W3 Wc:=by rw[dv.out];exact B2s _ _
 have ii:RdL 1 YAt Wc (.slice (some ⟨w2.heap.size+1,0,none⟩) nm.length (grownCap W3 nm.length 0 5)) nm:=by
  have h:=C4p W3 nm (by omega)
  rw[←dv.out,show W3.heap.size=w2.heap.size+1 by omega] at h
  exact h
 have et:=C7b ii (by omega)
 obtain⟨q,Hq⟩:∃ q,Hid (Lib.validD nm=q):=⟨_,rfl⟩
 rw[Hq.out] at et
 have a8:=B3p nm
 have hsz:=A2k nm
 have fz:=A2k ky
 rw[dv.out,dt.out] at et
 go_wp2_with fail
 refine et.mono ?_
 rintro e _ ⟨rfl,rfl⟩
 rw[←dt.out,←dv.out]
 have bc:Below w.heap.size w Wc:=KBT (KBT dn hb3) fu
 clear et a8
 cases q with
 | false=>
  go_wp2
  go_ret
  exact⟨rfl,bc⟩
 | true=>
 by_cases h1:100 < (nm.length:Int)
 ·go_wp2
  go_ret
  exact⟨rfl,bc⟩
 by_cases h2:100 < (ky.length:Int)
 ·go_wp2
  go_ret
  exact⟨rfl,bc⟩
 by_cases h3:fr < 0
 ·go_wp2
  go_ret
  exact⟨rfl,bc⟩
 by_cases h4:20 < fr
 ·go_wp2
  go_ret
  exact⟨rfl,bc⟩
 by_cases h5:ro < -2147483648
 ·go_wp2
  go_ret
  exact⟨rfl,bc⟩
 by_cases h6:2147483647 < ro
 ·go_wp2
  go_ret
  exact⟨rfl,bc⟩
 have bw:nm.length≤100:=by omega
 have bv:ky.length≤100:=by omega
 have ij:f6=1:=hG.1.len.1
 subst ij
 obtain⟨bm,om,rfl,hat⟩:=hG.1.get MAt.plain (k:=0) (a:=A9j) rfl
 obtain⟨vf,vb,g0,g1,g2,gq,io⟩:=hat.at
 obtain⟨af,nf,kf,rfl,_,_⟩:=gq.shape
 obtain⟨ab,nb,kb,rfl,_,_⟩:=io.shape
 rw[Nat.zero_mul,Nat.add_zero] at g0 g1 g2
 have g0:w2.cell? ⟨bm,om,none⟩=some (.string (S [85,115,101,114])):=g0
 have cj:Below w2.heap.size w2 Wc:=KBT hb3 fu
 have g0:=A0c cj g0
 have g1:=A0c cj g1
 have g2:=A0c cj g2
 have zc:W3.heap.size+1≤Wc.heap.size:=by rw[dv.out,Lib.bytesWorld_size];omega
 have je:Wc.heap.size≤W3.heap.size+1:=by rw[dv.out,Lib.bytesWorld_size];omega
 have xc:=(fu.block w2.heap.size (by omega)).trans x3
 obtain⟨k0,k1⟩:=A0t xc
 obtain⟨W4,dy⟩:∃ W4,Hid (W4=(Wc.alloc (.cells #[.string (S [85,115,101,114]),.slice af nf kf,.slice ab nb kb] 38)).alloc (.cells #[.slice none 0 0,.slice none 0 0] 29)):=⟨_,rfl⟩
 have hb4:Below Wc.heap.size Wc W4:=by rw[dy.out];exact((Below.refl _ _).alloc (Nat.le_refl _) _).alloc (by simp) _
 have x4:W4.heap[Wc.heap.size]?=some (.cells #[.string (S [85,115,101,114]),.slice af nf kf,.slice ab nb kb] 38 (0,0)):=by rw[dy.out];exact A0m _ _ _
 have x5:W4.heap[Wc.heap.size+1]?=some (.cells #[.slice none 0 0,.slice none 0 0] 29 (0,0)):=by rw[dy.out];exact A0i _ _ _
 have z4:Wc.heap.size+2≤W4.heap.size:=by rw[dy.out];simp
 have ba:Below w2.heap.size w2 W4:=KBT cj hb4
 have dx:RdL 6 FAt w2 (.slice af nf kf) A2f:=gq
 have cg:∀ V,Below (Wc.heap.size+1) W4 V→(V.cell? ⟨Wc.heap.size,0,none⟩=some (.string (S [85,115,101,114]))∧V.cell? ⟨Wc.heap.size,1,none⟩=some (.slice af nf kf)∧V.cell? ⟨Wc.heap.size,2,none⟩=some (.slice ab nb kb))∧V.heap[w2.heap.size]?=some (.cells #[.slice (some ⟨bm,om,none⟩) 1 cm,.slice ae ne ce] 25 (0,0)):=fun V hV=>⟨A4s ((hV.block _ (by omega)).trans x4),(hV.block _ (by omega)).trans ((hb4.block _ (by omega)).trans xc)⟩
 have cg:Hid (∀ V,Below (Wc.heap.size+1) W4 V→(V.cell? ⟨Wc.heap.size,0,none⟩=some (.string (S [85,115,101,114]))∧V.cell? ⟨Wc.heap.size,1,none⟩=some (.slice af nf kf)∧V.cell? ⟨Wc.heap.size,2,none⟩=some (.slice ab nb kb))∧V.heap[w2.heap.size]?=some (.cells #[.slice (some ⟨bm,om,none⟩) 1 cm,.slice ae ne ce] 25 (0,0))):=cg
 have gh:US W4 (Wc.heap.size+1) ⟨[],[]⟩ none 0 0 none 0 0 W4:=⟨x5,⟨RdL.nil _ _ _,RdL.nil _ _ _⟩,Below.refl _ _,by omega⟩
 have a8:=B3p nm
 have dr:=fun W=>Lib.bytesWorld_size W 5 (S nm)
 go_upto_region 8 with fail
 rw[←dy.out]
 clear g0 g1 g2 k0 k1
 obtain⟨⟨m0,m1,m2⟩,_⟩:=cg.out W4 (Below.refl _ _)
 obtain⟨c0,c1⟩:=A0t gh.cell
 go_wp2_with fail
 obtain⟨ns,ag⟩:∃ ns:Nat,Hid (IntKind.u64.wrap sc=(ns:Int)):=⟨(IntKind.u64.wrap sc).toNat,by show _=_;rw[IntKind.wrap_u64];omega⟩
 obtain⟨nr,ac⟩:∃ nr:Nat,Hid (IntKind.u64.wrap ro=(nr:Int)):=⟨(IntKind.u64.wrap ro).toNat,by show _=_;rw[IntKind.wrap_u64];omega⟩
 obtain⟨kk,aj⟩:∃ kk:Nat,Hid (fr=(kk:Int)):=⟨fr.toNat,by show _=_;omega⟩
 have au:Hid (ns=0→sc=0):=fun h=>by have:=ag.out;rw[IntKind.wrap_u64] at this;omega
 have ak:Hid (nr=0→ro=0):=fun h=>by have:=ac.out;rw[IntKind.wrap_u64] at this;omega
 have HU:Hid (UsrOk nm ns nr kk ky):=by
  have e1:=ag.out
  have e2:=ac.out
  have e3:=aj.out
  rw[IntKind.wrap_u64] at e1 e2
  refine⟨bw,Hq.out,by omega,by omega,?_,by omega,bv⟩
  unfold A5z
  by_cases h:nr < 2147483648
  ·rw[decide_eq_true h];rfl
  ·rw[decide_eq_false h,decide_eq_true (by omega:18446744071562067968≤nr)];rfl
 obtain⟨ns,ag⟩:∃ ns:Nat,Hid (IntKind.u64.wrap sc=(ns:Int)):=⟨(IntKind.u64.wrap sc).toNat,by show _=_;rw[IntKind.wrap_u64];omega⟩
 obtain⟨nr,ac⟩:∃ nr:Nat,Hid (IntKind.u64.wrap ro=(nr:Int)):=⟨(IntKind.u64.wrap ro).toNat,by show _=_;rw[IntKind.wrap_u64];omega⟩
 obtain⟨kk,aj⟩:∃ kk:Nat,Hid (fr=(kk:Int)):=⟨fr.toNat,by show _=_;omega⟩
 have au:Hid (ns=0→sc=0):=fun h=>by have:=ag.out;rw[IntKind.wrap_u64] at this;omega
 have ak:Hid (nr=0→ro=0):=fun h=>by have:=ac.out;rw[IntKind.wrap_u64] at this;omega
 have HU:Hid (UsrOk nm ns nr kk ky):=by
  have e1:=ag.out
  have e2:=ac.out
  have e3:=aj.out
  rw[IntKind.wrap_u64] at e1 e2
  refine⟨bw,Hq.out,by omega,by omega,?_,by omega,bv⟩
  unfold A5z
  by_cases h:nr < 2147483648
  ·rw[decide_eq_true h];rfl
  ·rw[decide_eq_false h,decide_eq_true (by omega:18446744071562067968≤nr)];rfl
 obtain⟨ns,ag⟩:∃ ns:Nat,Hid (IntKind.u64.wrap sc=(ns:Int)):=⟨(IntKind.u64.wrap sc).toNat,by show _=_;rw[IntKind.wrap_u64];omega⟩
 obtain⟨nr,ac⟩:∃ nr:Nat,Hid (IntKind.u64.wrap ro=(nr:Int)):=⟨(IntKind.u64.wrap ro).toNat,by show _=_;rw[IntKind.wrap_u64];omega⟩
 obtain⟨kk,aj⟩:∃ kk:Nat,Hid (fr=(kk:Int)):=⟨fr.toNat,by show _=_;omega⟩
 have au:Hid (ns=0→sc=0):=fun h=>by have:=ag.out;rw[IntKind.wrap_u64] at this;omega
 have ak:Hid (nr=0→ro=0):=fun h=>by have:=ac.out;rw[IntKind.wrap_u64] at this;omega
 have HU:Hid (UsrOk nm ns nr kk ky):=by
  have e1:=ag.out
  have e2:=ac.out
  have e3:=aj.out
  rw[IntKind.wrap_u64] at e1 e2
  refine⟨bw,Hq.out,by omega,by omega,?_,by omega,bv⟩
  unfold A5z
  by_cases h:nr < 2147483648
  ·rw[decide_eq_true h];rfl
  ·rw[decide_eq_false h,decide_eq_true (by omega:18446744071562067968≤nr)];rfl
 obtain⟨ns,ag⟩:∃ ns:Nat,Hid (IntKind.u64.wrap sc=(ns:Int)):=⟨(IntKind.u64.wrap sc).toNat,by show _=_;rw[IntKind.wrap_u64];omega⟩
 obtain⟨nr,ac⟩:∃ nr:Nat,Hid (IntKind.u64.wrap ro=(nr:Int)):=⟨(IntKind.u64.wrap ro).toNat,by show _=_;rw[IntKind.wrap_u64];omega⟩
 obtain⟨kk,aj⟩:∃ kk:Nat,Hid (fr=(kk:Int)):=⟨fr.toNat,by show _=_;omega⟩
 have au:Hid (ns=0→sc=0):=fun h=>by have:=ag.out;rw[IntKind.wrap_u64] at this;omega
 have ak:Hid (nr=0→ro=0):=fun h=>by have:=ac.out;rw[IntKind.wrap_u64] at this;omega
 have HU:Hid (UsrOk nm ns nr kk ky):=by
  have e1:=ag.out
  have e2:=ac.out
  have e3:=aj.out
  rw[IntKind.wrap_u64] at e1 e2
  refine⟨bw,Hq.out,by omega,by omega,?_,by omega,bv⟩
  unfold A5z
  by_cases h:nr < 2147483648
  ·rw[decide_eq_true h];rfl
  ·rw[decide_eq_false h,decide_eq_true (by omega:18446744071562067968≤nr)];rfl
 obtain⟨ns,ag⟩:∃ ns:Nat,Hid (IntKind.u64.wrap sc=(ns:Int)):=⟨(IntKind.u64.wrap sc).toNat,by show _=_;rw[IntKind.wrap_u64];omega⟩
 obtain⟨nr,ac⟩:∃ nr:Nat,Hid (IntKind.u64.wrap ro=(nr:Int)):=⟨(IntKind.u64.wrap ro).toNat,by show _=_;rw[IntKind.wrap_u64];omega⟩
 obtain⟨kk,aj⟩:∃ kk:Nat,Hid (fr=(kk:Int)):=⟨fr.toNat,by show _=_;omega⟩
 have au:Hid (ns=0→sc=0):=fun h=>by have:=ag.out;rw[IntKind.wrap_u64] at this;omega
 have ak:Hid (nr=0→ro=0):=fun h=>by have:=ac.out;rw[IntKind.wrap_u64] at this;omega
 have HU:Hid (UsrOk nm ns nr kk ky):=by
  have e1:=ag.out
  have e2:=ac.out
  have e3:=aj.out
  rw[IntKind.wrap_u64] at e1 e2
  refine⟨bw,Hq.out,by omega,by omega,?_,by omega,bv⟩
  unfold A5z
  by_cases h:nr < 2147483648
  ·rw[decide_eq_true h];rfl
  ·rw[decide_eq_false h,decide_eq_true (by omega:18446744071562067968≤nr)];rfl
 obtain⟨ns,ag⟩:∃ ns:Nat,Hid (IntKind.u64.wrap sc=(ns:Int)):=⟨(IntKind.u64.wrap sc).toNat,by show _=_;rw[IntKind.wrap_u64];omega⟩
 obtain⟨nr,ac⟩:∃ nr:Nat,Hid (IntKind.u64.wrap ro=(nr:Int)):=⟨(IntKind.u64.wrap ro).toNat,by show _=_;rw[IntKind.wrap_u64];omega⟩
 obtain⟨kk,aj⟩:∃ kk:Nat,Hid (fr=(kk:Int)):=⟨fr.toNat,by show _=_;omega⟩
 have au:Hid (ns=0→sc=0):=fun h=>by have:=ag.out;rw[IntKind.wrap_u64] at this;omega
 have ak:Hid (nr=0→ro=0):=fun h=>by have:=ac.out;rw[IntKind.wrap_u64] at this;omega
 have HU:Hid (UsrOk nm ns nr kk ky):=by
  have e1:=ag.out
  have e2:=ac.out
  have e3:=aj.out
  rw[IntKind.wrap_u64] at e1 e2
  refine⟨bw,Hq.out,by omega,by omega,?_,by omega,bv⟩
  unfold A5z
  by_cases h:nr < 2147483648
  ·rw[decide_eq_true h];rfl
  ·rw[decide_eq_false h,decide_eq_true (by omega:18446744071562067968≤nr)];rfl
 obtain⟨ns,ag⟩:∃ ns:Nat,Hid (IntKind.u64.wrap sc=(ns:Int)):=⟨(IntKind.u64.wrap sc).toNat,by show _=_;rw[IntKind.wrap_u64];omega⟩
 obtain⟨nr,ac⟩:∃ nr:Nat,Hid (IntKind.u64.wrap ro=(nr:Int)):=⟨(IntKind.u64.wrap ro).toNat,by show _=_;rw[IntKind.wrap_u64];omega⟩
 obtain⟨kk,aj⟩:∃ kk:Nat,Hid (fr=(kk:Int)):=⟨fr.toNat,by show _=_;omega⟩
 have au:Hid (ns=0→sc=0):=fun h=>by have:=ag.out;rw[IntKind.wrap_u64] at this;omega
 have ak:Hid (nr=0→ro=0):=fun h=>by have:=ac.out;rw[IntKind.wrap_u64] at this;omega
 have HU:Hid (UsrOk nm ns nr kk ky):=by
  have e1:=ag.out
  have e2:=ac.out
  have e3:=aj.out
  rw[IntKind.wrap_u64] at e1 e2
  refine⟨bw,Hq.out,by omega,by omega,?_,by omega,bv⟩
  unfold A5z
  by_cases h:nr < 2147483648
  ·rw[decide_eq_true h];rfl
  ·rw[decide_eq_false h,decide_eq_true (by omega:18446744071562067968≤nr)];rfl
 obtain⟨ns,ag⟩:∃ ns:Nat,Hid (IntKind.u64.wrap sc=(ns:Int)):=⟨(IntKind.u64.wrap sc).toNat,by show _=_;rw[IntKind.wrap_u64];omega⟩
 obtain⟨nr,ac⟩:∃ nr:Nat,Hid (IntKind.u64.wrap ro=(nr:Int)):=⟨(IntKind.u64.wrap ro).toNat,by show _=_;rw[IntKind.wrap_u64];omega⟩
 obtain⟨kk,aj⟩:∃ kk:Nat,Hid (fr=(kk:Int)):=⟨fr.toNat,by show _=_;omega⟩
 have au:Hid (ns=0→sc=0):=fun h=>by have:=ag.out;rw[IntKind.wrap_u64] at this;omega
 have ak:Hid (nr=0→ro=0):=fun h=>by have:=ac.out;rw[IntKind.wrap_u64] at this;omega
 have HU:Hid (UsrOk nm ns nr kk ky):=by
  have e1:=ag.out
  have e2:=ac.out
  have e3:=aj.out
  rw[IntKind.wrap_u64] at e1 e2
  refine⟨bw,Hq.out,by omega,by omega,?_,by omega,bv⟩
  unfold A5z
  by_cases h:nr < 2147483648
  ·rw[decide_eq_true h];rfl
  ·rw[decide_eq_false h,decide_eq_true (by omega:18446744071562067968≤nr)];rfl
 obtain⟨ns,ag⟩:∃ ns:Nat,Hid (IntKind.u64.wrap sc=(ns:Int)):=⟨(IntKind.u64.wrap sc).toNat,by show _=_;rw[IntKind.wrap_u64];omega⟩
 obtain⟨nr,ac⟩:∃ nr:Nat,Hid (IntKind.u64.wrap ro=(nr:Int)):=⟨(IntKind.u64.wrap ro).toNat,by show _=_;rw[IntKind.wrap_u64];omega⟩
 obtain⟨kk,aj⟩:∃ kk:Nat,Hid (fr=(kk:Int)):=⟨fr.toNat,by show _=_;omega⟩
 have au:Hid (ns=0→sc=0):=fun h=>by have:=ag.out;rw[IntKind.wrap_u64] at this;omega
 have ak:Hid (nr=0→ro=0):=fun h=>by have:=ac.out;rw[IntKind.wrap_u64] at this;omega
 have HU:Hid (UsrOk nm ns nr kk ky):=by
  have e1:=ag.out
  have e2:=ac.out
  have e3:=aj.out
  rw[IntKind.wrap_u64] at e1 e2
  refine⟨bw,Hq.out,by omega,by omega,?_,by omega,bv⟩
  unfold A5z
  by_cases h:nr < 2147483648
  ·rw[decide_eq_true h];rfl
  ·rw[decide_eq_false h,decide_eq_true (by omega:18446744071562067968≤nr)];rfl
 obtain⟨ns,ag⟩:∃ ns:Nat,Hid (IntKind.u64.wrap sc=(ns:Int)):=⟨(IntKind.u64.wrap sc).toNat,by show _=_;rw[IntKind.wrap_u64];omega⟩
 obtain⟨nr,ac⟩:∃ nr:Nat,Hid (IntKind.u64.wrap ro=(nr:Int)):=⟨(IntKind.u64.wrap ro).toNat,by show _=_;rw[IntKind.wrap_u64];omega⟩
 obtain⟨kk,aj⟩:∃ kk:Nat,Hid (fr=(kk:Int)):=⟨fr.toNat,by show _=_;omega⟩
 have au:Hid (ns=0→sc=0):=fun h=>by have:=ag.out;rw[IntKind.wrap_u64] at this;omega
 have ak:Hid (nr=0→ro=0):=fun h=>by have:=ac.out;rw[IntKind.wrap_u64] at this;omega
 have HU:Hid (UsrOk nm ns nr kk ky):=by
  have e1:=ag.out
  have e2:=ac.out
  have e3:=aj.out
  rw[IntKind.wrap_u64] at e1 e2
  refine⟨bw,Hq.out,by omega,by omega,?_,by omega,bv⟩
  unfold A5z
  by_cases h:nr < 2147483648
  ·rw[decide_eq_true h];rfl
  ·rw[decide_eq_false h,decide_eq_true (by omega:18446744071562067968≤nr)];rfl
 have bh:=C7j W4 nm (by omega)
 have hst:=A6v (y:=(⟨1,[],[nm],[]⟩:VI (BI 11))) (ab:=ab) (nb:=nb) (cb:=kb) gh bh.1 ba (by omega) dx (B0p (op:=false) HU.out (fun v hv=>by cases hv) (by decide)) (show(1:Int)≤1 by decide) (show(1:Int)≤6 by decide) (RdL.nil _ _ _) bh.2 (RdL.nil _ _ _) (C8f (by decide) (by decide) bw) (by decide)
 refine hst.mono ?_
 rintro e w5 ⟨p0,q0,r0,p1,q1,r1,rfl,ah,dg⟩
 have dg:US W4 (Wc.heap.size+1) ⟨A3h A2f (uF 1) [] (⟨1,[],[nm],[]⟩:VI (BI 11)),[]⟩ p0 q0 r0 p1 q1 r1 _:=dg
 rw[D3s] at dg
 obtain⟨V1,ew⟩:∃ V1,Hid (V1=(w5.setCell ⟨Wc.heap.size+1,0,none⟩ (.slice p0 q0 r0)).setCell ⟨Wc.heap.size+1,1,none⟩ (.slice p1 q1 r1)):=⟨_,rfl⟩
 rw[←ew.out] at dg
 obtain⟨d0,d1⟩:=A0t ah
 have f0:=A0b ah 0
 have f1:=A0b ah 1
 clear hst a8 dr m0 m1 m2 c0 c1
 go_upto_region 9 with fail
 rw[←ew.out]
 clear d0 d1 f0 f1 ah ew
 obtain⟨⟨m0,m1,m2⟩,_⟩:=cg.out V1 dg.bel
 obtain⟨c0,c1⟩:=A0t dg.cell
 go_wp2_with fail
 rw[ag.out]
 have bh:=B8k V1 ns
 have hst:=A6v (y:=(⟨2,[ns],[],[]⟩:VI (BI 11))) (ab:=ab) (nb:=nb) (cb:=kb) dg bh.1 ba (by omega) dx (B0p (op:=false) HU.out (fun v hv=>List.mem_append_left _ (List.mem_append_left _ (List.mem_append_left _ (List.mem_append_left _ hv)))) (by have:=A9l nm;omega)) (show(1:Int)≤2 by decide) (show(2:Int)≤6 by decide) bh.2 (RdL.nil _ _ _) (RdL.nil _ _ _) (B9e (by decide) (by decide) HU.out.s1) (by show(uv1 nm).length≤5;have:=A9l nm;omega)
 refine hst.mono ?_
 rintro e w5 ⟨p2,q2,r2,p3,q3,r3,rfl,ah,dh⟩
 have dh:US W4 (Wc.heap.size+1) ⟨A3h A2f (uF 2) (uv1 nm) (⟨2,[ns],[],[]⟩:VI (BI 11)),[]⟩ p2 q2 r2 p3 q3 r3 _:=dh
 rw[D3v] at dh
 obtain⟨V2,fc⟩:∃ V2,Hid (V2=(w5.setCell ⟨Wc.heap.size+1,0,none⟩ (.slice p2 q2 r2)).setCell ⟨Wc.heap.size+1,1,none⟩ (.slice p3 q3 r3)):=⟨_,rfl⟩
 rw[←fc.out] at dh
 obtain⟨d0,d1⟩:=A0t ah
 have f0:=A0b ah 0
 have f1:=A0b ah 1
 clear hst m0 m1 m2 c0 c1 dg
 go_upto_region 10 with fail
 rw[←fc.out]
 clear d0 d1 f0 f1 ah fc
 obtain⟨⟨m0,m1,m2⟩,_⟩:=cg.out V2 dh.bel
 obtain⟨c0,c1⟩:=A0t dh.cell
 go_wp2_with fail
 rw[ac.out]
 have bh:=B8k V2 nr
 have hst:=A6v (y:=(⟨3,[nr],[],[]⟩:VI (BI 11))) (ab:=ab) (nb:=nb) (cb:=kb) dh bh.1 ba (by omega) dx (B0p (op:=false) HU.out (fun v hv=>List.mem_append_left _ (List.mem_append_left _ (List.mem_append_left _ hv))) (by have:=A9l nm;have:=B5f ns;rw[List.length_append];omega)) (show(1:Int)≤3 by decide) (show(3:Int)≤6 by decide) bh.2 (RdL.nil _ _ _) (RdL.nil _ _ _) (B9e (by decide) (by decide) HU.out.r1) (by show(uv1 nm++uv2 ns).length≤5;have:=A9l nm;have:=B5f ns;rw[List.length_append];omega)
 refine hst.mono ?_
 rintro e w5 ⟨p4,q4,r4,p5,q5,r5,rfl,ah,bg⟩
 have bg:US W4 (Wc.heap.size+1) ⟨A3h A2f (uF 3) (uv1 nm++uv2 ns) (⟨3,[nr],[],[]⟩:VI (BI 11)),[]⟩ p4 q4 r4 p5 q5 r5 _:=bg
 rw[C6l] at bg
 obtain⟨V3,fd⟩:∃ V3,Hid (V3=(w5.setCell ⟨Wc.heap.size+1,0,none⟩ (.slice p4 q4 r4)).setCell ⟨Wc.heap.size+1,1,none⟩ (.slice p5 q5 r5)):=⟨_,rfl⟩
 rw[←fd.out] at bg
 obtain⟨d0,d1⟩:=A0t ah
 have f0:=A0b ah 0
 have f1:=A0b ah 1
 clear hst m0 m1 m2 c0 c1 dh
 go_upto_if 92 with fail
 rw[←fd.out]
 clear d0 d1 f0 f1 ah fd
 have bu:kk≤20:=by have:=aj.out;omega
 obtain⟨qk,fj⟩:∃ q,decide (0 < fr)=q:=⟨_,rfl⟩
 rw[fj]
 have gc:Hid (decide (0 < fr)=qk):=fj
 clear fj
 go_cut [] from 93 to 98 (fun wc=>∃ (i0:Option Addr) (j0 l0:Nat) (i1:Option Addr) (j1 l1:Nat),Hid (US W4 (Wc.heap.size+1) ⟨B3b nm ns nr kk,[]⟩ i0 j0 l0 i1 j1 l1 wc))
 case first=>
  cases qk with
  | true=>
   have im:0 < kk:=by have h:=of_decide_eq_true gc.out;have:=aj.out;omega
   obtain⟨W7,fh⟩:∃ W7,Hid (W7=(V3.alloc (.cells (madeCells #[.slice none 0 0,.slice none 0 0] (kk*2)) 29)).drew):=⟨_,rfl⟩
   have i6:∀ W,(Instr.makeSlice 60 (.int .i64 fr) (.int .i64 fr)).run Tryz.prog W = .ok (.slice (some ⟨W.heap.size,0,none⟩) kk kk) (W.alloc (.cells (madeCells #[.slice none 0 0,.slice none 0 0] (kk*2)) 29)):=fun W=>by
    have h:=C5r W kk bu
    rw[←aj.out] at h
    exact h
   obtain⟨cw,gw⟩:=D1i V3 kk bu
   rw[←fh.out] at cw gw
   have hst:=A6v (y:=(⟨4,[],[],List.replicate kk C3u⟩:VI (BI 11))) (ab:=ab) (nb:=nb) (cb:=kb) bg cw ba (by omega) dx (B0p (op:=false) HU.out (fun v hv=>List.mem_append_left _ (List.mem_append_left _ hv)) (by have:=A9l nm;have:=B5f ns;have:=C8c nr;rw[List.length_append,List.length_append];omega)) (show(1:Int)≤4 by decide) (show(4:Int)≤6 by decide) (RdL.nil _ _ _) (RdL.nil _ _ _) gw (D4n bu) (by show(uv1 nm++uv2 ns++uv3 nr).length≤5;have:=A9l nm;have:=B5f ns;have:=C8c nr;rw[List.length_append,List.length_append];omega)
   obtain⟨⟨m0,m1,m2⟩,_⟩:=cg.out V3 bg.bel
   obtain⟨c0,c1⟩:=A0t bg.cell
   have g9:Below (Wc.heap.size+1) W4 W7:=bg.bel.trans (cw.mono (by have:=bg.lt;omega))
   obtain⟨⟨m3,m4,m5⟩,_⟩:=cg.out W7 g9
   obtain⟨c3,c4⟩:=A0t ((cw.block _ bg.lt).trans bg.cell)
   rw[fh.out] at m3 m4 m5 c3 c4
   go_upto_region 12 with fail
   go_region_with (go_at_call 17;rw[←fh.out];refine hst.mono ?_;rintro e w5 ⟨p6,q6,r6,p7,q7,r7,rfl,ah,bn⟩;obtain⟨d0,d1⟩:=A0t ah;have f0:=A0b ah 0;have f1:=A0b ah 1)
   all_goals
    go_wp2_with fail
    go_meet
    have bn:US W4 (Wc.heap.size+1) ⟨A3h A2f (uF 4) (uv1 nm++uv2 ns++uv3 nr) (⟨4,[],[],List.replicate kk C3u⟩:VI (BI 11)),[]⟩ p6 q6 r6 p7 q7 r7 _:=bn
    rw[D0u _ _ _ _ (by omega)] at bn
    exact⟨_,_,_,_,_,_,bn⟩
  | false=>
   have g7:Hid (kk=0):=by
    show _=_
    have h:=of_decide_eq_false gc.out
    have:=aj.out
    omega
   go_wp2_with fail
   go_meet
   rw[D5o] at bg
   rw[g7.out]
   exact⟨_,_,_,_,_,_,bg⟩
 case rest=>
  obtain⟨i0,j0,l0,i1,j1,l1,bn⟩:=hcut
  have bn:=bn.out
  clear bg
  obtain⟨⟨m0,m1,m2⟩,_⟩:=cg.out wc bn.bel
  obtain⟨c0,c1⟩:=A0t bn.cell
  have a8:=B3p ky
  have dr:=fun W=>Lib.bytesWorld_size W 5 (S ky)
  go_wp2_with fail
  have bh:=C7j wc ky (by omega)
  have hst:=A6v (y:=(uv5 ky)) (ab:=ab) (nb:=nb) (cb:=kb) bn bh.1 ba (by omega) dx (B0p (op:=false) HU.out (fun v hv=>List.mem_append_left _ hv) (Nat.le_of_succ_le (C6j nm ns nr kk))) (show(1:Int)≤5 by decide) (show(5:Int)≤6 by decide) (RdL.nil _ _ _) bh.2 (RdL.nil _ _ _) (C8f (by decide) (by decide) bv) (Nat.le_of_succ_le (C6j nm ns nr kk))
  refine hst.mono ?_
  rintro e w5 ⟨p8,q8,r8,p9,q9,r9,rfl,ah,bp⟩
  have bp:US W4 (Wc.heap.size+1) ⟨A3h A2f (uF 5) (B3b nm ns nr kk) (uv5 ky),[]⟩ p8 q8 r8 p9 q9 r9 _:=bp
  rw[D0t] at bp
  obtain⟨V5,fe⟩:∃ V5,Hid (V5=(w5.setCell ⟨Wc.heap.size+1,0,none⟩ (.slice p8 q8 r8)).setCell ⟨Wc.heap.size+1,1,none⟩ (.slice p9 q9 r9)):=⟨_,rfl⟩
  rw[←fe.out] at bp
  obtain⟨d0,d1⟩:=A0t ah
  have f0:=A0b ah 0
  have f1:=A0b ah 1
  clear hst a8 dr m0 m1 m2 c0 c1
  go_upto_if 106 with fail
  rw[←fe.out]
  clear d0 d1 f0 f1 ah fe bn
  have bp:US W4 (Wc.heap.size+1) (A4x nm ns nr kk ky false) p8 q8 r8 p9 q9 r9 V5:=bp
  go_cut [17] from 107 to 111 (fun ir wd=>∃ (i0:Option Addr) (j0 l0:Nat) (i1:Option Addr) (j1 l1:Nat) (eu:Int),ir = .int .i64 eu∧Hid (eu=if op then 1 else 0)∧Hid (US W4 (Wc.heap.size+1) (A4x nm ns nr kk ky op) i0 j0 l0 i1 j1 l1 wd))
  case first=>
   cases op with
   | false=>
    go_wp2_with fail
    go_meet
    exact⟨_,_,_,_,_,_,_,rfl,rfl,bp⟩
   | true=>
    obtain⟨⟨m0,m1,m2⟩,_⟩:=cg.out V5 bp.bel
    obtain⟨c0,c1⟩:=A0t bp.cell
    have bh:=B8k V5 1
    have hst:=A6v (y:=uv6) (ab:=ab) (nb:=nb) (cb:=kb) bp bh.1 ba (by omega) dx (A9k HU.out false) (show(1:Int)≤6 by decide) (show(6:Int)≤6 by decide) bh.2 (RdL.nil _ _ _) (RdL.nil _ _ _) (B9e (by decide) (by decide) (by decide)) (B9a nm ns nr kk ky false)
    go_wp2_with fail
    refine hst.mono ?_
    rintro e w5 ⟨p6,q6,r6,p7,q7,r7,rfl,ah,bl⟩
    have bl:US W4 (Wc.heap.size+1) ⟨A3h A2f (uF 6) (A4x nm ns nr kk ky false).vals uv6,[]⟩ p6 q6 r6 p7 q7 r7 _:=bl
    rw[D3u] at bl
    obtain⟨d0,d1⟩:=A0t ah
    have f0:=A0b ah 0
    have f1:=A0b ah 1
    go_wp2_with fail
    go_meet
    exact⟨_,_,_,_,_,_,_,rfl,rfl,bl⟩
  case rest=>
   obtain⟨i0,j0,l0,i1,j1,l1,eu,rfl,gy,bl⟩:=hcut
   have bl:=bl.out
   clear bp
   have gi:=bl.bel
   have iq:=bl.lt
   have cu:Below w2.heap.size w2 wc:=ba.trans (gi.mono (by omega))
   have eh:Below w.heap.size w wc:=dn.trans (cu.mono dn.size)
   obtain⟨_,xf⟩:=cg.out wc gi
   obtain⟨k0,k1⟩:=A0t xf
   obtain⟨c0,c1⟩:=A0t bl.cell
   have fw:=B5o (B5d (hG.below cu) (hT.below eh)) bl.rd (A9k HU.out op)
   obtain⟨Bx,Ex,HB⟩:∃ Bx Ex,Hid (C1i A2b 11 0 (A4x nm ns nr kk ky op)=(Bx,Ex)):=⟨_,_,rfl⟩
   obtain⟨df,dp⟩:=D4l HU.out op
   rw[HB.out] at df dp fw
   have df:Ex=0:=df
   subst df
   have HY:Hid (A6f A2b 0 Bx = .ok (A4x nm ns nr kk ky op)):=dp
   clear dp
   go_wp2_with fail
   refine fw.mono ?_
   rintro e w6 ⟨pa,pn,pc,rfl,gu,dw⟩
   have il:Hid (Bx.length=pn):=gu.len.symm
   have ft:Below w2.heap.size w2 w6:=KBT cu dw
   have ee:Below w.heap.size w w6:=KBT eh dw
   obtain⟨k2,k3⟩:=A0t ((dw.block _ (by have:=cu.size;omega)).trans xf)
   have iw:=(dw.block _ iq).trans bl.cell
   have gp:Calls Tryz.prog 9 #[.agg #[.slice (some ⟨bm,om,none⟩) 1 cm,.slice ae ne ce],.int .i64 0,.slice pa pn pc] w6 fun e w'=>∃ (i0:Option Addr) (j0 l0:Nat) (i1:Option Addr) (j1 l1:Nat),e = .returned (.tuple #[.agg #[.slice i0 j0 l0,.slice i1 j1 l1],.int .i64 0])∧Hid (BRd 11 w' (.slice i0 j0 l0) (.slice i1 j1 l1) (A4x nm ns nr kk ky op))∧Below w6.heap.size w6 w':=by
    refine(B2x C0t (B5d (hG.below ft) (hT.below ee)) gu.rdY).mono ?_
    intro e w' ho
    rw[HY.out] at ho
    obtain⟨c,i0,j0,l0,i1,j1,l1,h1,h2,h3,h4,_,h5⟩:=ho
    have h6:=OwnB.rd (show OwnB w6.heap.size (11+1) w' c from h4)
    have h7 : [PV.v (BL.q0 c),PV.v (BL.q1 c)] = [.slice i0 j0 l0,.slice i1 j1 l1]:=h1
    simp only[List.cons.injEq,and_true] at h7
    rw[h7.1,h7.2,show LB.pl (11+1) c=A4x nm ns nr kk ky op from h3] at h6
    exact⟨i0,j0,l0,i1,j1,l1,h2,h6,h5⟩
   clear fw k0 k1 c0 c1
   go_wp2_with fail
   refine gp.mono ?_
   rintro e w7 ⟨e0,e1,e2,e3,e4,e5,rfl,hR,cw⟩
   obtain⟨W8,ej⟩:∃ W8,Hid (W8=w7.alloc (.cells #[.slice e0 e1 e2,.slice e3 e4 e5] 29)):=⟨_,rfl⟩
   have d9:Below w7.heap.size w7 W8:=by rw[ej.out];exact(Below.refl _ _).alloc (Nat.le_refl _) _
   have x8:W8.heap[w7.heap.size]?=some (.cells #[.slice e0 e1 e2,.slice e3 e4 e5] 29 (0,0)):=by rw[ej.out];exact heap_alloc_new _ _
   have z8:w7.heap.size+1≤W8.heap.size:=by rw[ej.out];simp
   have fk:=hR.out.below d9
   have jb:=cw.size
   have ja:=dw.size
   have ix:=(d9.block _ (by omega)).trans ((cw.block _ (by omega)).trans iw)
   have fy:=(bl.rd.below (KBT dw cw)).below d9
   have gj:=C9t HU.out op fk
   have fx:Below w.heap.size w W8:=KBT (KBT ee cw) d9
   clear gp k2 k3
   go_wp2_with fail
   rw[←ej.out]
   refine gj.mono ?_
   rintro e w9 ⟨v0,a1,n1,d1,a2,n2,d2,a3,n3,d3,rfl,g8⟩
   obtain⟨eo,dl⟩:∃ eo,Hid (eo=w9.alloc (.cells #[.int .i64 v0,.slice a1 n1 d1,.slice a2 n2 d2,.slice a3 n3 d3] 62)):=⟨_,rfl⟩
   have fo:Below w9.heap.size w9 eo:=by rw[dl.out];exact(Below.refl _ _).alloc (Nat.le_refl _) _
   have br:Below W8.heap.size W8 eo:=KBT g8 fo
   obtain⟨k0,k1⟩:=A0t ((br.block _ (by omega)).trans x8)
   have gl:=D3f HU.out op (fk.below br)
   rw[dl.out] at k0 k1
   clear gj
   go_wp2_with fail
   rw[←dl.out]
   refine gl.mono ?_
   rintro e ei ⟨v1,b1,m1,f1,b2,m2,f2,b3,m3,f3,rfl,fq,gz⟩
   obtain⟨dm,bk⟩:∃ dm,Hid (dm=ei.alloc (.cells #[.int .i64 v1,.slice b1 m1 f1,.slice b2 m2 f2,.slice b3 m3 f3] 62)):=⟨_,rfl⟩
   have dz:Below ei.heap.size ei dm:=by rw[bk.out];exact(Below.refl _ _).alloc (Nat.le_refl _) _
   have iu:dm.heap[ei.heap.size]?=some (.cells #[.int .i64 v1,.slice b1 m1 f1,.slice b2 m2 f2,.slice b3 m3 f3] 62 (0,0)):=by rw[bk.out];exact heap_alloc_new _ _
   have jc:ei.heap.size+1≤dm.heap.size:=by rw[bk.out];simp
   have aw:Below W8.heap.size W8 dm:=KBT br (KBT fq dz)
   have hsm:=C4i (fy.below aw) (fk.below aw)
   obtain⟨y0,y1⟩:=A0t ((aw.block _ (by omega)).trans x8)
   obtain⟨y2,y3⟩:=A0t ((aw.block _ (by have:=d9.size;omega)).trans ix)
   have di:Below w.heap.size w dm:=KBT fx aw
   clear gl k0 k1
   rw[bk.out] at y0 y1 y2 y3
   obtain⟨li,gg⟩:∃ li:Int,Hid ((nm.length:Int)=li):=⟨_,rfl⟩
   have ip:(((S nm).size:Nat):Int)=li:=by rw[A2k];exact gg.out
   clear hsz fz
   cases op with
   | false=>
    go_wp2_with fail
    rw[←bk.out]
    refine hsm.mono ?_
    rintro e f9 ⟨rfl,bq⟩
    have bt:Below w.heap.size w f9:=KBT di bq
    by_cases ha:0 < li
    ·have ea:decide (0 < li)=true:=decide_eq_true ha
     go_wp2
     go_ret
     exact⟨rfl,bt⟩
    have ea:decide (0 < li)=false:=decide_eq_false ha
    by_cases hb:sc=0
    rotate_left
    ·have eb:(sc != 0)=true:=by simpa using hb
     go_wp2
     go_ret
     exact⟨rfl,bt⟩
    have eb:(sc != 0)=false:=by simpa using hb
    by_cases hc:ro=0
    rotate_left
    ·have ec:(ro != 0)=true:=by simpa using hc
     go_wp2
     go_ret
     exact⟨rfl,bt⟩
    have ec:(ro != 0)=false:=by simpa using hc
    by_cases hd:0 < fr
    ·have ed:decide (0 < fr)=true:=decide_eq_true hd
     go_wp2
     go_ret
     exact⟨rfl,bt⟩
    have ed:decide (0 < fr)=false:=decide_eq_false hd
    go_wp2
    go_ret
    exact⟨rfl,bt⟩
   | true=>
    obtain⟨rfl,g6,rfl,ig⟩:=gz.out rfl
    obtain rfl:eu=1:=gy.out
    go_wp2_with fail
    rw[←bk.out]
    refine hsm.mono ?_
    rintro e f9 ⟨rfl,bq⟩
    have bt:Below w.heap.size w f9:=KBT di bq
    obtain⟨s0,s1,s2,s3⟩:=B7m ((bq.block _ (by omega)).trans iu)
    have ie:=A0c bq (A0c dz ig)
    by_cases ha:0 < li
    ·have ea:decide (0 < li)=true:=decide_eq_true ha
     go_wp2
     go_ret
     exact⟨rfl,bt⟩
    have ea:decide (0 < li)=false:=decide_eq_false ha
    by_cases hb:sc=0
    rotate_left
    ·have eb:(sc != 0)=true:=by simpa using hb
     go_wp2
     go_ret
     exact⟨rfl,bt⟩
    have eb:(sc != 0)=false:=by simpa using hb
    by_cases hc:ro=0
    rotate_left
    ·have ec:(ro != 0)=true:=by simpa using hc
     go_wp2
     go_ret
     exact⟨rfl,bt⟩
    have ec:(ro != 0)=false:=by simpa using hc
    by_cases hd:0 < fr
    ·have ed:decide (0 < fr)=true:=decide_eq_true hd
     go_wp2
     go_ret
     exact⟨rfl,bt⟩
    have ed:decide (0 < fr)=false:=decide_eq_false hd
    have ep:((pn:Int) == 2)=true:=by
     have e1:=ag.out
     have e2:=ac.out
     rw[IntKind.wrap_u64] at e1 e2
     have e3:=gg.out
     have e4:=aj.out
     have ik:nm = []:=List.eq_nil_of_length_eq_zero (by omega)
     have h:=D4m ky
     have h3:=HB.out
     rw[ik,show ns=0 by omega,show nr=0 by omega,show kk=0 by omega] at h3
     rw[h3] at h
     have h:Bx.length=2:=h
     have:=il.out
     rw[beq_iff_eq]
     omega
    go_wp2
    go_ret
    exact⟨rfl,bt⟩
end L
end Go.Proofs.YtgaoojpakjjdnaaGreatDoor
