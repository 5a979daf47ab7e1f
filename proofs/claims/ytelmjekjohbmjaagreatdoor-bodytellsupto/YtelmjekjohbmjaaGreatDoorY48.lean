import Derived.Test.YtelmjekjohbmjaaGreatDoorY15
import Derived.Test.YtelmjekjohbmjaaGreatDoorY46
namespace Go.Proofs.YtelmjekjohbmjaaGreatDoor
namespace L
open Go.RowKit
open Go.ChangeShapes Go.WideShapes Go.ChangeAt
set_option linter.unusedVariables false
section
variable {H:Type}{enc:TypeId×Value→H}{w:World}{base:Nat}{spare:TypeId→Bool}{held:Bool}
set_option maxRecDepth 100000 in
theorem open_valueU {v:Value}{fuel:Nat}{d:DataW H}{pl:List MemPlace}(N:Nat) (hN:SizeOf.sizeOf d≤N) (h:DataW.trod enc Tryz.prog w base spare held fuel 34 v.cells.toList=some (d,pl)) (hB:Rows.uptoBulk d≤1048576):∃ (y:VI (BI N)) (a1:Option Addr) (n1 c1:Nat) (a2:Option Addr) (n2 c2:Nat) (a3:Option Addr) (n3 c3:Nat),v = .agg #[.int .i64 y.number,.slice a1 n1 c1,.slice a2 n2 c2,.slice a3 n3 c3]∧VLs N w a1 n1 c1 a2 n2 c2 a3 n3 c3 y∧VOk (BOk N) y:=by
 obtain⟨xs,n,_,hx,hlen,hxl,hf⟩:=DataW.trod_struct Tryz.underlying34 h
 have hd:=(Prod.mk.inj hx).1
 have hl4:v.cells.toList.length=4:=hlen
 generalize hcs:v.cells.toList=cs at hl4 hf
 clear h hlen
 match cs,hl4 with
 | [v0,v1,v2,v3],_=>
  have hxs:xs.length=4:=hxl
  have f0:DataW.trod enc Tryz.prog w base spare held n 3 [v0]=xs[0]?:=hf 0 _ rfl
  have f1:DataW.trod enc Tryz.prog w base spare held n 30 [v1]=xs[1]?:=hf 1 _ rfl
  have f2:DataW.trod enc Tryz.prog w base spare held n 31 [v2]=xs[2]?:=hf 2 _ rfl
  have f3:DataW.trod enc Tryz.prog w base spare held n 32 [v3]=xs[3]?:=hf 3 _ rfl
  rw[List.getElem?_eq_getElem (by omega)] at f0 f1 f2 f3
  have hb4:=C1c hxs
  rw[←hd] at hb4
  have g0:=A5h (xs[0]'(by omega)).1
  have g3:=A9e (xs:=xs) (i:=3) (by omega)
  rw[←hd] at g3
  obtain⟨n0,rfl,z0⟩:=A3a f0
  obtain⟨u1,l1,e1,r1,k1,_,b1⟩:=A2e (P:=UAt) (Q:=fun n=>n≤18446744073709551615) (f:=fun _=>0) (sz:=1) Tryz.underlying30 (by kernel_rfl) (d:=(xs[1]'(by omega)).1) (pl:=(xs[1]'(by omega)).2) f1 (by omega) fun fuel a cs d' pl _ hc h' _=>B0c fuel a cs d' pl hc h'
  obtain⟨u2,l2,e2,r2,k2,w2,b2⟩:=A2e (P:=ZAt) (Q:=fun l=>l.length*1≤reachBytes) (f:=fun _=>1) (sz:=1) Tryz.underlying31 (by kernel_rfl) (d:=(xs[2]'(by omega)).1) (pl:=(xs[2]'(by omega)).2) f2 (by omega) fun fuel a cs d' pl _ hc h' hs=>A8l fuel a cs d' pl hc h' hs
  obtain⟨u3,l3,e3,r3,k3,w3,b3⟩:=A2e (P:=BAt N) (Q:=BOk N) (f:=fun s=>1+jWB N s) (sz:=2) Tryz.underlying32 (by kernel_rfl) (d:=(xs[3]'(by omega)).1) (pl:=(xs[3]'(by omega)).2) f3 (by omega) fun fuel a cs d' pl hlt hc h' hs=>A7j N fuel a cs d' pl (by omega) hc h' hs
  simp at e1 e2 e3
  subst e1 e2 e3
  obtain⟨a1,n1,c1,rfl,_,_⟩:=r1.shape
  obtain⟨a2,n2,c2,rfl,_,_⟩:=r2.shape
  obtain⟨a3,n3,c3,rfl,_,_⟩:=r3.shape
  refine⟨⟨n0,l1,l2,l3⟩,a1,n1,c1,a2,n2,c2,a3,n3,c3,?_,⟨r1,r2,r3⟩,⟨z0,fun n hn=>by have:=k1 n hn;omega,by show l1.length*8≤reachBytes;unfold reachBytes;omega,k2,by show l2.length*24≤reachBytes;unfold reachBytes;omega,k3,by show l3.length*48≤reachBytes;unfold reachBytes;omega⟩⟩
  clear hf
  cases v <;> simp[Value.cells] at hcs
  rename_i cs
  have:cs=#[.int .i64 n0,.slice a1 n1 c1,.slice a2 n2 c2,.slice a3 n3 c3]:=by cases cs;simp_all
  rw[this]
end
end L
end Go.Proofs.YtelmjekjohbmjaaGreatDoor
