import Derived.Test.YtcagbdokbnpdfaaGreatDoorZ32
import Derived.Test.YtcagbdokbnpdfaaGreatDoorZ38
namespace Go.Proofs.YtcagbdokbnpdfaaGreatDoor
open Go.RowKit
theorem C8x:∀ (f i acc m:Nat) (more:List UInt8),f+i=10→1≤f→m < 2 ^ (7*f)→m*2 ^ (7*i)≤18446744073709551615→
  A3o i acc (B1r f m++more)=(acc+m*2 ^ (7*i),i+(B1r f m).length,0):=by
 intro f
 induction f with
 | zero=>intro i acc m more _ h;omega
 | succ f ih=>
  intro i acc m more hfi _ hm hb
  have h9:i=9→m≤1:=by
   intro e
   subst e
   rw[show 2 ^ (7*9)=9223372036854775808 from rfl] at hb
   omega
  by_cases hs:m < 128
  ·rw[A9x hs]
   have e:(UInt8.ofNat m).toNat=m:=by rw[UInt8.toNat_ofNat'];omega
   rw[List.cons_append,A3o,e,if_neg (by rintro⟨a,b⟩;have:=h9 a;omega),if_pos hs,Nat.mod_eq_of_lt hs]
   rfl
  ·rw[B4i hs]
   have e:(UInt8.ofNat (m%128+128)).toNat=m%128+128:=by rw[UInt8.toNat_ofNat'];omega
   have hi:i≠9:=fun a=>by have:=h9 a;omega
   have hp:2 ^ (7*(i+1))=128*2 ^ (7*i):=by rw[show 7*(i+1)=7+7*i by omega,Nat.pow_add]
   have hf2:=C6e hm hs
   have hsum:m%128*2 ^ (7*i)+m / 128*2 ^ (7*(i+1))=m*2 ^ (7*i):=by
    rw[hp,←Nat.mul_assoc,←Nat.add_mul]
    congr 1
    omega
   rw[List.cons_append,A3o,e,if_neg (by rintro⟨a,_⟩;exact hi a),if_neg (by omega),
    ih (i+1) _ (m / 128) more (by omega) (by omega) (B4j hm) (by omega)]
   rw[show(m%128+128)%128=m%128 by omega,List.length_cons]
   refine Prod.ext ?_ (Prod.ext ?_ rfl)
   ·show acc+m%128*2 ^ (7*i)+m / 128*2 ^ (7*(i+1))=_
    omega
   ·show i+1+(B1r f (m / 128)).length=i+((B1r f (m / 128)).length+1)
    omega
theorem A7r (n:Nat) (more:List UInt8) (hn:n≤18446744073709551615):A3o 0 0 (D5o n++more)=(n,(D5o n).length,0):=by
 have:=C8x 10 0 0 n more rfl (by omega) (by omega) (by simpa using hn)
 rw[D5o,this]
 simp
theorem C0f (n:Nat):1≤(D5o n).length:=by
 rw[D5o,B1r];split <;> simp
end Go.Proofs.YtcagbdokbnpdfaaGreatDoor
namespace Go.Proofs.YtcagbdokbnpdfaaGreatDoor
theorem B0n:∀ (l:List UInt8) (i acc N K:Nat) (m:List UInt8),A3o i acc l=(N,K,0)→A3o i acc (l++m)=(N,K,0):=by
 intro l
 induction l with
 | nil=>intro i acc N K m h;rw[A3o] at h;simp at h
 | cons x r ih=>
  intro i acc N K m h
  rw[List.cons_append,A3o]
  rw[A3o] at h
  split at h
  ·simp at h
  ·rename_i h9
   rw[if_neg h9]
   split at h
   ·rename_i h1;rw[if_pos h1];exact h
   ·rename_i h1;rw[if_neg h1];exact ih _ _ _ _ _ h
theorem C7a {l m:List UInt8}{A B C:Nat}(h:B1c l=(A,B,C,0)):B1c (l++m)=(A,B,C,0):=by
 obtain⟨N,K,E,hg⟩:∃ N K E,A3o 0 0 l=(N,K,E):=⟨_,_,_,rfl⟩
 rw[B1c,hg] at h
 dsimp only at h
 have hE:E=0:=by
  unfold B1t at h
  split at h
  ·simp at h;omega
  ·omega
 subst hE
 rw[B1c,B0n l 0 0 N K m hg]
 exact h
theorem B8u {l m:List UInt8}{A:List UInt8}{B:Nat}(h:A3c l=(A,B,0)):A3c (l++m)=(A,B,0):=by
 obtain⟨N,K,E,hg⟩:∃ N K E,A3o 0 0 l=(N,K,E):=⟨_,_,_,rfl⟩
 obtain⟨b1,b2,b3,b4,b5⟩:=A4y hg
 rw[A3c,hg] at h
 dsimp only at h
 unfold A5c at h
 split at h
 ·simp at h;omega
 ·split at h
  ·simp at h
  ·rename_i h0 h1
   have hE:E=0:=by omega
   subst hE
   rw[A3c,B0n l 0 0 N K m hg]
   dsimp only
   unfold A5c
   rw[if_neg (by omega),if_neg (by rw[List.length_append];omega),←h]
   rw[List.drop_append_of_le_length b2,List.take_append_of_le_length (by rw[List.length_drop];omega)]
theorem C1j {l m:List UInt8}{how:Int}{A B:Nat}(h:A2l l how=(A,B,0)):A2l (l++m) how=(A,B,0):=by
 unfold A2l at h ⊢
 split at h
 ·rename_i h0;rw[if_pos h0];exact B0n l 0 0 A B m h
 ·rename_i h0
  rw[if_neg h0]
  split at h
  ·simp at h
  ·rename_i h1
   rw[if_neg (by rw[List.length_append];omega),List.take_append_of_le_length (by omega)]
   exact h
theorem C3a {l m:List UInt8}{r:Rcd}{n:Nat}(h:A3w l=(r,n,0)):A3w (l++m)=(r,n,0):=by
 obtain⟨A,B,C,D,hT⟩:∃ A B C D,B1c l=(A,B,C,D):=⟨_,_,_,_,rfl⟩
 obtain⟨t1,t2,t3,t4,t5,t6⟩:=B1d hT
 rw[A3w,hT] at h
 dsimp only at h
 split at h
 ·rename_i h0
  obtain⟨_,_,e⟩:=A0g h
  exact absurd e h0
 ·rename_i h0
  have hD:D=0:=by omega
  subst hD
  rw[A3w,C7a hT]
  dsimp only
  rw[if_neg (by simp),List.drop_append_of_le_length t3]
  unfold A5b at h ⊢
  split at h
  ·rename_i hB
   rw[if_pos hB]
   obtain⟨S,T,U,hs⟩:∃ S T U,A3c (l.drop C)=(S,T,U):=⟨_,_,_,rfl⟩
   rw[hs] at h
   dsimp only at h
   split at h
   ·rename_i h1;obtain⟨_,_,e⟩:=A0g h;exact absurd e h1
   ·rename_i h1
    have hU:U=0:=by omega
    subst hU
    rw[B8u hs]
    exact h
  ·rename_i hB
   rw[if_neg hB]
   obtain⟨S,T,U,hs⟩:∃ S T U,A2l (l.drop C) (B:Int)=(S,T,U):=⟨_,_,_,rfl⟩
   rw[hs] at h
   dsimp only at h
   split at h
   ·rename_i h1;obtain⟨_,_,e⟩:=A0g h;exact absurd e h1
   ·rename_i h1
    have hU:U=0:=by omega
    subst hU
    rw[C1j hs]
    exact h
theorem B3p (k n:Nat):A5y (A9k k n)=n%2 ^ (8*k):=by
 induction k generalizing n with
 | zero=>simp[A9k,A5y,Nat.mod_one]
 | succ k ih=>
  rw[A9k,A5y,ih,UInt8.toNat_ofNat',show 8*(k+1)=8+8*k by omega,Nat.pow_add,Nat.mod_mul]
theorem D0g {num how:Nat}{rest:List UInt8}(h1:1≤num) (h2:num < 536870912) (h3:how=0∨how=1∨how=2∨how=5):B1c (D5o (num*8+how)++rest)=(num,how,(D5o (num*8+how)).length,0):=by
 rw[B1c,A7r _ _ (by omega)]
 dsimp only
 unfold B1t
 rw[if_neg (by simp),if_neg (by omega),if_neg (by rw[show(num*8+how)%8=how by omega];exact B0o (by omega))]
 rw[show(num*8+how) / 8=num by omega,show(num*8+how)%8=how by omega]
theorem C3b {r:Rcd}(hw:0=A0s r.num r.how r.bits r.bytes.length) (hb:r.bits≤18446744073709551615) (m:List UInt8) :
  A3w (A6u r.num r.how r.bits r.bytes++m)=(r,(A6u r.num r.how r.bits r.bytes).length,0):=by
 obtain⟨num,how,bits,bytes⟩:=r
 dsimp only at hw hb ⊢
 obtain⟨q1,q2,q3,q4,q5,q6,q7⟩:=C1a hw
 obtain⟨N,rfl⟩:=Int.eq_ofNat_of_zero_le (show 0≤num by omega)
 obtain⟨H,rfl⟩:=Int.eq_ofNat_of_zero_le (show 0≤how by omega)
 unfold A6u
 rw[Int.toNat_natCast,Int.toNat_natCast,List.append_assoc,A3w,D0g (by omega) (by omega) (by omega)]
 dsimp only
 rw[if_neg (by simp),List.drop_left]
 by_cases h2:H=2
 ·have ht:A6v (H:Int) bits bytes=D5o bytes.length++bytes:=by unfold A6v;rw[if_pos (by omega)]
  rw[ht,A5b,if_pos h2]
  have hs:A3c ((D5o bytes.length++bytes)++m)=(bytes,(D5o bytes.length).length+bytes.length,0):=by
   rw[A3c,List.append_assoc,A7r _ _ (by omega)]
   dsimp only
   unfold A5c
   rw[if_neg (by simp),if_neg (by simp),List.drop_left,List.take_left]
  rw[hs]
  dsimp only
  rw[if_neg (by simp),q6 (by omega)]
  simp
 ·have ht:A6v (H:Int) bits bytes=if (H:Int)=0 then D5o bits else A9k (A1u (H:Int)) bits:=by unfold A6v;rw[if_neg (by omega)]
  rw[ht,A5b,if_neg h2]
  have hby:bytes = []:=List.eq_nil_of_length_eq_zero (q7 (by omega))
  subst hby
  have hs:A2l ((if (H:Int)=0 then D5o bits else A9k (A1u (H:Int)) bits)++m) (H:Int)=(bits,(if (H:Int)=0 then D5o bits else A9k (A1u (H:Int)) bits).length,0):=by
   unfold A2l
   by_cases h0:(H:Int)=0
   ·rw[if_pos h0,if_pos h0,A7r _ _ hb]
   ·rw[if_neg h0,if_neg h0,List.length_append,A6n,if_neg (by omega)]
    have e:(A9k (A1u (H:Int)) bits++m).take (A1u (H:Int))=A9k (A1u (H:Int)) bits:=List.take_left' (A6n _ _)
    rw[e,B3p]
    have hm:bits%2 ^ (8*A1u (H:Int))=bits:=by
     apply Nat.mod_eq_of_lt
     have hH:(H:Int)=1∨(H:Int)=5:=by omega
     rcases hH with e|e
     ·rw[e];show bits < 2 ^ 64;omega
     ·have:=q5 e;rw[e];show bits < 2 ^ 32;omega
    rw[hm]
  rw[hs]
  dsimp only
  rw[if_neg (by simp),List.length_append]
theorem C9v (num how:Int) (bits:Nat) (l:List UInt8):1≤(A6u num how bits l).length:=by
 have:=C0f (num.toNat*8+how.toNat)
 unfold A6u
 rw[List.length_append]
 omega
theorem B8i:∀ (rs:List Rcd) (i:Nat) (acc B:List UInt8) (a:Nat),(∀ r∈rs,r.bits≤18446744073709551615)→acc.length≤4000→A1o i acc rs=(B,0,a)→
  ∃ suf,B=acc++suf∧B.length≤4000∧∀ f k accR,suf.length≤f→A1s f k accR suf=(accR++rs,0,0):=by
 intro rs
 induction rs with
 | nil=>
  intro i acc B a _ hacc h
  rw[A1o] at h
  obtain⟨rfl,_,_⟩:acc=B∧(0:Int)=0∧0=a:=by simpa using h
  refine⟨[],by simp,hacc,?_⟩
  intro f k accR _
  rw[A1z rfl,List.append_nil]
 | cons r rest ih=>
  intro i acc B a hb hacc h
  rw[A1o] at h
  split at h
  ·rename_i h0
   have:A0s r.num r.how r.bits r.bytes.length=0:=by simpa using congrArg (fun p=>p.2.1) h
   exact absurd this h0
  ·rename_i h0
   have hw:0=A0s r.num r.how r.bits r.bytes.length:=by
    rcases Decidable.em (A0s r.num r.how r.bits r.bytes.length=0) with e|e
    ·exact e.symm
    ·exact absurd e h0
   split at h
   ·have:(4:Int)=0:=by simpa using congrArg (fun p=>p.2.1) h
    omega
   ·rename_i h1
    obtain⟨suf,hB,hl,hp⟩:=ih (i+1) _ B a (fun q hq=>hb q (List.mem_cons_of_mem _ hq)) (by omega) h
    refine⟨A6u r.num r.how r.bits r.bytes++suf,by rw[hB,List.append_assoc],hl,?_⟩
    intro f k accR hf
    have hpos:=C9v r.num r.how r.bits r.bytes
    rw[List.length_append] at hf
    obtain⟨g,rfl⟩:∃ g,f=g+1:=⟨f - 1,by omega⟩
    rw[A2r (by rw[List.length_append];omega) (C3b hw (hb r List.mem_cons_self) suf),List.drop_left,hp g _ _ (by omega),List.append_assoc]
    rfl
theorem A6z {rs:List Rcd}{B:List UInt8}{a:Nat}(hb:∀ r∈rs,r.bits≤18446744073709551615) (h:A1o 0 [] rs=(B,0,a)):B.length≤4000∧A1t B=(rs,0,0):=by
 obtain⟨suf,hB,hl,hp⟩:=B8i rs 0 [] B a hb (by simp) h
 rw[List.nil_append] at hB
 subst hB
 refine⟨hl,?_⟩
 rw[A1t,if_neg (by omega),hp _ _ _ (Nat.le_refl _)]
 rfl
theorem C2y:∀ (f m k:Nat),m < 2 ^ (7*k)→1≤k→(B1r f m).length≤k:=by
 intro f
 induction f with
 | zero=>intro m k _ _;simp[B1r]
 | succ f ih=>
  intro m k hm hk
  by_cases hs:m < 128
  ·rw[A9x hs];simpa using hk
  ·rw[B4i hs,List.length_cons]
   have hk2:=C6e hm hs
   obtain⟨j,rfl⟩:∃ j,k=j+1:=⟨k - 1,by omega⟩
   have:=ih (m / 128) j (B4j hm) (by omega)
   omega
theorem C2f:∀ (l:List UInt8) (i acc N K:Nat),acc < 2 ^ (7*i)→A3o i acc l=(N,K,0)→N < 2 ^ (7*K)∧1≤K:=by
 intro l
 induction l with
 | nil=>intro i acc N K _ h;rw[A3o] at h;simp at h
 | cons x r ih=>
  intro i acc N K hacc h
  rw[A3o] at h
  split at h
  ·simp at h
  ·split at h
   ·obtain⟨rfl,rfl,_⟩:=A0g h
    exact⟨B4o hacc,by omega⟩
   ·exact ih _ _ _ _ (B4o hacc) h
theorem A8t {l:List UInt8}{N K:Nat}(h:A3o 0 0 l=(N,K,0)):(D5o N).length≤K:=by
 obtain⟨a,b⟩:=C2f l 0 0 N K (by decide) h
 exact C2y 10 N K a b
theorem C3j {l:List UInt8}{A B C:Nat}(h:B1c l=(A,B,C,0)):(D5o (A*8+B)).length≤C:=by
 obtain⟨N,K,E,hg⟩:∃ N K E,A3o 0 0 l=(N,K,E):=⟨_,_,_,rfl⟩
 rw[B1c,hg] at h
 dsimp only at h
 unfold B1t at h
 split at h
 ·simp at h;omega
 ·rename_i h0
  split at h
  ·simp at h
  ·split at h
   ·simp at h
   ·obtain⟨rfl,rfl,rfl,_⟩:=A5p h
    have hE:E=0:=by omega
    subst hE
    rw[show N / 8*8+N%8=N by omega]
    exact A8t hg
theorem B6i {l:List UInt8}{A:List UInt8}{B:Nat}(h:A3c l=(A,B,0)):(D5o A.length++A).length≤B:=by
 obtain⟨N,K,E,hg⟩:∃ N K E,A3o 0 0 l=(N,K,E):=⟨_,_,_,rfl⟩
 obtain⟨b1,b2,b3,b4,b5⟩:=A4y hg
 rw[A3c,hg] at h
 dsimp only at h
 unfold A5c at h
 split at h
 ·simp at h;omega
 ·rename_i h0
  split at h
  ·simp at h
  ·rename_i h1
   obtain⟨rfl,rfl,_⟩:=A0g h
   have hE:E=0:=by omega
   subst hE
   have e:((l.drop K).take N).length=N:=by rw[List.length_take,List.length_drop];omega
   rw[List.length_append,e]
   have:=A8t hg
   omega
theorem B0d {l:List UInt8}{how:Int}{A B:Nat}(h:A2l l how=(A,B,0)):(if how=0 then D5o A else A9k (A1u how) A).length≤B∧(how=5→A < 4294967296):=by
 unfold A2l at h
 split at h
 ·rename_i h0
  rw[if_pos h0]
  exact⟨A8t h,fun e=>by omega⟩
 ·rename_i h0
  rw[if_neg h0]
  split at h
  ·simp at h
  ·rename_i h1
   obtain⟨rfl,rfl,_⟩:=A0g h
   refine⟨by rw[A6n];omega,?_⟩
   intro e
   subst e
   have:=B3o (l.take (A1u 5))
   rw[show A1u 5=4 from rfl] at this h1 ⊢
   rw[List.length_take,Nat.min_eq_left (by omega)] at this
   exact this
theorem B8o {l:List UInt8}{r:Rcd}{n:Nat}(hl:l.length≤4000) (h:A3w l=(r,n,0)):0=A0s r.num r.how r.bits r.bytes.length∧(A6u r.num r.how r.bits r.bytes).length≤n:=by
 obtain⟨A,B,C,D,hT⟩:∃ A B C D,B1c l=(A,B,C,D):=⟨_,_,_,_,rfl⟩
 obtain⟨t1,t2,t3,t4,t5,t6⟩:=B1d hT
 rw[A3w,hT] at h
 dsimp only at h
 split at h
 ·rename_i h0;obtain⟨_,_,e⟩:=A0g h;exact absurd e h0
 ·rename_i h0
  have hD:D=0:=by omega
  subst hD
  obtain⟨c1,c2,c3⟩:=t6 rfl
  have hk:¬ A1y (B:Int)=false:=by rw[c3];simp
  have hsh:=C3j hT
  unfold A5b at h
  split at h
  ·rename_i hB
   obtain⟨S,T,U,hs⟩:∃ S T U,A3c (l.drop C)=(S,T,U):=⟨_,_,_,rfl⟩
   obtain⟨s1,s2,s3,s4,s5⟩:=A8c hs
   rw[List.length_drop] at s1
   rw[hs] at h
   dsimp only at h
   split at h
   ·rename_i h1;obtain⟨_,_,e⟩:=A0g h;exact absurd e h1
   ·rename_i h1
    have hU:U=0:=by omega
    subst hU
    obtain⟨rfl,rfl,_⟩:=A0g h
    dsimp only
    refine⟨?_,?_⟩
    ·unfold A0s
     rw[if_neg hk,if_neg (by omega),if_neg (by omega),if_neg (by omega),if_neg (by omega),if_neg (by omega)]
    ·have ht:A6v (B:Int) 0 S=D5o S.length++S:=by unfold A6v;rw[if_pos (by omega)]
     have:=B6i hs
     rw[A6u,ht,List.length_append,Int.toNat_natCast,Int.toNat_natCast]
     omega
  ·rename_i hB
   obtain⟨S,T,U,hs⟩:∃ S T U,A2l (l.drop C) (B:Int)=(S,T,U):=⟨_,_,_,rfl⟩
   rw[hs] at h
   dsimp only at h
   split at h
   ·rename_i h1;obtain⟨_,_,e⟩:=A0g h;exact absurd e h1
   ·rename_i h1
    have hU:U=0:=by omega
    subst hU
    obtain⟨rfl,rfl,_⟩:=A0g h
    dsimp only
    obtain⟨u1,u2⟩:=B0d hs
    refine⟨?_,?_⟩
    ·unfold A0s
     rw[if_neg hk,if_neg (by omega),if_neg (by omega),if_neg (by rintro⟨e,e'⟩;have:=u2 e;omega),if_neg (by omega),if_neg (by simp)]
    ·have ht:A6v (B:Int) S []=if (B:Int)=0 then D5o S else A9k (A1u (B:Int)) S:=by unfold A6v;rw[if_neg (by omega)]
     rw[A6u,ht,List.length_append,Int.toNat_natCast,Int.toNat_natCast]
     omega
theorem B7k:∀ (f k:Nat) (acc:List Rcd) (l:List UInt8) (m:List Rcd) (a:Nat),l.length≤f→l.length≤4000→A1s f k acc l=(m,0,a)→
  ∃ rs,m=acc++rs∧(∀ r∈rs,r.wf)∧∀ i acc',acc'.length+l.length≤4000→∃ p,A1o i acc' rs=(acc'++p,0,0)∧p.length≤l.length:=by
 intro f
 induction f with
 | zero=>
  intro k acc l m a hf _ h
  rw[A1s] at h
  obtain⟨rfl,_,_⟩:=A0g h
  exact⟨[],by simp,fun r hr=>by simp at hr,fun i acc' _=>⟨[],by simp[A1o],by simp⟩⟩
 | succ f ih=>
  intro k acc l m a hf hl h
  by_cases h0:l.length=0
  ·rw[A1z h0] at h
   obtain⟨rfl,_,_⟩:=A0g h
   exact⟨[],by simp,fun r hr=>by simp at hr,fun i acc' _=>⟨[],by simp[A1o],by simp⟩⟩
  ·obtain⟨r,n,E,hr⟩:∃ r n E,A3w l=(r,n,E):=⟨_,_,_,rfl⟩
   obtain⟨r1,r2,r3,r4⟩:=A8a hr
   by_cases hE:E=0
   ·subst hE
    rw[A2r h0 hr] at h
    have hn:=(r3 rfl).1
    have hld:(l.drop n).length=l.length - n:=List.length_drop
    obtain⟨rs,hm,hwf,hb⟩:=ih (k+n) (acc++[r]) (l.drop n) m a (by omega) (by omega) h
    obtain⟨hw,hsh⟩:=B8o hl hr
    refine⟨r::rs,by rw[hm,List.append_assoc];rfl,?_,?_⟩
    ·intro q hq
     rw[List.mem_cons] at hq
     rcases hq with rfl|hq
     ·exact r4
     ·exact hwf q hq
    ·intro i acc' hacc
     have hlen:(acc'++A6u r.num r.how r.bits r.bytes).length≤acc'.length+n:=by rw[List.length_append];omega
     obtain⟨p,hp,hpl⟩:=hb (i+1) (acc'++A6u r.num r.how r.bits r.bytes) (by omega)
     refine⟨A6u r.num r.how r.bits r.bytes++p,?_,by rw[List.length_append];omega⟩
     rw[A1o,←hw,if_neg (by simp),if_neg (by omega),hp,List.append_assoc]
   ·rw[A2u h0 hr hE] at h
    obtain⟨_,e,_⟩:=A0g h
    exact absurd e hE
theorem B8g {l:List UInt8}{m:List Rcd}{a:Nat}(h:A1t l=(m,0,a)) :
  ∃ p,A1o 0 [] m=(p,0,0)∧p.length≤l.length∧A1t p=(m,0,0)∧p.length≤4000:=by
 unfold A1t at h
 split at h
 ·obtain⟨_,e,_⟩:=A0g h;simp at e
 ·rename_i h0
  obtain⟨rs,hm,hwf,hb⟩:=B7k _ _ _ _ _ _ (Nat.le_refl _) (by omega) h
  rw[List.nil_append] at hm
  subst hm
  obtain⟨p,hp,hpl⟩:=hb 0 [] (by simp;omega)
  rw[List.nil_append] at hp
  obtain⟨h4,h5⟩:=A6z (fun r hr=>(hwf r hr).2.2.2.2) hp
  exact⟨p,hp,hpl,h5,h4⟩
theorem A6f:∀ (f f' k:Nat) (acc:List Rcd) (l:List UInt8),l.length≤f→l.length≤f'→A1s f k acc l=A1s f' k acc l:=by
 intro f
 induction f with
 | zero=>intro f' k acc l h h';rw[A1z (by omega),A1z (by omega)]
 | succ f ih=>
  intro f' k acc l h h'
  by_cases h0:l.length=0
  ·rw[A1z h0,A1z h0]
  ·obtain⟨g,rfl⟩:∃ g,f'=g+1:=⟨f' - 1,by omega⟩
   obtain⟨r,n,E,hr⟩:∃ r n E,A3w l=(r,n,E):=⟨_,_,_,rfl⟩
   by_cases hE:E=0
   ·subst hE
    have hn:=((A8a hr).2.2.1 rfl).1
    rw[A2r h0 hr,A2r h0 hr]
    exact ih g _ _ _ (by rw[List.length_drop];omega) (by rw[List.length_drop];omega)
   ·rw[A2u h0 hr hE,A2u h0 hr hE]
def B6h (k:Nat) (acc:List Rcd) (p:List Rcd×Nat×Nat):List Rcd×Nat×Nat:=if p.2.1=0 then(acc++p.1,0,0) else([],p.2.1,p.2.2+k)
theorem B4g:∀ (f k k':Nat) (acc acc':List Rcd) (l:List UInt8),A1s f (k+k') (acc++acc') l=B6h k acc (A1s f k' acc' l):=by
 intro f
 induction f with
 | zero=>intro k k' acc acc' l;rw[A1s,A1s,B6h,if_pos rfl]
 | succ f ih=>
  intro k k' acc acc' l
  by_cases h0:l.length=0
  ·rw[A1z h0,A1z h0,B6h,if_pos rfl]
  ·obtain⟨r,n,E,hr⟩:∃ r n E,A3w l=(r,n,E):=⟨_,_,_,rfl⟩
   by_cases hE:E=0
   ·subst hE
    rw[A2r h0 hr,A2r h0 hr,←ih,Nat.add_assoc,List.append_assoc]
   ·rw[A2u h0 hr hE,A2u h0 hr hE,B6h,if_neg hE,Nat.add_comm]
theorem B6a:∀ (f k:Nat) (acc:List Rcd) (l b:List UInt8) (m:List Rcd) (a:Nat),(l++b).length≤f→A1s f k acc l=(m,0,a)→A1s f k acc (l++b)=A1s f (k+l.length) m b:=by
 intro f
 induction f with
 | zero=>
  intro k acc l b m a hf h
  rw[List.length_append] at hf
  have hl:l = []:=List.eq_nil_of_length_eq_zero (by omega)
  subst hl
  rw[A1s] at h
  obtain⟨rfl,_,_⟩:=A0g h
  rfl
 | succ f ih=>
  intro k acc l b m a hf h
  rw[List.length_append] at hf
  by_cases h0:l.length=0
  ·have hl:l = []:=List.eq_nil_of_length_eq_zero h0
   subst hl
   rw[A1z rfl] at h
   obtain⟨rfl,_,_⟩:=A0g h
   rfl
  ·obtain⟨r,n,E,hr⟩:∃ r n E,A3w l=(r,n,E):=⟨_,_,_,rfl⟩
   obtain⟨r1,r2,r3,r4⟩:=A8a hr
   by_cases hE:E=0
   ·subst hE
    have hn:=(r3 rfl).1
    have hld:(l.drop n).length=l.length - n:=List.length_drop
    rw[A2r h0 hr] at h
    rw[A2r (by rw[List.length_append];omega) (C3a hr),List.drop_append_of_le_length r2,ih _ _ _ _ _ _ (by rw[List.length_append];omega) h,hld]
    rw[show k+n+(l.length - n)=k+l.length by omega]
    exact A6f _ _ _ _ _ (by omega) (by omega)
   ·rw[A2u h0 hr hE] at h
    obtain⟨_,e,_⟩:=A0g h
    exact absurd e hE
theorem B8h {a b:List UInt8}{x:List Rcd}{i:Nat}(hl:a.length+b.length≤4000) (h:A1t a=(x,0,i)):A1t (a++b)=B6h a.length x (A1t b):=by
 unfold A1t at h ⊢
 rw[if_neg (by omega)] at h
 rw[List.length_append,if_neg (by omega),if_neg (by omega)]
 rw[A6f a.length (a.length+b.length) 0 [] a (by omega) (by omega)] at h
 rw[B6a _ _ _ _ b _ _ (by rw[List.length_append];omega) h]
 have:=B4g (a.length+b.length) a.length 0 x [] b
 rw[List.append_nil,Nat.add_zero] at this
 rw[Nat.zero_add,this,A6f b.length (a.length+b.length) 0 [] b (by omega) (by omega)]
end Go.Proofs.YtcagbdokbnpdfaaGreatDoor
namespace Go.Proofs.YtcagbdokbnpdfaaGreatDoor
set_option linter.unusedVariables false
theorem B3u:∀ (k n:Nat),L.klow k n=A9k k n
 | 0,_=>rfl
 | k+1,n=>by rw[L.klow,A9k,B3u k]
theorem D2k (num how:Int) (bits:Nat) (l:List UInt8):L.recN num how bits l=A6u num how bits l:=by
 unfold L.recN A6u L.ktagN A6v L.kputB
 by_cases h2:how=2
 ·rw[if_pos h2,if_pos h2]
 ·rw[if_neg h2,if_neg h2,B3u]
  rfl
theorem C4a {how:Int}(hh:how=0∨how=1∨how=5){n:Nat}(hn:n≤18446744073709551615) (h5:how=5→n < 4294967296) (rest:List UInt8):A2l (L.kputB how n++rest) how=(n,(L.kputB how n).length,0):=by
 rcases hh with rfl|rfl|rfl
 ·exact A7r n rest hn
 ·have e:L.kputB 1 n=A9k 8 n:=by unfold L.kputB;rw[if_neg (by decide)];exact B3u 8 n
  have hl:=A6n 8 n
  rw[e]
  unfold A2l
  rw[if_neg (by decide),show A1u 1=8 from rfl,if_neg (by rw[List.length_append,hl];omega),List.take_append_of_le_length (by omega),List.take_of_length_le (by omega),B3p,hl]
  rw[Nat.mod_eq_of_lt (by omega)]
 ·have e:L.kputB 5 n=A9k 4 n:=by unfold L.kputB;rw[if_neg (by decide)];exact B3u 4 n
  have hl:=A6n 4 n
  have:=h5 rfl
  rw[e]
  unfold A2l
  rw[if_neg (by decide),show A1u 5=4 from rfl,if_neg (by rw[List.length_append,hl];omega),List.take_append_of_le_length (by omega),List.take_of_length_le (by omega),B3p,hl]
  rw[Nat.mod_eq_of_lt (by omega)]
theorem C5e {how:Int}(hh:how=0∨how=1∨how=5) (n:Nat):1≤(L.kputB how n).length:=by
 unfold L.kputB
 rcases hh with rfl|rfl|rfl
 ·rw[if_pos rfl];exact C0f n
 ·rw[if_neg (by decide),L.klow_len];decide
 ·rw[if_neg (by decide),L.klow_len];decide
theorem B2v {how:Int}(hh:how=0∨how=1∨how=5):∀ (l:List Nat) (f:Nat) (acc:List Nat),(∀ n∈l,n≤18446744073709551615∧(how=5→n < 4294967296))→(l.flatMap (L.kputB how)).length≤f→L.unpGo how f (l.flatMap (L.kputB how)) acc=(acc++l,0)
 | [],f,acc,_,_=>by
  rw[List.flatMap_nil,L.unp_end rfl,List.append_nil]
 | n::l,f,acc,h,hf=>by
  have hp:=C5e hh n
  rw[List.flatMap_cons] at hf ⊢
  rw[List.length_append] at hf
  obtain⟨f',rfl⟩:∃ f',f=f'+1:=⟨f - 1,by omega⟩
  obtain⟨h1,h2⟩:=h n (List.mem_cons_self ..)
  rw[L.unp_go (by rw[List.length_append];omega) (C4a hh h1 h2 _),List.drop_left,B2v hh l f' _ (fun q hq=>h q (List.mem_cons_of_mem _ hq)) (by omega),List.append_assoc]
  rfl
theorem B8f {how:Int}(hh:how=0∨how=1∨how=5) (l:List Nat):L.packedN how l=l.flatMap (L.kputB how):=by
 unfold L.packedN
 rw[if_pos (by rcases hh with rfl|rfl|rfl <;> rfl)]
theorem B4q {how:Int}(hh:how=0∨how=1∨how=5){l:List Nat}(h:∀ n∈l,n≤18446744073709551615∧(how=5→n < 4294967296)):L.unpR how (L.packedN how l)=(l,0):=by
 unfold L.unpR
 rw[B8f hh,B2v hh l _ [] h (Nat.le_refl _),List.nil_append]
namespace L
open Go.RowKit
def D1c (r:RI):Rcd:=⟨r.number,r.how,r.bits,r.bytes⟩
theorem D3v (l:List RI):(l.map D1c).map A8j=l:=by
 rw[List.map_map]
 exact(List.map_congr_left (fun _ _=>rfl)).trans (List.map_id _)
theorem B0f:∀ (l:List RI) (i:Nat) (acc:List UInt8),∃ a,A1o i acc (l.map D1c)=((A2m acc l).1,(A2m acc l).2,a)
 | [],i,acc=>⟨0,rfl⟩
 | r::l,i,acc=>by
  rw[List.map_cons,A1o,A9s]
  show ∃ a,(if A0s r.number r.how r.bits r.bytes.length≠0 then _ else if 4000 < (acc++A6u r.number r.how r.bits r.bytes).length then _ else A1o (i+1) (acc++A6u r.number r.how r.bits r.bytes) (l.map D1c))=_
  rw[D2k]
  by_cases h1:A0s r.number r.how r.bits r.bytes.length≠0
  ·rw[if_pos h1,if_pos h1]
   exact⟨_,rfl⟩
  ·rw[if_neg h1,if_neg h1]
   by_cases h2:4000 < (acc++A6u r.number r.how r.bits r.bytes).length
   ·rw[if_pos h2,if_pos h2]
    exact⟨_,rfl⟩
   ·rw[if_neg h2,if_neg h2]
    exact B0f l (i+1) _
theorem C5z {l:List RI}(hb:∀ r∈l,r.bits≤18446744073709551615) (h:(A2m [] l).2=0):A1t (A2m [] l).1=(l.map D1c,0,0):=by
 obtain⟨a,ha⟩:=B0f l 0 []
 rw[h] at ha
 exact(A6z (fun r hr=>by
  obtain⟨q,hq,rfl⟩:=List.mem_map.1 hr
  exact hb q hq) ha).2
theorem B4y:∀ (l:List RI) (acc:List UInt8),(A2m acc l).2=0→∀ r∈l,A0s r.number r.how r.bits r.bytes.length=0
 | r::l,acc,h,q,hq=>by
  rw[A9s] at h
  by_cases h1:A0s r.number r.how r.bits r.bytes.length≠0
  ·rw[if_pos h1] at h;exact absurd h h1
  ·rw[if_neg h1] at h
   by_cases h2:4000 < (acc++recN r.number r.how r.bits r.bytes).length
   ·rw[if_pos h2] at h;cases h
   ·rw[if_neg h2] at h
    rcases List.mem_cons.1 hq with rfl|hq
    ·exact Decidable.not_not.1 h1
    ·exact B4y l _ h q hq
theorem B8j {l:List UInt8}{rs:List Rcd}{A:Nat}(h:A1t l=(rs,0,A)):∀ r∈rs,A0s r.num r.how r.bits r.bytes.length=0:=by
 obtain⟨p,hp,_,_,_⟩:=B8g h
 obtain⟨a,ha⟩:=B0f (rs.map A8j) 0 []
 have e:(rs.map A8j).map D1c=rs:=by
  rw[List.map_map]
  exact(List.map_congr_left (fun _ _=>rfl)).trans (List.map_id _)
 rw[e,hp] at ha
 have h2:(A2m [] (rs.map A8j)).2=0:=(congrArg (fun q=>q.2.1) ha).symm
 intro r hr
 exact B4y _ _ h2 (A8j r) (List.mem_map_of_mem hr)
theorem D0h {kind:Int}{n:Nat}(hn:n < 18446744073709551616) (hf:A2i kind n=0):A3i kind (A5f kind n)=n:=by
 unfold A3i A5f
 by_cases h2:kind=2
 ·rw[if_pos h2,if_pos h2]
  have hb : -9223372036854775808≤IntKind.i64.wrap (n:Int)∧IntKind.i64.wrap (n:Int)≤9223372036854775807:=by rw[IntKind.wrap_i64];omega
  have h0:=(B7o _ hb.1 hb.2).1
  rw[Int.toNat_of_nonneg h0,C5w,IntKind.wrap_i64,IntKind.wrap_u64]
  omega
 ·rw[if_neg h2,if_neg h2]
  unfold A2i at hf
  by_cases h4:kind=4
  ·rw[if_pos h4]
   rw[if_neg (by omega),if_pos h4] at hf
   split at hf
   ·omega
   ·cases hf
  ·rw[if_neg h4]
   by_cases h5:kind=5
   ·rw[if_pos h5]
    rw[if_neg (by omega),if_neg h4,if_pos h5] at hf
    split at hf
    ·rename_i he
     unfold C1u at he
     simp only[Bool.or_eq_true,decide_eq_true_eq] at he
     split <;> omega
    ·cases hf
   ·rw[if_neg h5]
theorem B5g {kind:Int}{n:Nat}(h1:1≤kind) (h7:kind≤7) (hs:kind=7→n < 4294967296):A2i kind (A3i kind n)=0:=by
 by_cases h2:kind=1∨kind=2∨kind=3∨kind=6
 ·unfold A2i
  rw[if_pos h2]
 ·by_cases h4:kind=4
  ·have e:A3i kind n=min n 1:=by unfold A3i;rw[if_neg (by omega),if_pos h4]
   unfold A2i
   rw[e,if_neg h2,if_pos h4,if_pos (by omega)]
  ·by_cases h5:kind=5
   ·have e:A3i kind n=if n%4294967296 < 2147483648 then n%4294967296 else n%4294967296+18446744069414584320:=by unfold A3i;rw[if_neg (by omega),if_neg h4,if_pos h5]
    unfold A2i
    rw[if_neg h2,if_neg h4,if_pos h5,if_pos]
    rw[e]
    unfold C1u
    simp only[Bool.or_eq_true,decide_eq_true_eq]
    split <;> omega
   ·have e:A3i kind n=n:=by unfold A3i;rw[if_neg (by omega),if_neg h4,if_neg h5]
    have:=hs (by omega)
    unfold A2i
    rw[e,if_neg h2,if_neg h4,if_neg h5,if_pos (by omega),if_pos (by omega)]
theorem B2b {kind:Int}{n:Nat}(hf:A2i kind n=0) (h5:A3t kind=5):A5f kind n < 4294967296:=by
 have hk:kind=7:=by
  unfold A3t at h5
  split at h5
  ·omega
  ·split at h5
   ·assumption
   ·split at h5 <;> omega
 subst hk
 unfold A2i at hf
 rw[if_neg (by decide),if_neg (by decide),if_neg (by decide),if_pos rfl] at hf
 unfold A5f
 rw[if_neg (by decide)]
 split at hf
 ·omega
 ·cases hf
end L
end Go.Proofs.YtcagbdokbnpdfaaGreatDoor
