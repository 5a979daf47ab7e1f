/- Bodies that a call made: where each list lies, the blocks that it has for itself, and what stays when other blocks turn. -/
import Derived.Test.YthgbiflfinddiaaGreatBData
import Derived.Test.YthgbiflfinddiaaGreatLApp
namespace Go.Proofs.YthgbiflfinddiaaGreat
namespace L
open Go.RowKit

/-- Where a list lies. -/
abbrev PV := Option Addr × Nat × Nat
def PV.v (p : PV) : Value := .slice p.1 p.2.1 p.2.2
def own1 (p : PV) : List Nat := p.v.ownBlock.toList
structure VL (β : Type) where
  number : Int
  bits : List Nat
  bytes : List (List UInt8 × PV)
  subs : List β
  p1 : PV
  p2 : PV
  p3 : PV
structure BL (β : Type) where
  vals : List (VL β)
  unk : List (RI × PV)
  q0 : PV
  q1 : PV
/-- A body that is at most that deep, and where its lists lie. -/
def LB : Nat → Type
  | 0 => Empty
  | d + 1 => BL (LB d)
def VL.pl {β γ : Type} (f : β → γ) (v : VL β) : VI γ := ⟨v.number, v.bits, v.bytes.map Prod.fst, v.subs.map f⟩
def LB.pl : (d : Nat) → LB d → BI d
  | 0 => fun b => b
  | d + 1 => fun b => (⟨(BL.vals b).map (VL.pl (LB.pl d)), (BL.unk b).map Prod.fst⟩ : BO (BI d))

def encU (n : Nat) : List Value := [.int .u64 (n : Int)]
def encY (b : UInt8) : List Value := [.int .u8 (b.toNat : Int)]
def encZ (z : List UInt8 × PV) : List Value := [z.2.v]
def encR (r : RI × PV) : List Value := [.int .i64 r.1.number, .int .i64 r.1.how, .int .u64 (r.1.bits : Int), r.2.v]
def encV {β : Type} (v : VL β) : List Value := [.int .i64 v.number, v.p1.v, v.p2.v, v.p3.v]
def encB : (d : Nat) → LB d → List Value
  | 0 => fun b => nomatch (b : Empty)
  | _ + 1 => fun b => [(BL.q0 b).v, (BL.q1 b).v]
def ekU : EK Nat where
  elem := 66
  slice := 67
  size := 1
  bytes := 8
  zero := .int .u64 0
  enc := encU
  under := Tryz.underlying67
  info := by kernel_rfl
  zs := rfl
  pos := by decide
  small := by decide
  len := fun _ => rfl
  one := by intro a u hu; simp only [encU, List.mem_singleton] at hu; subst hu; rfl
def ekY : EK UInt8 where
  elem := 5
  slice := 39
  size := 1
  bytes := 1
  zero := .int .u8 0
  enc := encY
  under := Tryz.underlying39
  info := by kernel_rfl
  zs := rfl
  pos := by decide
  small := by decide
  len := fun _ => rfl
  one := by intro a u hu; simp only [encY, List.mem_singleton] at hu; subst hu; rfl
def ekZ : EK (List UInt8 × PV) where
  elem := 39
  slice := 68
  size := 1
  bytes := 24
  zero := .slice none 0 0
  enc := encZ
  under := Tryz.underlying68
  info := by kernel_rfl
  zs := rfl
  pos := by decide
  small := by decide
  len := fun _ => rfl
  one := by intro a u hu; simp only [encZ, List.mem_singleton] at hu; subst hu; rfl
def ekR : EK (RI × PV) where
  elem := 104
  slice := 28
  size := 4
  bytes := 48
  zero := .agg #[.int .i64 0, .int .i64 0, .int .u64 0, .slice none 0 0]
  enc := encR
  under := Tryz.underlying28
  info := by kernel_rfl
  zs := rfl
  pos := by decide
  small := by decide
  len := fun _ => rfl
  one := by intro a u hu; simp only [encR, List.mem_cons, List.mem_nil_iff, or_false] at hu; rcases hu with rfl | rfl | rfl | rfl <;> rfl
def ekV (β : Type) : EK (VL β) where
  elem := 71
  slice := 27
  size := 4
  bytes := 80
  zero := .agg #[.int .i64 0, .slice none 0 0, .slice none 0 0, .slice none 0 0]
  enc := encV
  under := Tryz.underlying27
  info := by kernel_rfl
  zs := rfl
  pos := by decide
  small := by decide
  len := fun _ => rfl
  one := by intro a u hu; simp only [encV, List.mem_cons, List.mem_nil_iff, or_false] at hu; rcases hu with rfl | rfl | rfl | rfl <;> rfl
theorem encB_len : ∀ (d : Nat) (b : LB d), (encB d b).length = 2
  | 0, b => nomatch (b : Empty)
  | _ + 1, _ => rfl
theorem encB_one : ∀ (d : Nat) (b : LB d), ∀ u ∈ encB d b, u.oneCell' = true
  | 0, b => nomatch (b : Empty)
  | _ + 1, b => by intro u hu; simp only [encB, List.mem_cons, List.mem_nil_iff, or_false] at hu; rcases hu with rfl | rfl <;> rfl
def ekB (d : Nat) : EK (LB d) where
  elem := 30
  slice := 69
  size := 2
  bytes := 48
  zero := .agg #[.slice none 0 0, .slice none 0 0]
  enc := encB d
  under := Tryz.underlying69
  info := by kernel_rfl
  zs := rfl
  pos := by decide
  small := by decide
  len := encB_len d
  one := encB_one d

/-- A value whose lists the call made. -/
structure OwnV {β : Type} (E : EK β) (O : World → β → Prop) (w : World) (base : Nat) (v : VL β) : Prop where
  r1 : Row ekU w base v.p1.v v.bits
  r2 : Row ekZ w base v.p2.v v.bytes
  r2y : ∀ z ∈ v.bytes, Row ekY w base z.2.v z.1
  r3 : Row E w base v.p3.v v.subs
  r3s : ∀ s ∈ v.subs, O w s
structure OwnL {β : Type} (E : EK β) (O : World → β → Prop) (w : World) (base : Nat) (b : BL β) : Prop where
  r0 : Row (ekV β) w base b.q0.v b.vals
  r0v : ∀ v ∈ b.vals, OwnV E O w base v
  r1 : Row ekR w base b.q1.v b.unk
  r1y : ∀ r ∈ b.unk, Row ekY w base r.2.v r.1.bytes
/-- A body whose lists the call made. -/
def OwnB (base : Nat) : (d : Nat) → World → LB d → Prop
  | 0 => fun _ _ => False
  | d + 1 => fun w b => OwnL (ekB d) (OwnB base d) w base b

/-- The blocks that it has for itself (those of bytes aside: they never turn). -/
def VL.fp {β : Type} (f : β → List Nat) (v : VL β) : List Nat := own1 v.p1 ++ own1 v.p2 ++ own1 v.p3 ++ v.subs.flatMap f
def BL.fp {β : Type} (f : β → List Nat) (b : BL β) : List Nat := own1 b.q0 ++ own1 b.q1 ++ b.vals.flatMap (VL.fp f)
def LB.fp : (d : Nat) → LB d → List Nat
  | 0 => fun _ => []
  | d + 1 => fun b => BL.fp (LB.fp d) b

/-- Of what was there nothing but the blocks F has turned, and none that holds bytes. -/
structure FrB (F : List Nat) (w w' : World) : Prop where
  os : w'.os = w.os
  tape : w'.tape = w.tape
  output : w'.output = w.output
  size : w.heap.size ≤ w'.heap.size
  block : ∀ k, k < w.heap.size → (k ∉ F ∨ ∃ cs fr, w.heap[k]? = some (.cells cs 5 fr)) → w'.heap[k]? = w.heap[k]?
theorem FrB.refl (F : List Nat) (w : World) : FrB F w w := ⟨rfl, rfl, rfl, Nat.le_refl _, fun _ _ _ => rfl⟩
theorem FrB.of_below {F : List Nat} {w w' : World} (h : Below w.heap.size w w') : FrB F w w' := ⟨h.os, h.tape, h.output, h.size, fun k hk _ => h.block k hk⟩
theorem FrB.mono {F G : List Nat} {w w' : World} (h : FrB F w w') (hs : ∀ k ∈ F, k ∈ G) : FrB G w w' := ⟨h.os, h.tape, h.output, h.size, fun k hk hc => h.block k hk (hc.imp (fun h1 h2 => h1 (hs k h2)) id)⟩
/-- F may have what came in between. -/
theorem FrB.trans {F G H : List Nat} {a b c : World} (h : FrB F a b) (k : FrB G b c) (hF : ∀ i ∈ F, i ∈ H) (hG : ∀ i ∈ G, i ∈ H ∨ a.heap.size ≤ i) : FrB H a c :=
  ⟨k.os.trans h.os, k.tape.trans h.tape, k.output.trans h.output, Nat.le_trans h.size k.size, fun i hi hc => by
    have e := h.block i hi (hc.imp (fun h1 h2 => h1 (hF i h2)) id)
    rw [k.block i (Nat.lt_of_lt_of_le hi h.size) ?_, e]
    rcases hc with hc | ⟨cs, fr, hc⟩
    · left; intro hi'; rcases hG i hi' with h1 | h1
      · exact hc h1
      · omega
    · right; exact ⟨cs, fr, by rw [e]; exact hc⟩⟩
theorem FrB.below {F : List Nat} {w w' : World} {B : Nat} (h : FrB F w w') (hB : B ≤ w.heap.size) (hF : ∀ k ∈ F, B ≤ k) : Below B w w' :=
  ⟨h.os, h.tape, h.output, h.size, fun k hk => h.block k (by omega) (.inl fun hk' => by have := hF k hk'; omega)⟩
theorem mem_own1 {p : PV} {k : Nat} : k ∈ own1 p ↔ p.v.ownBlock = some k := by unfold own1; simp
theorem Row.frB {α : Type} {E : EK α} {F : List Nat} {w w' : World} {base : Nat} {p : PV} {l : List α} (h : Row E w base p.v l) (hf : FrB F w w') (hd : ∀ k ∈ own1 p, k ∉ F) : Row E w' base p.v l := by
  refine ⟨h.1, ?_⟩
  rcases h.2 with hn | ⟨g, cap, cur, hv, hbg, hg, r⟩
  · exact .inl hn
  · refine .inr ⟨g, cap, cur, hv, hbg, ?_, r⟩
    rw [hf.block g (Array.getElem?_eq_some_iff.1 hg).1 (.inl (hd g (mem_own1.2 (by rw [hv]; rfl))))]
    exact hg
theorem Row.frY {F : List Nat} {w w' : World} {base : Nat} {v : Value} {l : List UInt8} (h : Row ekY w base v l) (hf : FrB F w w') : Row ekY w' base v l := by
  refine ⟨h.1, ?_⟩
  rcases h.2 with hn | ⟨g, cap, cur, hv, hbg, hg, r⟩
  · exact .inl hn
  · refine .inr ⟨g, cap, cur, hv, hbg, ?_, r⟩
    rw [hf.block g (Array.getElem?_eq_some_iff.1 hg).1 (.inr ⟨cur, _, hg⟩)]
    exact hg
theorem OwnV.fr {β : Type} {E : EK β} {O : World → β → Prop} {f : β → List Nat} (hO : ∀ (F : List Nat) (w w' : World) b, O w b → FrB F w w' → (∀ k ∈ f b, k ∉ F) → O w' b) {F : List Nat} {w w' : World} {base : Nat} {v : VL β} (h : OwnV E O w base v) (hf : FrB F w w') (hd : ∀ k ∈ VL.fp f v, k ∉ F) : OwnV E O w' base v where
  r1 := h.r1.frB hf fun k hk => hd k (by unfold VL.fp; simp [hk])
  r2 := h.r2.frB hf fun k hk => hd k (by unfold VL.fp; simp [hk])
  r2y := fun z hz => (h.r2y z hz).frY hf
  r3 := h.r3.frB hf fun k hk => hd k (by unfold VL.fp; simp [hk])
  r3s := fun s hs => hO F w w' s (h.r3s s hs) hf fun k hk => hd k (by unfold VL.fp; simp only [List.mem_append, List.mem_flatMap]; exact .inr ⟨s, hs, hk⟩)
theorem OwnL.fr {β : Type} {E : EK β} {O : World → β → Prop} {f : β → List Nat} (hO : ∀ (F : List Nat) (w w' : World) b, O w b → FrB F w w' → (∀ k ∈ f b, k ∉ F) → O w' b) {F : List Nat} {w w' : World} {base : Nat} {b : BL β} (h : OwnL E O w base b) (hf : FrB F w w') (hd : ∀ k ∈ BL.fp f b, k ∉ F) : OwnL E O w' base b where
  r0 := h.r0.frB hf fun k hk => hd k (by unfold BL.fp; simp [hk])
  r0v := fun v hv => (h.r0v v hv).fr hO hf fun k hk => hd k (by unfold BL.fp; simp only [List.mem_append, List.mem_flatMap]; exact .inr ⟨v, hv, hk⟩)
  r1 := h.r1.frB hf fun k hk => hd k (by unfold BL.fp; simp [hk])
  r1y := fun r hr => (h.r1y r hr).frY hf
theorem OwnB.fr {base : Nat} : ∀ (d : Nat) (F : List Nat) (w w' : World) (b : LB d), OwnB base d w b → FrB F w w' → (∀ k ∈ LB.fp d b, k ∉ F) → OwnB base d w' b
  | 0, _, _, _, _, h, _, _ => h
  | d + 1, _, _, _, _, h, hf, hd => OwnL.fr (fun F w w' b => OwnB.fr d F w w' b) h hf hd
theorem OwnB.below {base d : Nat} {w w' : World} {b : LB d} (h : OwnB base d w b) (hb : Below w.heap.size w w') : OwnB base d w' b := OwnB.fr d [] w w' b h (.of_below hb) (fun _ _ => List.not_mem_nil)
theorem OwnV.below {base d : Nat} {w w' : World} {v : VL (LB d)} (h : OwnV (ekB d) (OwnB base d) w base v) (hb : Below w.heap.size w w') : OwnV (ekB d) (OwnB base d) w' base v := OwnV.fr (F := []) (OwnB.fr d) h (.of_below hb) (fun _ _ => List.not_mem_nil)
/-- Its blocks are there, from base on. -/
theorem Row.own1 {α : Type} {E : EK α} {w : World} {base : Nat} {p : PV} {l : List α} (h : Row E w base p.v l) : ∀ k ∈ own1 p, base ≤ k ∧ k < w.heap.size := fun k hk => h.own k (mem_own1.1 hk)
theorem OwnV.inB {β : Type} {E : EK β} {O : World → β → Prop} {f : β → List Nat} {w : World} {base : Nat} {v : VL β} (hO : ∀ s ∈ v.subs, O w s → ∀ k ∈ f s, base ≤ k ∧ k < w.heap.size) (h : OwnV E O w base v) : ∀ k ∈ VL.fp f v, base ≤ k ∧ k < w.heap.size := by
  intro k hk
  unfold VL.fp at hk
  simp only [List.mem_append, List.mem_flatMap] at hk
  rcases hk with ((hk | hk) | hk) | ⟨s, hs, hk⟩
  · exact h.r1.own1 k hk
  · exact h.r2.own1 k hk
  · exact h.r3.own1 k hk
  · exact hO s hs (h.r3s s hs) k hk
theorem OwnB.inB {base : Nat} : ∀ (d : Nat) {w : World} {b : LB d}, OwnB base d w b → ∀ k ∈ LB.fp d b, base ≤ k ∧ k < w.heap.size
  | 0, _, _, h => h.elim
  | d + 1, w, b, h => by
    intro k hk
    have hk : k ∈ BL.fp (LB.fp d) b := hk
    have h : OwnL (ekB d) (OwnB base d) w base b := h
    unfold BL.fp at hk
    simp only [List.mem_append, List.mem_flatMap] at hk
    rcases hk with (hk | hk) | ⟨v, hv, hk⟩
    · exact h.r0.own1 k hk
    · exact h.r1.own1 k hk
    · exact (h.r0v v hv).inB (fun s _ hs => OwnB.inB d hs) k hk

/-- Such a body can be read. -/
theorem RdL.mapB {α β : Type} {sz : Nat} {P : World → Addr → α → Prop} {R : World → Addr → β → Prop} {w : World} {v : Value} {l : List α} (f : α → β) (h : RdL sz P w v l) (hf : ∀ x a, a ∈ l → P w x a → R w x (f a)) : RdL sz R w v (l.map f) := by
  obtain ⟨ao, n, cap, e, h1, h2, h3, h4, h5⟩ := h
  refine ⟨ao, n, cap, e, by simpa using h1, h2, h3, h4, fun x hx k b hb => ?_⟩
  rw [List.getElem?_map] at hb
  cases ha : l[k]? with
  | none => rw [ha] at hb; simp at hb
  | some a =>
    rw [ha] at hb
    simp at hb
    subst hb
    exact hf _ a (List.mem_of_getElem? ha) (h5 x hx k a ha)
theorem Row.rdU {w : World} {base : Nat} {v : Value} {l : List Nat} (h : Row ekU w base v l) : RdL 1 UAt w v l := h.rd UAt fun g i a hc => by have := hc 0 _ rfl; simpa [UAt] using this
theorem Row.rdY {w : World} {base : Nat} {v : Value} {l : List UInt8} (h : Row ekY w base v l) : RdL 1 YAt w v l := h.rd YAt fun g i a hc => by have := hc 0 _ rfl; simpa [YAt] using this
theorem Row.rdZ {w : World} {base : Nat} {v : Value} {l : List (List UInt8 × PV)} (h : Row ekZ w base v l) (hy : ∀ z ∈ l, Row ekY w base z.2.v z.1) : RdL 1 ZAt w v (l.map Prod.fst) :=
  RdL.mapB Prod.fst (h.rd (fun w x (z : List UInt8 × PV) => w.cell? x = some z.2.v) fun g i a hc => by have := hc 0 _ rfl; simpa using this) fun _ z hz hc => ⟨z.2.v, hc, (hy z hz).rdY⟩
theorem Row.rdR {w : World} {base : Nat} {v : Value} {l : List (RI × PV)} (h : Row ekR w base v l) (hy : ∀ r ∈ l, Row ekY w base r.2.v r.1.bytes) : RdL 4 RAt w v (l.map Prod.fst) :=
  RdL.mapB Prod.fst (h.rd (fun w x (r : RI × PV) => w.cell? x = some (.int .i64 r.1.number) ∧ w.cell? (x.add 1) = some (.int .i64 r.1.how) ∧ w.cell? (x.add 2) = some (.int .u64 (r.1.bits : Int)) ∧ w.cell? (x.add 3) = some r.2.v) fun g i a hc => by
    refine ⟨by simpa using hc 0 _ rfl, ?_, ?_, ?_⟩ <;> rw [add_plain]
    · exact hc 1 _ rfl
    · exact hc 2 _ rfl
    · exact hc 3 _ rfl) fun _ r hr ⟨h0, h1, h2, h3⟩ => ⟨r.2.v, h0, h1, h2, h3, (hy r hr).rdY⟩
theorem OwnL.rdV {d : Nat} {w : World} {base : Nat} {b : BL (LB d)} (hs : ∀ (s : LB d) (g i : Nat), OwnB base d w s → (∀ j u, (encB d s)[j]? = some u → w.cell? ⟨g, i + j, none⟩ = some u) → BAt d w ⟨g, i, none⟩ (LB.pl d s)) (h : OwnL (ekB d) (OwnB base d) w base b) : RdL 4 (VAt (BAt d)) w b.q0.v (b.vals.map (VL.pl (LB.pl d))) := by
  refine RdL.mapB _ (h.r0.rd (fun w x (v : VL (LB d)) => w.cell? x = some (.int .i64 v.number) ∧ w.cell? (x.add 1) = some v.p1.v ∧ w.cell? (x.add 2) = some v.p2.v ∧ w.cell? (x.add 3) = some v.p3.v) fun g i a hc => ?_) ?_
  · refine ⟨by simpa using hc 0 _ rfl, ?_, ?_, ?_⟩ <;> rw [add_plain]
    · exact hc 1 _ rfl
    · exact hc 2 _ rfl
    · exact hc 3 _ rfl
  · rintro x v hv ⟨h0, h1, h2, h3⟩
    have ho := h.r0v v hv
    refine ⟨v.p1.v, v.p2.v, v.p3.v, h0, h1, h2, h3, ho.r1.rdU, ho.r2.rdZ ho.r2y, ?_⟩
    exact RdL.mapB (P := fun w (x : Addr) (s : LB d) => ∃ g i, x = ⟨g, i, none⟩ ∧ ∀ j u, (encB d s)[j]? = some u → w.cell? ⟨g, i + j, none⟩ = some u) _ (ho.r3.rd _ fun g i a hc => ⟨g, i, rfl, hc⟩) fun _ s hs' ⟨g, i, e, hc⟩ => by rw [e]; exact hs s g i (ho.r3s s hs') hc
theorem OwnB.at {base : Nat} : ∀ (d : Nat) {w : World} (s : LB d) (g i : Nat), OwnB base d w s → (∀ j u, (encB d s)[j]? = some u → w.cell? ⟨g, i + j, none⟩ = some u) → BAt d w ⟨g, i, none⟩ (LB.pl d s)
  | 0, _, _, _, _, h, _ => h.elim
  | d + 1, w, s, g, i, h, hc => by
    have h : OwnL (ekB d) (OwnB base d) w base s := h
    refine ⟨(BL.q0 s).v, (BL.q1 s).v, by simpa using hc 0 _ rfl, by rw [add_plain]; exact hc 1 _ rfl, h.rdV (fun s g i => OwnB.at d s g i), h.r1.rdR h.r1y⟩
theorem OwnB.rd {d : Nat} {w : World} {base : Nat} {b : BL (LB d)} (h : OwnB base (d + 1) w b) : BRd d w b.q0.v b.q1.v (LB.pl (d + 1) b) :=
  have h : OwnL (ekB d) (OwnB base d) w base b := h
  ⟨h.rdV (fun s g i => OwnB.at d s g i), h.r1.rdR h.r1y⟩

end L
end Go.Proofs.YthgbiflfinddiaaGreat
