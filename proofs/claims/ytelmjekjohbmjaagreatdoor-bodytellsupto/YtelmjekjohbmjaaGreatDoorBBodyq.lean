import Derived.Test.YtelmjekjohbmjaaGreatDoorBDeepq
import Derived.Test.YtelmjekjohbmjaaGreatDoorM18
/- What is wrong with the values of a body that is that deep, and with the body. -/
namespace Go.Proofs.YtelmjekjohbmjaaGreatDoor
namespace L
open Go.RowKit

set_option maxHeartbeats 2000000 in
set_option maxRecDepth 100000 in
theorem wrongValues_any {d : Nat} {wE : World} {c0 ca B fnD : Nat} {capD : Array Value} {g gd : Nat} {b e : Nat → Nat} {nm : List UInt8} {af : Option Addr} {nf cf : Nat} {ab : Option Addr} {nb cb : Nat} {fs : List FI} {f : List UInt8 → BI d → Int} {Q : BI d → Prop} {w : World} (hbE : Below wE.heap.size wE w) (e0 : wE.heap.size ≤ c0) (ea : wE.heap.size ≤ ca) (hck : CkM c0 ca B fnD capD g gd b e w) (hB : B ≤ w.heap.size) (h0 : w.heap[c0]? = some (.cells #[.int .i64 0] 3 (0, 0))) (ha : w.heap[ca]? = some (.cells #[.slice none 0 0] 46 (0, 0)))
    (hf : RdL 6 FAt wE (.slice af nf cf) fs) (hT : Tabs wE) (hent : ∀ (args : Array Value) (w : World), (callFunc fnD args).run Tryz.prog w = .ok (.enter fnD args) w) (hdeep : ∀ x ∈ fs, ∀ v : VI (BI d), (∀ s ∈ v.subs, Q s) → othersB x v = false → Deeper d fnD capD x.type (f x.type) v.subs wE)
    {l : List (VI (BI d))} {vl : Value} (h : RdL 4 (VAt (BAt d)) wE vl l) (hV : ∀ v ∈ l, VOk Q v) (hlen : l.length * 80 ≤ reachBytes) :
    Calls Tryz.prog 53 #[.agg #[.string (S nm), .slice af nf cf, .slice ab nb cb], vl, .slice (some ⟨g, 0, none⟩) 8 8] w fun r w' => r = .returned (.int .i64 (valsE fs f l (0, []))) ∧ Below wE.heap.size wE w' := by
  obtain ⟨W2, HW2⟩ : ∃ W2, Hid (W2 = (w.alloc (.cells #[.string (S nm), .slice af nf cf, .slice ab nb cb] 48)).alloc (.cells #[.slice (some ⟨g, 0, none⟩) 8 8] 98)) := ⟨_, rfl⟩
  have hb2 : Below w.heap.size w W2 := by rw [HW2.out]; exact ((Below.refl _ _).alloc (Nat.le_refl _) _).alloc (by simp) _
  have hz2 : w.heap.size + 2 ≤ W2.heap.size := by rw [HW2.out]; simp
  have x1 : W2.heap[w.heap.size]? = some (.cells #[.string (S nm), .slice af nf cf, .slice ab nb cb] 48 (0, 0)) := by rw [HW2.out]; exact alloc2_old _ _ _
  have x2 : W2.heap[w.heap.size + 1]? = some (.cells #[.slice (some ⟨g, 0, none⟩) 8 8] 98 (0, 0)) := by rw [HW2.out]; exact alloc2_new _ _ _
  have hc0 : c0 < w.heap.size := (Array.getElem?_eq_some_iff.1 h0).1
  have hca : ca < w.heap.size := (Array.getElem?_eq_some_iff.1 ha).1
  have hm : Mm c0 ca W2.heap.size (0, []) W2 := ⟨(hb2.block c0 hc0).trans h0, ⟨_, (hb2.block ca hca).trans ha, Row.nil _ _ _⟩, Nat.le_refl _, by omega, by omega⟩
  have hC : Ctx (d := d) wE c0 ca W2.heap.size fnD capD g gd b e w.heap.size (w.heap.size + 1) nm af nf cf ab nb cb fs f Q W2 :=
    ⟨hbE.trans (hb2.mono hbE.size), e0, ea, (hck.below hb2).mono (by omega), ⟨x1, by omega, by omega, by omega⟩, ⟨x2, by omega, by omega, by omega⟩, hf, hT, hent, hdeep⟩
  have hcall := vals_any hC hm rfl h hV hlen
  have hmf := makeF
  obtain ⟨al, nl, cl, rfl, _, _⟩ := h.shape
  clear hC hm hdeep hV h hck hf
  go_enter Tryz.func53, Tryz.ntmps53
  go_wp2_with fail
  rw [← HW2.out]
  refine hcall.mono ?_
  rintro r w3 ⟨rfl, s', hS⟩
  go_wp2
  go_ret
  exact ⟨rfl, (hbE.trans (hb2.mono hbE.size)).trans (hS.below e0 ea)⟩

def fieldsOf (g : GI) (name : List UInt8) : List FI := match g.msgs.find? (fun m => decide (m.name = name)) with
  | some m => m.fields
  | none => []
/-- What is wrong with a body that is that deep, of a message that has these fields. -/
def bodyE (g : GI) : (d : Nat) → Int → List FI → BI d → Int
  | 0 => fun _ _ b => nomatch (b : Empty)
  | d + 1 => fun k fs b => if 12 < k then 10 else if valsE fs (fun name s => bodyE g d (k + 1) (fieldsOf g name) s) (BO.vals b) (0, []) = 0 then firstE (unkE fs) (BO.unk b) else valsE fs (fun name s => bodyE g d (k + 1) (fieldsOf g name) s) (BO.vals b) (0, [])
theorem bodyE_succ (g : GI) (d : Nat) (k : Int) (fs : List FI) (x : BI (d + 1)) : bodyE g (d + 1) k fs x = if 12 < k then 10 else if valsE fs (fun name s => bodyE g d (k + 1) (fieldsOf g name) s) (BO.vals x) (0, []) = 0 then firstE (unkE fs) (BO.unk x) else valsE fs (fun name s => bodyE g d (k + 1) (fieldsOf g name) s) (BO.vals x) (0, []) := rfl
/-- Each field that is a Sub has its message. -/
def Subs (g : GI) : Prop := ∀ m ∈ g.msgs, ∀ x ∈ m.fields, x.kind = 10 → ∃ m', g.msgs.find? (fun m => decide (m.name = x.type)) = some m'
theorem others_subs {β : Type} {x : FI} {v : VI β} (h : othersB x v = false) (hs : v.subs ≠ []) : x.kind = 10 := by
  unfold othersB at h
  by_cases h8 : x.kind = 8 ∨ x.kind = 9
  · rw [if_pos h8] at h; simp at h; exact absurd h.2 hs
  · rw [if_neg h8] at h
    by_cases h10 : x.kind = 10
    · exact h10
    · rw [if_neg h10] at h; simp at h; exact absurd h.2 hs

/-- What wrongBody tells of bodies that are at most that deep. -/
def BodyTold (g : GI) (d : Nat) : Prop := ∀ (w : World) (k : Int) (vm ve : Value) (m : MI) (vf vb v0 v1 : Value) (x : BI d), 0 ≤ k → k ≤ 100 → GRd w vm ve g → m ∈ g.msgs → RdL 6 FAt w vf m.fields → RdL 1 NAt w vb m.barred → BQ d w v0 v1 x → BOk d x → Tabs w →
  Calls Tryz.prog 25 #[.agg #[vm, ve], .agg #[.string (S m.name), vf, vb], .agg #[v0, v1], .int .i64 k] w fun r w' => r = .returned (.int .i64 (bodyE g d k m.fields x)) ∧ Below w.heap.size w w'

set_option maxHeartbeats 2000000 in
set_option maxRecDepth 100000 in
theorem told_step {g : GI} (hsub : Subs g) {d : Nat} (ih : BodyTold g d) : BodyTold g (d + 1) := by
  intro w k vm ve m vf vb v0 v1 x hk0 hk1 hg hm hf hb hq hok hT
  obtain ⟨am, nm, cm, rfl, _, _⟩ := hg.1.shape
  obtain ⟨ae, ne, ce, rfl, _, _⟩ := hg.2.shape
  obtain ⟨af, nf, cf, rfl, _, _⟩ := hf.shape
  obtain ⟨ab, nb, cb, rfl, _, _⟩ := hb.shape
  have hq : BRd d w v0 v1 x := hq
  obtain ⟨a0, n0, c0, a1, n1, c1, rfl, rfl⟩ := hq.shape
  obtain ⟨hV, hlen, _, _⟩ := hok
  obtain ⟨N, HN⟩ : ∃ N, Hid (N = w.heap.size) := ⟨_, rfl⟩
  obtain ⟨W4, HW4⟩ : ∃ W4, Hid (W4 = (((w.alloc (.cells #[.slice am nm cm, .slice ae ne ce] 25)).alloc (.cells #[.string (S m.name), .slice af nf cf, .slice ab nb cb] 48)).alloc (.cells #[.slice a0 n0 c0, .slice a1 n1 c1] 29)).alloc (.cells #[.int .i64 k] 3)) := ⟨_, rfl⟩
  have hb4 : Below w.heap.size w W4 := by rw [HW4.out]; exact ((((Below.refl _ _).alloc (Nat.le_refl _) _).alloc (by simp) _).alloc (by first | (simp; omega) | simp) _).alloc (by first | (simp; omega) | simp) _
  have z4 : w.heap.size + 4 ≤ W4.heap.size := by rw [HW4.out]; simp
  have x0 : W4.heap[w.heap.size]? = some (.cells #[.slice am nm cm, .slice ae ne ce] 25 (0, 0)) := by
    rw [HW4.out, Below.heap_alloc _ _ _ (by first | (simp; omega) | simp), Below.heap_alloc _ _ _ (by first | (simp; omega) | simp)]; exact alloc2_old _ _ _
  have x1 : W4.heap[w.heap.size + 1]? = some (.cells #[.string (S m.name), .slice af nf cf, .slice ab nb cb] 48 (0, 0)) := by
    rw [HW4.out, Below.heap_alloc _ _ _ (by first | (simp; omega) | simp), Below.heap_alloc _ _ _ (by first | (simp; omega) | simp)]; exact alloc2_new _ _ _
  have x2 : W4.heap[w.heap.size + 2]? = some (.cells #[.slice a0 n0 c0, .slice a1 n1 c1] 29 (0, 0)) := by
    rw [HW4.out, Below.heap_alloc _ _ _ (by first | (simp; omega) | simp)]
    have := heap_alloc_new ((w.alloc (.cells #[.slice am nm cm, .slice ae ne ce] 25)).alloc (.cells #[.string (S m.name), .slice af nf cf, .slice ab nb cb] 48)) (.cells #[.slice a0 n0 c0, .slice a1 n1 c1] 29)
    simpa using this
  have x3 : W4.heap[w.heap.size + 3]? = some (.cells #[.int .i64 k] 3 (0, 0)) := by
    have := heap_alloc_new (((w.alloc (.cells #[.slice am nm cm, .slice ae ne ce] 25)).alloc (.cells #[.string (S m.name), .slice af nf cf, .slice ab nb cb] 48)).alloc (.cells #[.slice a0 n0 c0, .slice a1 n1 c1] 29)) (.cells #[.int .i64 k] 3)
    rw [HW4.out]
    simpa using this
  by_cases hk : 12 < k
  · have HR : Hid (bodyE g (d + 1) k m.fields x = 10) := by show _ = _; rw [bodyE_succ, if_pos hk]
    clear ih hV hq hg hf hb
    go_enter Tryz.func25, Tryz.ntmps25
    go_wp2
    go_ret
    rw [← HW4.out]
    exact ⟨by rw [HR.out]; rfl, hb4⟩
  · obtain ⟨f, Hf⟩ : ∃ f : List UInt8 → BI d → Int, Hid (f = fun name s => bodyE g d (k + 1) (fieldsOf g name) s) := ⟨_, rfl⟩
    have HE : Hid (bodyE g (d + 1) k m.fields x = if valsE m.fields f (BO.vals x) (0, []) = 0 then firstE (unkE m.fields) (BO.unk x) else valsE m.fields f (BO.vals x) (0, [])) := by
      show _ = _
      rw [Hf.out, bodyE_succ, if_neg hk]
    have hdeep : ∀ y ∈ m.fields, ∀ v : VI (BI d), (∀ s ∈ v.subs, BOk d s) → othersB y v = false → Deeper d 51 #[.pointer (some ⟨w.heap.size, 0, none⟩), .pointer (some ⟨w.heap.size + 3, 0, none⟩)] y.type (f y.type) v.subs W4 := by
      intro y hy v hQ ho W hW s hs u0 u1 hqs
      have hkind := others_subs ho (fun e => by rw [e] at hs; cases hs)
      obtain ⟨m', hm'⟩ := hsub m hm y hy hkind
      rcases firstI_cases (fun m : MI => decide (m.name = y.type)) g.msgs with ⟨_, h2⟩ | ⟨i, m2, h1, h2, h3, _⟩
      · rw [h2] at hm'; cases hm'
      · have hWW : Below w.heap.size w W := BTd hb4 hW
        have hfe : fieldsOf g y.type = m2.fields := by unfold fieldsOf; rw [h3]
        obtain ⟨b0, p0, q0, b1, p1, q1, rfl, rfl⟩ := hqs.shape
        refine (deep_call (R := f y.type s) ((hW.block _ (by omega)).trans x0) ((hW.block _ (by omega)).trans x3) (hg.below hWW) h1 h2 hk0 (by omega) fun vf vb hf' hb' V hV' => ?_)
        rw [Hf.out]
        show Calls _ _ _ _ fun e V' => e = .returned (.int .i64 (bodyE g d (k + 1) (fieldsOf g y.type) s)) ∧ Below V.heap.size V V'
        rw [hfe]
        exact ih V (k + 1) _ _ m2 vf vb _ _ s (by omega) (by omega) (hg.below (BTd hWW hV')) (List.mem_of_getElem? h2) (hf'.below FAt.stays hV') (hb'.below NAt.stays hV') (hqs.below hV') (hQ s hs) (hT.below (BTd hWW hV'))
    have hD : Below W4.heap.size W4 W4.drew := (Below.refl _ _).drew
    have hnew := checks_any 51 #[.pointer (some ⟨w.heap.size, 0, none⟩), .pointer (some ⟨w.heap.size + 3, 0, none⟩)] W4.drew
    have hcl : ∀ V, Below W4.heap.size W4 V → V.cell? ⟨w.heap.size + 1, 0, none⟩ = some (.string (S m.name)) ∧ V.cell? ⟨w.heap.size + 1, 1, none⟩ = some (.slice af nf cf) ∧ V.cell? ⟨w.heap.size + 1, 2, none⟩ = some (.slice ab nb cb) ∧ V.cell? ⟨w.heap.size + 2, 0, none⟩ = some (.slice a0 n0 c0) ∧ V.cell? ⟨w.heap.size + 2, 1, none⟩ = some (.slice a1 n1 c1) := fun V hV' => ⟨cell_below hV' (cell_of_blk x1 0 _ rfl), cell_below hV' (cell_of_blk x1 1 _ rfl), cell_below hV' (cell_of_blk x1 2 _ rfl), cell_below hV' (cell_of_blk x2 0 _ rfl), cell_below hV' (cell_of_blk x2 1 _ rfl)⟩
    obtain ⟨t0, t1, t2, t3, t4⟩ := hcl W4.drew hD
    obtain ⟨E, HEE⟩ : ∃ E, Hid (E = valsE m.fields f (BO.vals x) (0, [])) := ⟨_, rfl⟩
    have hvals : ∀ w1, Below W4.drew.heap.size W4.drew w1 → Hid (w1.heap.size = W4.drew.heap.size + 14) → CkM (W4.drew.heap.size + 1) (W4.drew.heap.size + 10) (W4.drew.heap.size + 14) 51 #[.pointer (some ⟨w.heap.size, 0, none⟩), .pointer (some ⟨w.heap.size + 3, 0, none⟩)] (W4.drew.heap.size + 13) W4.drew.heap.size (bF W4.drew.heap.size) (eF W4.drew.heap.size) w1 → w1.heap[W4.drew.heap.size + 1]? = some (.cells #[.int .i64 0] 3 (0, 0)) → w1.heap[W4.drew.heap.size + 10]? = some (.cells #[.slice none 0 0] 46 (0, 0)) →
        Calls Tryz.prog 53 #[.agg #[.string (S m.name), .slice af nf cf, .slice ab nb cb], .slice a0 n0 c0, .slice (some ⟨W4.drew.heap.size + 13, 0, none⟩) 8 8] w1 fun r w' => r = .returned (.int .i64 E) ∧ Below W4.heap.size W4 w' := by
      intro w1 hb1 hz1 hck h0 ha
      rw [HEE.out]
      have hE : W4.heap.size ≤ W4.drew.heap.size := hD.size
      have hb41 : Below W4.heap.size W4 w1 := BTd hD hb1
      exact wrongValues_any (Q := BOk d) hb41 (by omega) (by omega) hck (by rw [hz1.out]; exact Nat.le_refl _) h0 ha (hf.below FAt.stays hb4) (hT.below hb4) (enters_of Tryz.func51 (by kernel_rfl) rfl) hdeep (hq.below hb4).1 hV hlen
    have hkb : decide ((12 : Int) < k) = false := decide_eq_false hk
    have hmf := makeF
    have hunk : ∀ w2, Below W4.heap.size W4 w2 → Calls Tryz.prog 55 #[.slice a1 n1 c1, .func (.func 56) #[] #[.pointer (some ⟨w.heap.size + 1, 0, none⟩)]] w2 fun e w' => e = .returned (.int .i64 (firstE (unkE m.fields) (BO.unk x))) ∧ Below w2.heap.size w2 w' := fun w2 hb2 => unks_any (hq.below (BTd hb4 hb2)).2 ((hb2.block _ (by omega)).trans x1) (hf.below FAt.stays (BTd hb4 hb2))
    rw [HE.out, ← HEE.out]
    obtain ⟨U, HU⟩ : ∃ U, Hid (U = firstE (unkE m.fields) (BO.unk x)) := ⟨_, rfl⟩
    rw [← HU.out] at hunk ⊢
    obtain ⟨ANS, HANS⟩ : ∃ ANS, Hid (ANS = if E = 0 then U else E) := ⟨_, rfl⟩
    rw [← HANS.out]
    clear ih hdeep hV hk hg hf hb hq hT hsub HE HEE
    go_enter Tryz.func25, Tryz.ntmps25
    go_wp2_with fail
    rw [← HW4.out]
    go_region_with (first
      | (go_at_call 54; refine hnew.mono ?_; rintro r w1 ⟨rfl, hb1, hz1, hck, h0, ha⟩; obtain ⟨u0, u1, u2, u3, u4⟩ := hcl w1 (BTd hD hb1))
      | (go_at_call 53; refine (hvals w1 hb1 hz1 hck h0 ha).mono ?_; rintro r w2 ⟨rfl, hb2⟩))
    all_goals
      obtain ⟨s0, s1, s2, s3, s4⟩ := hcl w2 hb2
      have hun := hunk w2 hb2
      by_cases hE0 : E = 0
      · have ez : (E != 0) = false := by simp [hE0]
        have HZ : Hid (E = 0) := hE0
        clear hE0
        go_wp2_with fail
        refine hun.mono ?_
        rintro r w3 ⟨rfl, hb3⟩
        go_wp2
        go_ret
        exact ⟨by rw [HANS.out, if_pos HZ.out]; rfl, BTd hb4 (BTd hb2 hb3)⟩
      · have ez : (E != 0) = true := by simpa using hE0
        have HZ : Hid (E ≠ 0) := hE0
        clear hE0
        go_wp2
        go_ret
        exact ⟨by rw [HANS.out, if_neg HZ.out]; rfl, BTd hb4 hb2⟩

theorem bodyTold {g : GI} (hsub : Subs g) : ∀ d, BodyTold g d
  | 0 => fun _ _ _ _ _ _ _ _ _ x => nomatch (x : Empty)
  | d + 1 => told_step hsub (bodyTold hsub d)

end L
end Go.Proofs.YtelmjekjohbmjaaGreatDoor

