import Derived.Test.YthgbiflfinddiaaGreatKNums
import Derived.Test.YthgbiflfinddiaaGreatKMis
import Derived.Test.YthgbiflfinddiaaGreatKEnough
import Derived.Deep.RegionLaw
import Derived.Deep.CutRange
import Derived.Deep.CutBlock
/- The document's own answer: Numbers: a message's numbers, rising. -/
namespace Go.Proofs.YthgbiflfinddiaaGreat
namespace L
open Go.RowKit
set_option linter.unusedVariables false

/-- A number put behind all that are not greater, in a list that rises. -/
def insN (x : Int) (l : List Int) : Nat → List Int := fun at' => l.take at' ++ [x] ++ l.drop at'
/-- Where: from the end on, down as long as what stands ahead is greater. -/
def downN (x : Int) (l : List Int) : Nat → Nat
  | 0 => 0
  | i + 1 => match l[i]? with | some y => if x < y then downN x l i else i + 1 | none => i + 1
def numsR : List Int → List FI → List Int
  | l, [] => l
  | l, f :: r => numsR (insN f.number l (downN f.number l l.length)) r
theorem downN_le (x : Int) (l : List Int) : ∀ i, downN x l i ≤ i
  | 0 => Nat.le_refl _
  | i + 1 => by
    rw [downN]
    cases l[i]? with
    | none => exact Nat.le_refl _
    | some y =>
      simp only
      split
      · have := downN_le x l i; omega
      · exact Nat.le_refl _
theorem down_all (x : Int) (l : List Int) : ∀ i, ∀ k y, downN x l i ≤ k → k < i → l[k]? = some y → x < y
  | 0, k, y, _, h, _ => by omega
  | i + 1, k, y, h1, h2, h3 => by
    rw [downN] at h1
    cases hi : l[i]? with
    | none => rw [hi] at h1; simp only at h1; omega
    | some z =>
      rw [hi] at h1
      simp only at h1
      split at h1
      · rename_i hz
        by_cases hk : k = i
        · subst hk; rw [hi] at h3; cases h3; exact hz
        · exact down_all x l i k y h1 (by omega) h3
      · omega
theorem down_at (x : Int) (l : List Int) : ∀ i, downN x l i = 0 ∨ ∃ y, l[downN x l i - 1]? = some y ∧ ¬ x < y ∨ l[downN x l i - 1]? = none
  | 0 => .inl rfl
  | i + 1 => by
    rw [downN]
    cases hi : l[i]? with
    | none => right; exact ⟨0, .inr (by simp only [Nat.add_sub_cancel]; exact hi)⟩
    | some z =>
      simp only
      split
      · exact down_at x l i
      · rename_i hz; right; exact ⟨z, .inl ⟨by simp only [Nat.add_sub_cancel]; exact hi, hz⟩⟩
theorem ins_perm (x : Int) (l : List Int) (i : Nat) : (insN x l i).Perm (x :: l) := by
  unfold insN
  have : (l.take i ++ [x] ++ l.drop i).Perm ([x] ++ (l.take i ++ l.drop i)) := by
    rw [List.append_assoc]
    exact List.perm_append_comm_assoc _ _ _
  rw [List.take_append_drop] at this
  exact this
theorem ins_rise {x : Int} {l : List Int} (h : l.Pairwise (· ≤ ·)) : (insN x l (downN x l l.length)).Pairwise (· ≤ ·) := by
  obtain ⟨i, Hi⟩ : ∃ i, i = downN x l l.length := ⟨_, rfl⟩
  have hil : i ≤ l.length := by rw [Hi]; exact downN_le x l l.length
  have ht := h.sublist (List.take_sublist i l)
  have hd := h.sublist (List.drop_sublist i l)
  have hgt : ∀ y ∈ l.drop i, x < y := fun y hy => by
    obtain ⟨k, hk⟩ := List.getElem?_of_mem hy
    rw [List.getElem?_drop] at hk
    have hlt := (List.getElem?_eq_some_iff.1 hk).1
    exact down_all x l l.length (i + k) y (by rw [← Hi]; omega) hlt hk
  have hle : ∀ y ∈ l.take i, y ≤ x := fun y hy => by
    rcases down_at x l l.length with h0 | ⟨z, h1 | h1⟩
    · rw [← Hi] at h0; subst h0; simp at hy
    · rw [← Hi] at h1
      obtain ⟨k, hk⟩ := List.getElem?_of_mem hy
      rw [List.getElem?_take] at hk
      split at hk
      · rename_i hki
        have hz : y ≤ z := by
          by_cases e : k = i - 1
          · subst e; rw [h1.1] at hk; cases hk; exact Int.le_refl _
          · obtain ⟨hk1, hk2⟩ := List.getElem?_eq_some_iff.1 hk
            obtain ⟨hz1, hz2⟩ := List.getElem?_eq_some_iff.1 h1.1
            have := List.pairwise_iff_getElem.1 h k (i - 1) hk1 hz1 (by omega)
            rw [hk2, hz2] at this
            exact this
        omega
      · cases hk
    · rw [← Hi] at h1
      by_cases h0 : i = 0
      · subst h0; simp at hy
      · rw [List.getElem?_eq_none_iff] at h1; omega
  unfold insN
  rw [← Hi, List.append_assoc, List.pairwise_append]
  refine ⟨ht, ?_, ?_⟩
  · rw [List.singleton_append, List.pairwise_cons]
    exact ⟨fun y hy => by have := hgt y hy; omega, hd⟩
  · intro a ha c hc
    rcases List.mem_append.1 hc with hc | hc
    · rw [List.mem_singleton] at hc; subst hc; exact hle a ha
    · have := hgt c hc; have := hle a ha; omega
theorem numsR_perm : ∀ (f : List FI) (l : List Int), (numsR l f).Perm (f.map FI.number ++ l)
  | [], l => by simp [numsR]
  | x :: r, l => by
    rw [numsR, List.map_cons, List.cons_append]
    refine (numsR_perm r _).trans ?_
    refine (List.Perm.append_left _ (ins_perm x.number l _)).trans ?_
    exact List.perm_middle
theorem numsR_rise : ∀ (f : List FI) (l : List Int), l.Pairwise (· ≤ ·) → (numsR l f).Pairwise (· ≤ ·)
  | [], _, h => h
  | _ :: r, _, h => numsR_rise r _ (ins_rise h)
theorem nums_eq (m : MI) : numsR [] m.fields = numsN m := by
  have h1 : (numsR [] m.fields).Pairwise (· ≤ ·) := numsR_rise _ _ List.Pairwise.nil
  have h2 : (numsN m).Pairwise (· ≤ ·) := by
    have := List.pairwise_mergeSort (le := fun x y : Int => decide (x ≤ y)) (by simp; omega) (by simp; omega) (m.fields.map FI.number)
    exact this.imp fun h => by simpa using h
  have hp : (numsR [] m.fields).Perm (numsN m) := by
    have := numsR_perm m.fields []
    rw [List.append_nil] at this
    exact this.trans (List.mergeSort_perm _ _).symm
  exact hp.eq_of_pairwise (fun a b _ _ h1 h2 => by omega) h1 h2
theorem numsR_len : ∀ (f : List FI) (l : List Int), (numsR l f).length = l.length + f.length := fun f l => by
  have := (numsR_perm f l).length_eq
  rw [List.length_append, List.length_map] at this
  omega
theorem numsR_step {l : List FI} {k : Nat} {f : FI} (h : l[k]? = some f) (acc : List Int) : numsR acc (l.drop k) = numsR (insN f.number acc (downN f.number acc acc.length)) (l.drop (k + 1)) := by
  obtain ⟨hk, rfl⟩ := List.getElem?_eq_some_iff.1 h
  rw [List.drop_eq_getElem_cons hk]
  rfl

end L
end Go.Proofs.YthgbiflfinddiaaGreat

/- The document's own answer: Numbers. -/
namespace Go.Proofs.YthgbiflfinddiaaGreat
namespace L
open Go.RowKit
set_option linter.unusedVariables false

/-- What an append wants of a list that is read. -/
def RSrc {α : Type} (E : EK α) (w : World) (ao : Option Addr) (n cap : Nat) (l : List α) : Prop := l.length = n ∧ (ao = none → n = 0 ∧ cap = 0) ∧ ∀ ad, ao = some ad → ∀ k y, l[k]? = some y → ∀ j u, (E.enc y)[j]? = some u → w.cell? (ad.add (k * E.size + j)) = some u
theorem rsrc_drop {w : World} {g n cap D : Nat} {l : List Int} (h : RdL 1 NAt w (.slice (some ⟨g, 0, none⟩) n cap) l) : RSrc ekN w (some ⟨g, D, none⟩) (n - D) (cap - D) (l.drop D) := by
  obtain ⟨h1, _, h3⟩ := h.srcN
  refine ⟨by rw [List.length_drop, h1], (fun e => by cases e), fun ad had k y hy j u hu => ?_⟩
  cases had
  rw [List.getElem?_drop] at hy
  have := h3 _ rfl (D + k) y hy j u hu
  rw [add_plain] at this ⊢
  have e : 0 + ((D + k) * ekN.size + j) = D + (k * ekN.size + j) := by rw [show ekN.size = 1 from rfl]; omega
  rw [e] at this
  exact this
theorem rsrc_none {α : Type} (E : EK α) (w : World) : RSrc E w none 0 0 [] := ⟨rfl, fun _ => ⟨rfl, rfl⟩, fun _ h => by cases h⟩
theorem rsrc_end {α : Type} (E : EK α) (w : World) (a : Addr) (c : Nat) : RSrc E w (some a) 0 c [] := ⟨rfl, (fun e => by cases e), fun _ _ k y hy => by simp at hy⟩
theorem Row.empR {α : Type} (E : EK α) {w : World} {base g : Nat} (hb : base ≤ g) (h : w.heap[g]? = some (.cells #[] E.elem (0, 0))) : Row E w base (.slice (some ⟨g, 0, none⟩) 0 0) [] :=
  ⟨by simp [EK.flat], .inr ⟨g, 0, #[], rfl, hb, h, Nat.le_refl _, by unfold maxLen; omega, by simp, by simp [EK.flat]⟩⟩
theorem RB_app {W V V' : World} {B : Nat} {r : Option Nat} (h : Below B W V) (hB : B ≤ W.heap.size) (hg : V.grownBy V' r) (hr : ∀ k, r = some k → B ≤ k) : Below B W V' := h.grown hg (Nat.le_trans hB h.size) hr
theorem rblk_src {α : Type} (E : EK α) {w : World} {g : Nat} {y : α} (h : w.heap[g]? = some (.cells (E.enc y).toArray E.elem (0, 0))) : ∀ ad, some (⟨g, 0, none⟩ : Addr) = some ad → ∀ k z, [y][k]? = some z → ∀ j u, (E.enc z)[j]? = some u → w.cell? (ad.add (k * E.size + j)) = some u := by
  intro ad had k z hz j u hu
  cases had
  cases k with
  | succ k => simp at hz
  | zero =>
    have : y = z := by simpa using hz
    subst this
    rw [add_plain, Nat.zero_mul, Nat.zero_add, Nat.zero_add]
    exact cell_of_blk h j _ (by simpa using hu)
set_option maxHeartbeats 8000000 in
set_option maxRecDepth 100000 in
theorem rnumbers_any {w : World} {nm : List UInt8} {vf vb : Value} {m : MI} (h : RdL 6 FAt w vf m.fields) (hvb : ∃ ao n cap, vb = .slice ao n cap) (hl : m.fields.length ≤ 1000000000000) :
    Calls Tryz.prog 17 #[.agg #[.string (S nm), vf, vb]] w fun e w' => ∃ ao n cap, e = .returned (.slice ao n cap) ∧ Row ekN w' w.heap.size (.slice ao n cap) (numsN m) ∧ Below w.heap.size w w' := by
  obtain ⟨a1, n1, c1, rfl, H1, _⟩ := h.shape
  obtain ⟨a2, n2, c2, rfl⟩ := hvb
  have hn1 : n1 ≤ 1000000000000 := by rw [H1.out]; exact hl
  obtain ⟨W0, HW0⟩ : ∃ W0, Hid (W0 = w.alloc (.cells #[.string (S nm), .slice a1 n1 c1, .slice a2 n2 c2] 49)) := ⟨_, rfl⟩
  have hb0 : Below w.heap.size w W0 := by rw [HW0.out]; exact (Below.refl _ _).alloc (Nat.le_refl _) _
  obtain ⟨R, HR⟩ : ∃ R, Hid (numsR [] (m.fields.drop 0) = R) := ⟨_, rfl⟩
  have HN : Hid (numsN m = R) := by show _ = _; rw [← HR.out, ← nums_eq]; rfl
  rw [HN.out]
  go_enter Tryz.func17, Tryz.ntmps17
  go_wp2_with fail
  rw [← HW0.out]
  go_loopg [3, 10] n1 (fun g u i wr => ∃ (k : Nat) (ao : Option Addr) (no co : Nat) (acc : List Int), k + g = n1 ∧ i = .int .i64 k ∧ u = .slice ao no co ∧ Row ekN wr w.heap.size (.slice ao no co) acc ∧ acc.length ≤ k ∧ Hid (numsR acc (m.fields.drop k) = R) ∧ Below w.heap.size w wr)
  case atStart => exact ⟨0, none, 0, 0, [], by omega, rfl, rfl, Row.nil _ _ _, by simp, HR, hb0⟩
  case round =>
    obtain ⟨k, ao, no, co, acc, hk, rfl, rfl, hr, hacc, HK, hb⟩ := hrel
    obtain ⟨wo, Hwo⟩ : ∃ wo, wo = wr := ⟨_, rfl⟩
    subst Hwo
    have hno : no = acc.length := hr.len
    have Hno : Hid (no = acc.length) := hno
    have hnk : no ≤ k := by rw [hno]; exact hacc
    clear hno
    by_cases hlt : k < n1
    · obtain ⟨f, Hf⟩ : ∃ f, Hid (m.fields[k]? = some f) := ⟨m.fields[k]'(by rw [← H1.out]; exact hlt), List.getElem?_eq_getElem (by rw [← H1.out]; exact hlt)⟩
      obtain ⟨b, off, rfl, hat⟩ := (h.below FAt.stays hb).get FAt.plain Hf.out
      obtain ⟨s0, s1, s2, s3, s4, s5⟩ := hat.at
      have hki : (k : Int) < (n1 : Int) := by omega
      have HS := numsR_step Hf.out acc
      obtain ⟨D, HD⟩ : ∃ D, Hid (downN f.number acc acc.length = D) := ⟨_, rfl⟩
      rw [HD.out] at HS
      have hDl : D ≤ no := by rw [← HD.out, Hno.out]; exact downN_le _ _ _
      have HD0 : Hid (downN f.number acc no = D) := by show _ = _; rw [Hno.out]; exact HD.out
      obtain ⟨W1, HW1⟩ : ∃ W1, Hid (W1 = wo.alloc (.cells #[.string (S f.name), .int .i64 f.number, .int .i64 f.kind, .string (S f.type), .bool f.many, .int .i64 f.choice] 53)) := ⟨_, rfl⟩
      have hb1 : Below wo.heap.size wo W1 := by rw [HW1.out]; exact (Below.refl _ _).alloc (Nat.le_refl _) _
      have hz1 : wo.heap.size + 1 ≤ W1.heap.size := by rw [HW1.out]; simp
      have x1 : W1.heap[wo.heap.size]? = some (.cells #[.string (S f.name), .int .i64 f.number, .int .i64 f.kind, .string (S f.type), .bool f.many, .int .i64 f.choice] 53 (0, 0)) := by rw [HW1.out]; exact heap_alloc_new _ _
      have hr1 := hr.below hb1
      clear hat
      go_upto_block 2 with fail
      rw [← HW1.out]
      clear s0 s1 s2 s3 s4 s5 hr
      go_cut [6] from 16 to 29 (fun s6 wc => s6 = .int .i64 (D : Int) ∧ Below W1.heap.size W1 wc)
      case first =>
        go_wp2_with fail
        go_loopg [6] no (fun g i wi => ∃ (a : Nat), a ≤ g ∧ i = .int .i64 (a : Int) ∧ a ≤ no ∧ Hid (downN f.number acc a = D) ∧ Below W1.heap.size W1 wi)
        case atStart => exact ⟨no, Nat.le_refl _, rfl, Nat.le_refl _, HD0, Below.refl _ _⟩
        case round =>
          obtain ⟨a, hag, rfl, han, HA, hbi⟩ := hrel
          obtain ⟨t0, t1, t2, t3, t4, t5⟩ := blk6 ((hbi.block _ (by omega)).trans x1)
          have hri := hr1.below hbi
          by_cases ha0 : a = 0
          · subst ha0
            have hD0 : D = 0 := by rw [← HA.out]; rfl
            subst hD0
            go_wp2_with fail
            go_quiet (fail)
            go_wp2_with fail
            go_meet
            exact ⟨rfl, kB_drewN hbi _⟩
          · obtain ⟨i, rfl⟩ : ∃ i, a = i + 1 := ⟨a - 1, by omega⟩
            obtain ⟨y, Hy⟩ : ∃ y, Hid (acc[i]? = some y) := ⟨acc[i]'(by rw [← Hno.out]; omega), List.getElem?_eq_getElem (by rw [← Hno.out]; omega)⟩
            obtain ⟨g, og, rfl, hga⟩ := hri.rdN.get NAt.plain Hy.out
            have u0 : wr.cell? ⟨g, og + i, none⟩ = some (.int .i64 y) := by simpa [NAt] using hga
            have hA1 := HA.out
            rw [downN, Hy.out] at hA1
            simp only at hA1
            have hin : (i : Int) < (no : Int) := by omega
            have hi0 : (0 : Int) < (i : Int) + 1 := by omega
            have hi1 : 0 < i + 1 := by omega
            clear hga ha0
            by_cases hxy : f.number < y
            · rw [if_pos hxy] at hA1
              have HA1 : Hid (downN f.number acc i = D) := hA1
              clear hA1 HA
              go_wp2_with fail
              go_quiet (fail)
              go_wp2_with fail
              go_roundg i
              case measure => omega
              case rel => exact ⟨i, Nat.le_refl _, by go_num, by omega, HA1, kB_drewN hbi _⟩
            · rw [if_neg hxy] at hA1
              have hD1 : Hid (((i : Int) + 1) = (D : Int)) := by show _ = _; omega
              clear hA1 HA
              go_wp2_with fail
              go_quiet (fail)
              go_wp2_with fail
              go_meet
              exact ⟨by rw [← hD1.out], kB_drewN hbi _⟩
      case rest =>
        obtain ⟨rfl, hbc⟩ := hcut
        have hrc := hr1.below hbc
        have hDi : (D : Int) ≤ (no : Int) := by omega
        have xc := (hbc.block _ (by omega)).trans x1
        obtain ⟨t0, t1, t2, t3, t4, t5⟩ := blk6 xc
        have HF : Hid (numsR (insN f.number acc D) (m.fields.drop (k + 1)) = R) := by show _ = _; rw [← HK.out, HS]
        have hIl : (insN f.number acc D).length ≤ k + 1 := by have := (ins_perm f.number acc D).length_eq; rw [List.length_cons] at this; omega
        have hbW : Below w.heap.size w wc := KBT hb (KBT hb1 hbc)
        have hWs := hbW.size
        obtain ⟨W, HWW⟩ : ∃ W, W = wc := ⟨_, rfl⟩
        subst HWW
        have hwol : wo.heap.size < W.heap.size := (Array.getElem?_eq_some_iff.1 xc).1
        have hd1 : ∀ o, Below W.heap.size W (W.alloc o).drew := fun o => ((Below.refl _ _).alloc (Nat.le_refl _) o).drew
        have hd2 : ∀ o o', Below W.heap.size W ((W.alloc o).alloc o').drew := fun o o' => (((Below.refl _ _).alloc (Nat.le_refl _) o).alloc (by simp) o').drew
        have hc5 : ∀ V, Below W.heap.size W V → V.cell? ⟨wo.heap.size, 1, none⟩ = some (.int .i64 f.number) := fun V hV => cell_below hV t1
        have hEB : ∀ (V : World) (o : Obj) (n c : Nat), ((W.alloc o).alloc (.cells #[.int .i64 f.number] 3)).drew.grownBy V (Value.slice (some ⟨W.heap.size, 0, none⟩) n c).ownBlock → V.heap[W.heap.size + 1]? = some (.cells #[.int .i64 f.number] 3 (0, 0)) := fun V o n c hV => (hV.block (W.heap.size + 1) (by show _ < ((W.alloc o).alloc _).heap.size; simp) (by simp [Value.ownBlock])).trans (alloc2_new W o _)
        have hEC : ∀ (V : World) (o : Obj) (n c : Nat), ((W.alloc (.cells #[.int .i64 f.number] 3)).alloc o).drew.grownBy V (Value.slice (some ⟨W.heap.size + 1, 0, none⟩) n c).ownBlock → V.heap[W.heap.size]? = some (.cells #[.int .i64 f.number] 3 (0, 0)) := fun V o n c hV => (hV.block W.heap.size (by show _ < ((W.alloc _).alloc o).heap.size; simp; omega) (by simp [Value.ownBlock])).trans (alloc2_old W _ o)
        have hby1 : (([] : List Int).length + (acc.take D).length) * ekN.bytes ≤ 140737488355328 := by simp only [List.length_nil, List.length_take, show ekN.bytes = 8 from rfl]; omega
        have hby2 : (([] ++ acc.take D).length + [f.number].length) * ekN.bytes ≤ 140737488355328 := by simp only [List.nil_append, List.length_cons, List.length_nil, List.length_take, show ekN.bytes = 8 from rfl]; omega
        have hby3 : (([] ++ acc.take D ++ [f.number]).length + (acc.drop D).length) * ekN.bytes ≤ 140737488355328 := by simp only [List.nil_append, List.length_append, List.length_cons, List.length_nil, List.length_take, List.length_drop, show ekN.bytes = 8 from rfl]; omega
        have hrt := hrc.short hDl
        rcases hrc.2 with ⟨hv, hn⟩ | ⟨g, cap, cur, hv, hbg, hg, hnc, hmx, hsz, htk0⟩
        · cases hv
          have hD0 : D = 0 := by omega
          subst hD0
          have hac : acc = [] := List.eq_nil_of_length_eq_zero hn
          have hsT : ∀ V, Below W.heap.size W V → RSrc ekN V none 0 0 (acc.take 0) := fun V _ => by rw [hac]; exact rsrc_none ekN V
          have hsD : ∀ V, Below W.heap.size W V → RSrc ekN V none 0 0 (acc.drop 0) := fun V _ => by rw [hac]; exact rsrc_none ekN V
          clear hn hac hrt hrc
          go_wp2_with fail
          go_region_law (first
            | (refine step_appG (by rfl) ekN _ _ (by rfl) W.heap.size (.slice (some ⟨W.heap.size, 0, none⟩) 0 0) [] (acc.take 0) (by rfl) (Row.empR ekN (Nat.le_refl _) (by first | exact heap_alloc_new W _ | exact alloc2_old W _ _)) none 0 0 (by rfl) (hsT W (Below.refl _ _)).1 (hsT W (Below.refl _ _)).2.1 (hsT _ (by first | exact hd1 _ | exact hd2 _ _)).2.2 (by decide) hby1 (Below.size (by first | exact hd1 _ | exact hd2 _ _)) ?_; intro v5 w5 hr5 hg5; obtain ⟨a5, n5, c5, rfl, H5⟩ := hr5.shape'; have hB5 : Below W.heap.size W w5 := RB_app (by first | exact hd1 _ | exact hd2 _ _) (Nat.le_refl _) hg5 (fun k hk => by simp [Value.ownBlock] at hk; omega); have p1 := hc5 w5 hB5; first | have hE5 := hEB _ _ _ _ hg5 | skip)
            | (refine step_appG (by rfl) ekN _ _ (by rfl) W.heap.size (.slice (some ⟨W.heap.size + 1, 0, none⟩) 0 0) [] (acc.take 0) (by rfl) (Row.empR ekN (Nat.le_succ _) (alloc2_new W _ _)) none 0 0 (by rfl) (hsT W (Below.refl _ _)).1 (hsT W (Below.refl _ _)).2.1 (hsT _ (hd2 _ _)).2.2 (by decide) hby1 (Below.size (hd2 _ _)) ?_; intro v5 w5 hr5 hg5; obtain ⟨a5, n5, c5, rfl, H5⟩ := hr5.shape'; have hB5 : Below W.heap.size W w5 := RB_app (hd2 _ _) (Nat.le_refl _) hg5 (fun k hk => by simp [Value.ownBlock] at hk; omega); have p1 := hc5 w5 hB5; have hE5 := hEC _ _ _ _ hg5)
            | (refine step_appG (by rfl) ekN _ _ (by rfl) W.heap.size (.slice a5 n5 c5) ([] ++ acc.take 0) [f.number] (by rfl) (hr5.below ((Below.refl _ _).alloc (Nat.le_refl _) _)) (some ⟨w5.heap.size, 0, none⟩) 1 1 (by rfl) rfl (fun h => by cases h) (kone_src ekN w5 f.number) (by decide) hby2 (by have := hB5.size; simp; omega) ?_; intro v7 w7 hr7 hg7; obtain ⟨a7, n7, c7, rfl, H7⟩ := hr7.shape'; have hB7 : Below W.heap.size W w7 := RB_app (KB_alloc hB5 (Nat.le_refl _) _) (Nat.le_refl _) hg7 (fun k hk => (hr5.own k hk).1))
            | (refine step_appG (by rfl) ekN _ _ (by rfl) W.heap.size (.slice a5 n5 c5) ([] ++ acc.take 0) [f.number] (by rfl) hr5 (some ⟨_, 0, none⟩) 1 1 (by rfl) rfl (fun h => by cases h) (rblk_src ekN hE5) (by decide) hby2 hB5.size ?_; intro v7 w7 hr7 hg7; obtain ⟨a7, n7, c7, rfl, H7⟩ := hr7.shape'; have hB7 : Below W.heap.size W w7 := RB_app hB5 (Nat.le_refl _) hg7 (fun k hk => (hr5.own k hk).1))
            | (refine step_appG (by rfl) ekN _ _ (by rfl) W.heap.size (.slice a7 n7 c7) ([] ++ acc.take 0 ++ [f.number]) (acc.drop 0) (by rfl) hr7 none 0 0 (by rfl) (hsD W (Below.refl _ _)).1 (hsD W (Below.refl _ _)).2.1 (hsD w7 hB7).2.2 (by decide) hby3 hB7.size ?_; intro v9 w9 hr9 hg9; obtain ⟨a9, n9, c9, rfl, H9⟩ := hr9.shape'; have hB9 : Below W.heap.size W w9 := RB_app hB7 (Nat.le_refl _) hg9 (fun k hk => (hr7.own k hk).1))
            | fail)
          all_goals
            have hr9' : Row ekN w9 w.heap.size (.slice a9 n9 c9) (insN f.number acc 0) := by
              unfold insN; rw [List.nil_append] at hr9; exact hr9.mono hWs
            have hB9' : Below w.heap.size w w9 := KBT hbW hB9
            clear hr5 hr7 hr9 hg5 hg7 hg9
            go_wp2_with fail
            go_roundg (n1 - (k + 1))
            case measure => omega
            case rel => exact ⟨k + 1, a9, n9, c9, _, by omega, by go_num, rfl, hr9', hIl, HF, hB9'⟩
        · have hnol : no = acc.length := Hno.out
          have hco : co = cap := by cases hv; rfl
          have hao : ao = some ⟨g, 0, none⟩ := by cases hv; rfl
          subst hao
          have hDc : D ≤ co := by omega
          have hsT : ∀ V, Below W.heap.size W V → RSrc ekN V (some ⟨g, 0, none⟩) D co (acc.take D) := fun V hV => (hrt.rdN.below NAt.stays hV).srcN
          by_cases hcD : co = D
          · subst hcD
            have hsD : ∀ V, Below W.heap.size W V → RSrc ekN V (some ⟨g, 0, none⟩) (no - co) 0 (acc.drop co) := fun V _ => by
              rw [List.drop_of_length_le (by omega), show no - co = 0 by omega]; exact rsrc_end ekN V _ _
            clear hv hnol hco hrc hrt
            go_wp2_with fail
            go_region_law (first
            | (refine step_appG (by rfl) ekN _ _ (by rfl) W.heap.size (.slice (some ⟨W.heap.size, 0, none⟩) 0 0) [] (acc.take co) (by rfl) (Row.empR ekN (Nat.le_refl _) (by first | exact heap_alloc_new W _ | exact alloc2_old W _ _)) (some ⟨g, 0, none⟩) co co (by rfl) (hsT W (Below.refl _ _)).1 (hsT W (Below.refl _ _)).2.1 (hsT _ (by first | exact hd1 _ | exact hd2 _ _)).2.2 (by decide) hby1 (Below.size (by first | exact hd1 _ | exact hd2 _ _)) ?_; intro v5 w5 hr5 hg5; obtain ⟨a5, n5, c5, rfl, H5⟩ := hr5.shape'; have hB5 : Below W.heap.size W w5 := RB_app (by first | exact hd1 _ | exact hd2 _ _) (Nat.le_refl _) hg5 (fun k hk => by simp [Value.ownBlock] at hk; omega); have p1 := hc5 w5 hB5; first | have hE5 := hEB _ _ _ _ hg5 | skip)
            | (refine step_appG (by rfl) ekN _ _ (by rfl) W.heap.size (.slice (some ⟨W.heap.size + 1, 0, none⟩) 0 0) [] (acc.take co) (by rfl) (Row.empR ekN (Nat.le_succ _) (alloc2_new W _ _)) (some ⟨g, 0, none⟩) co co (by rfl) (hsT W (Below.refl _ _)).1 (hsT W (Below.refl _ _)).2.1 (hsT _ (hd2 _ _)).2.2 (by decide) hby1 (Below.size (hd2 _ _)) ?_; intro v5 w5 hr5 hg5; obtain ⟨a5, n5, c5, rfl, H5⟩ := hr5.shape'; have hB5 : Below W.heap.size W w5 := RB_app (hd2 _ _) (Nat.le_refl _) hg5 (fun k hk => by simp [Value.ownBlock] at hk; omega); have p1 := hc5 w5 hB5; have hE5 := hEC _ _ _ _ hg5)
            | (refine step_appG (by rfl) ekN _ _ (by rfl) W.heap.size (.slice a5 n5 c5) ([] ++ acc.take co) [f.number] (by rfl) (hr5.below ((Below.refl _ _).alloc (Nat.le_refl _) _)) (some ⟨w5.heap.size, 0, none⟩) 1 1 (by rfl) rfl (fun h => by cases h) (kone_src ekN w5 f.number) (by decide) hby2 (by have := hB5.size; simp; omega) ?_; intro v7 w7 hr7 hg7; obtain ⟨a7, n7, c7, rfl, H7⟩ := hr7.shape'; have hB7 : Below W.heap.size W w7 := RB_app (KB_alloc hB5 (Nat.le_refl _) _) (Nat.le_refl _) hg7 (fun k hk => (hr5.own k hk).1))
            | (refine step_appG (by rfl) ekN _ _ (by rfl) W.heap.size (.slice a5 n5 c5) ([] ++ acc.take co) [f.number] (by rfl) hr5 (some ⟨_, 0, none⟩) 1 1 (by rfl) rfl (fun h => by cases h) (rblk_src ekN hE5) (by decide) hby2 hB5.size ?_; intro v7 w7 hr7 hg7; obtain ⟨a7, n7, c7, rfl, H7⟩ := hr7.shape'; have hB7 : Below W.heap.size W w7 := RB_app hB5 (Nat.le_refl _) hg7 (fun k hk => (hr5.own k hk).1))
            | (refine step_appG (by rfl) ekN _ _ (by rfl) W.heap.size (.slice a7 n7 c7) ([] ++ acc.take co ++ [f.number]) (acc.drop co) (by rfl) hr7 (some ⟨g, 0, none⟩) (no - co) 0 (by rfl) (hsD W (Below.refl _ _)).1 (hsD W (Below.refl _ _)).2.1 (hsD w7 hB7).2.2 (by decide) hby3 hB7.size ?_; intro v9 w9 hr9 hg9; obtain ⟨a9, n9, c9, rfl, H9⟩ := hr9.shape'; have hB9 : Below W.heap.size W w9 := RB_app hB7 (Nat.le_refl _) hg9 (fun k hk => (hr7.own k hk).1))
            | fail)
            all_goals
              have hr9' : Row ekN w9 w.heap.size (.slice a9 n9 c9) (insN f.number acc co) := by
                unfold insN; rw [List.nil_append] at hr9; exact hr9.mono hWs
              have hB9' : Below w.heap.size w w9 := KBT hbW hB9
              clear hr5 hr7 hr9 hg5 hg7 hg9
              go_wp2_with fail
              go_roundg (n1 - (k + 1))
              case measure => omega
              case rel => exact ⟨k + 1, a9, n9, c9, _, by omega, by go_num, rfl, hr9', hIl, HF, hB9'⟩
          · have hsD : ∀ V, Below W.heap.size W V → RSrc ekN V (some ⟨g, D, none⟩) (no - D) (co - D) (acc.drop D) := fun V hV => rsrc_drop (hrc.rdN.below NAt.stays hV)
            clear hv hnol hco hrc hrt
            go_wp2_with fail
            go_region_law (first
            | (refine step_appG (by rfl) ekN _ _ (by rfl) W.heap.size (.slice (some ⟨W.heap.size, 0, none⟩) 0 0) [] (acc.take D) (by rfl) (Row.empR ekN (Nat.le_refl _) (by first | exact heap_alloc_new W _ | exact alloc2_old W _ _)) (some ⟨g, 0, none⟩) D co (by rfl) (hsT W (Below.refl _ _)).1 (hsT W (Below.refl _ _)).2.1 (hsT _ (by first | exact hd1 _ | exact hd2 _ _)).2.2 (by decide) hby1 (Below.size (by first | exact hd1 _ | exact hd2 _ _)) ?_; intro v5 w5 hr5 hg5; obtain ⟨a5, n5, c5, rfl, H5⟩ := hr5.shape'; have hB5 : Below W.heap.size W w5 := RB_app (by first | exact hd1 _ | exact hd2 _ _) (Nat.le_refl _) hg5 (fun k hk => by simp [Value.ownBlock] at hk; omega); have p1 := hc5 w5 hB5; first | have hE5 := hEB _ _ _ _ hg5 | skip)
            | (refine step_appG (by rfl) ekN _ _ (by rfl) W.heap.size (.slice (some ⟨W.heap.size + 1, 0, none⟩) 0 0) [] (acc.take D) (by rfl) (Row.empR ekN (Nat.le_succ _) (alloc2_new W _ _)) (some ⟨g, 0, none⟩) D co (by rfl) (hsT W (Below.refl _ _)).1 (hsT W (Below.refl _ _)).2.1 (hsT _ (hd2 _ _)).2.2 (by decide) hby1 (Below.size (hd2 _ _)) ?_; intro v5 w5 hr5 hg5; obtain ⟨a5, n5, c5, rfl, H5⟩ := hr5.shape'; have hB5 : Below W.heap.size W w5 := RB_app (hd2 _ _) (Nat.le_refl _) hg5 (fun k hk => by simp [Value.ownBlock] at hk; omega); have p1 := hc5 w5 hB5; have hE5 := hEC _ _ _ _ hg5)
            | (refine step_appG (by rfl) ekN _ _ (by rfl) W.heap.size (.slice a5 n5 c5) ([] ++ acc.take D) [f.number] (by rfl) (hr5.below ((Below.refl _ _).alloc (Nat.le_refl _) _)) (some ⟨w5.heap.size, 0, none⟩) 1 1 (by rfl) rfl (fun h => by cases h) (kone_src ekN w5 f.number) (by decide) hby2 (by have := hB5.size; simp; omega) ?_; intro v7 w7 hr7 hg7; obtain ⟨a7, n7, c7, rfl, H7⟩ := hr7.shape'; have hB7 : Below W.heap.size W w7 := RB_app (KB_alloc hB5 (Nat.le_refl _) _) (Nat.le_refl _) hg7 (fun k hk => (hr5.own k hk).1))
            | (refine step_appG (by rfl) ekN _ _ (by rfl) W.heap.size (.slice a5 n5 c5) ([] ++ acc.take D) [f.number] (by rfl) hr5 (some ⟨_, 0, none⟩) 1 1 (by rfl) rfl (fun h => by cases h) (rblk_src ekN hE5) (by decide) hby2 hB5.size ?_; intro v7 w7 hr7 hg7; obtain ⟨a7, n7, c7, rfl, H7⟩ := hr7.shape'; have hB7 : Below W.heap.size W w7 := RB_app hB5 (Nat.le_refl _) hg7 (fun k hk => (hr5.own k hk).1))
            | (refine step_appG (by rfl) ekN _ _ (by rfl) W.heap.size (.slice a7 n7 c7) ([] ++ acc.take D ++ [f.number]) (acc.drop D) (by rfl) hr7 (some ⟨g, D, none⟩) (no - D) (co - D) (by rfl) (hsD W (Below.refl _ _)).1 (hsD W (Below.refl _ _)).2.1 (hsD w7 hB7).2.2 (by decide) hby3 hB7.size ?_; intro v9 w9 hr9 hg9; obtain ⟨a9, n9, c9, rfl, H9⟩ := hr9.shape'; have hB9 : Below W.heap.size W w9 := RB_app hB7 (Nat.le_refl _) hg9 (fun k hk => (hr7.own k hk).1))
            | fail)
            all_goals
              have hr9' : Row ekN w9 w.heap.size (.slice a9 n9 c9) (insN f.number acc D) := by
                unfold insN; rw [List.nil_append] at hr9; exact hr9.mono hWs
              have hB9' : Below w.heap.size w w9 := KBT hbW hB9
              clear hr5 hr7 hr9 hg5 hg7 hg9
              go_wp2_with fail
              go_roundg (n1 - (k + 1))
              case measure => omega
              case rel => exact ⟨k + 1, a9, n9, c9, _, by omega, by go_num, rfl, hr9', hIl, HF, hB9'⟩
    · have HF : Hid (R = acc) := by show _ = _; rw [← HK.out, List.drop_of_length_le (by rw [← H1.out]; omega)]; rfl
      go_wp2
      go_ret
      exact ⟨ao, no, co, rfl, by rw [HF.out]; exact hr, hb⟩

end L
end Go.Proofs.YthgbiflfinddiaaGreat

