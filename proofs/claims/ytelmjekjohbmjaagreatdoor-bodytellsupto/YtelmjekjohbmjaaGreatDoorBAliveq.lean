import Derived.Test.YtelmjekjohbmjaaGreatDoorBJoinq
import Derived.Test.YtelmjekjohbmjaaGreatDoorM22
import Derived.Test.YtelmjekjohbmjaaGreatDoorM09
/- The contract of alive (chapter 4). -/
namespace Go.Proofs.YtelmjekjohbmjaaGreatDoor
namespace L
open Go.RowKit
set_option linter.unusedVariables false

def aliveG4 : GI := ⟨[⟨[65], [⟨[120], 1, 1, [], false, 0⟩, ⟨[121], 2, 8, [], true, 0⟩], []⟩], []⟩
def aliveB4 : BO (BI 0) := ⟨[⟨1, [5], [], []⟩, ⟨2, [], [[113]], []⟩], []⟩
def aliveC4 : BO (BI 0) := ⟨[⟨1, [5], [], []⟩, ⟨2, [], [[113], [113]], []⟩], []⟩
theorem alive_wrong4 : wrongB aliveG4 0 0 aliveB4 = 0 := by decide +kernel
theorem alive_jerr4 : jerrN aliveG4 0 0 aliveB4 aliveB4 = 0 := by decide +kernel
theorem alive_join4 : jnB aliveG4.msgs (0 + 1) ⟨[65], [⟨[120], 1, 1, [], false, 0⟩, ⟨[121], 2, 8, [], true, 0⟩], []⟩ aliveB4 aliveB4 = aliveC4 := by kernel_rfl
theorem alive_fits4 : Fits aliveG4 := by
  refine ⟨fun m hm => ?_, fun e he => by cases he⟩
  simp only [aliveG4, List.mem_singleton] at hm
  subst hm
  refine ⟨by decide, fun f hf => ?_⟩
  simp only [List.mem_cons, List.mem_nil_iff, or_false] at hf
  rcases hf with rfl | rfl <;> decide
theorem alive_fok4 : ∀ M ∈ aliveG4.msgs, (∀ f ∈ M.fields, I64 f.number ∧ I64 f.choice) ∧ M.fields.length ≤ 140737488355328 := by
  intro m hm
  simp only [aliveG4, List.mem_singleton] at hm
  subst hm
  refine ⟨fun f hf => ?_, by decide⟩
  simp only [List.mem_cons, List.mem_nil_iff, or_false] at hf
  rcases hf with rfl | rfl <;> exact ⟨⟨by decide, by decide⟩, by decide, by decide⟩
theorem alive_ok4 : BOk (0 + 1) aliveB4 := by
  refine ⟨fun v hv => ?_, by decide, (fun r hr => by cases hr), by decide⟩
  have hv' : v ∈ [(⟨1, [5], [], []⟩ : VI (BI 0)), ⟨2, [], [[113]], []⟩] := hv
  simp only [List.mem_cons, List.mem_nil_iff, or_false] at hv'
  rcases hv' with rfl | rfl
  · exact ⟨⟨by decide, by decide⟩, by simp, by decide, by simp, by decide, by simp, by decide⟩
  · exact ⟨⟨by decide, by decide⟩, by simp, by decide, by simp [reachBytes], by decide, by simp, by decide⟩
theorem alive_win4 {w : World} {a : Option Addr} {n c : Nat} (hg : GRd w (.slice a n c) (.slice none 0 0) aliveG4) (hT : Tabs w) : WIn aliveG4 a n c none 0 0 0 w := ⟨hg, by decide, by decide, alive_fits4, alive_fok4, hT, by decide, by decide⟩
theorem rdl_blk {α : Type} {sz n : Nat} {P : World → Addr → α → Prop} {w : World} {g : Nat} {l : List α} (hl : l.length = n) (hn : n ≤ 1000000) (hat : ∀ k a, l[k]? = some a → P w ⟨g, k * sz, none⟩ a) : RdL sz P w (.slice (some ⟨g, 0, none⟩) n n) l :=
  ⟨_, n, n, rfl, hl, Nat.le_refl _, by unfold maxLen; omega, (fun e => by cases e), fun x hx k a ha => by cases hx; rw [add_plain, Nat.zero_add]; exact hat k a ha⟩
set_option maxHeartbeats 2000000 in
set_option maxRecDepth 100000 in
theorem afile_any (w : World) : Calls Tryz.prog 44 #[] w fun e w' => ∃ a n c, e = .returned (.agg #[.slice a n c, .slice none 0 0]) ∧ GRd w' (.slice a n c) (.slice none 0 0) aliveG4 ∧ Below w.heap.size w w' := by
  obtain ⟨X, HX⟩ : ∃ X, Hid (X = ((w.alloc (.cells #[.slice (some ⟨w.heap.size + 1 + 1, 0, none⟩) 1 1, .slice none 0 0] 25)).alloc (.cells #[.string ⟨#[120]⟩, .int .i64 1, .int .i64 1, .string ⟨#[]⟩, .bool false, .int .i64 0, .string ⟨#[121]⟩, .int .i64 2, .int .i64 8, .string ⟨#[]⟩, .bool true, .int .i64 0] 53)).alloc (.cells #[.string ⟨#[65]⟩, .slice (some ⟨w.heap.size + 1, 0, none⟩) 2 2, .slice none 0 0] 48)) := ⟨_, rfl⟩
  obtain ⟨x3, x2, x1⟩ := alloc3 w (.cells #[.slice (some ⟨w.heap.size + 1 + 1, 0, none⟩) 1 1, .slice none 0 0] 25) (.cells #[.string ⟨#[120]⟩, .int .i64 1, .int .i64 1, .string ⟨#[]⟩, .bool false, .int .i64 0, .string ⟨#[121]⟩, .int .i64 2, .int .i64 8, .string ⟨#[]⟩, .bool true, .int .i64 0] 53) (.cells #[.string ⟨#[65]⟩, .slice (some ⟨w.heap.size + 1, 0, none⟩) 2 2, .slice none 0 0] 48)
  rw [← HX.out] at x1 x2 x3
  have hb : Below w.heap.size w X := by rw [HX.out]; exact (((Below.refl _ _).alloc (Nat.le_refl _) _).alloc (by simp) _).alloc (by simp; omega) _
  have hrf : RdL 6 FAt X (.slice (some ⟨w.heap.size + 1, 0, none⟩) 2 2) [⟨[120], 1, 1, [], false, 0⟩, ⟨[121], 2, 8, [], true, 0⟩] := by
    refine rdl_blk rfl (by decide) fun k a ha => ?_
    match k, ha with
    | 0, ha =>
      have ha : (⟨[120], 1, 1, [], false, 0⟩ : FI) = a := by simpa using ha
      subst ha
      refine ⟨cell_of_blk x2 0 _ rfl, ?_, ?_, ?_, ?_, ?_⟩ <;> rw [add_plain]
      · exact cell_of_blk x2 1 _ rfl
      · exact cell_of_blk x2 2 _ rfl
      · exact cell_of_blk x2 3 _ rfl
      · exact cell_of_blk x2 4 _ rfl
      · exact cell_of_blk x2 5 _ rfl
    | 1, ha =>
      have ha : (⟨[121], 2, 8, [], true, 0⟩ : FI) = a := by simpa using ha
      subst ha
      refine ⟨cell_of_blk x2 6 _ rfl, ?_, ?_, ?_, ?_, ?_⟩ <;> rw [add_plain]
      · exact cell_of_blk x2 7 _ rfl
      · exact cell_of_blk x2 8 _ rfl
      · exact cell_of_blk x2 9 _ rfl
      · exact cell_of_blk x2 10 _ rfl
      · exact cell_of_blk x2 11 _ rfl
    | k + 2, ha => simp at ha
  have hrm : RdL 3 MAt X (.slice (some ⟨w.heap.size + 1 + 1, 0, none⟩) 1 1) aliveG4.msgs := by
    refine rdl_blk rfl (by decide) fun k a ha => ?_
    match k, ha with
    | 0, ha =>
      have ha : (⟨[65], [⟨[120], 1, 1, [], false, 0⟩, ⟨[121], 2, 8, [], true, 0⟩], []⟩ : MI) = a := by simpa [aliveG4] using ha
      subst ha
      refine ⟨_, _, cell_of_blk x3 0 _ rfl, ?_, ?_, hrf, RdL.nil _ _ _⟩ <;> rw [add_plain]
      · exact cell_of_blk x3 1 _ rfl
      · exact cell_of_blk x3 2 _ rfl
    | k + 1, ha => simp [aliveG4] at ha
  have y0 : X.cell? ⟨w.heap.size, 0, none⟩ = some (.slice (some ⟨w.heap.size + 1 + 1, 0, none⟩) 1 1) := cell_of_blk x1 0 _ rfl
  have y1 : X.cell? ⟨w.heap.size, 1, none⟩ = some (.slice none 0 0) := cell_of_blk x1 1 _ rfl
  go_enter Tryz.func44, Tryz.ntmps44
  go_wp2_with fail
  rw [← HX.out]
  refine bodyPost_ret (v := .agg #[.slice (some ⟨w.heap.size + 1 + 1, 0, none⟩) 1 1, .slice none 0 0]) (by simp [results, Tryz.results44, go_sem, y0, y1]) rfl ?_
  exact ⟨_, _, _, rfl, ⟨hrm, RdL.nil _ _ _⟩, hb⟩

set_option maxHeartbeats 4000000 in
set_option maxRecDepth 100000 in
theorem alive4_any (w : World) (hT : Tabs w) : Calls Tryz.prog 21 #[] w fun e w' => e = .returned (.bool true) ∧ Below w.heap.size w w' := by
  obtain ⟨X, HX⟩ : ∃ X, Hid (X = ((((w.alloc (.cells #[.int .u64 5] 35)).alloc (.cells #[.int .u8 113] 5)).alloc (.cells #[.slice (some ⟨w.heap.size + 1, 0, none⟩) 1 1] 68)).alloc (.cells #[.int .i64 1, .slice (some ⟨w.heap.size, 0, none⟩) 1 1, .slice none 0 0, .slice none 0 0, .int .i64 2, .slice none 0 0, .slice (some ⟨w.heap.size + 1 + 1, 0, none⟩) 1 1, .slice none 0 0] 34)).alloc (.cells #[.slice (some ⟨w.heap.size + 1 + 1 + 1, 0, none⟩) 2 2, .slice none 0 0] 29)) := ⟨_, rfl⟩
  obtain ⟨x0, x1, x2, x3, x4, xz⟩ := alloc5 w (.cells #[.int .u64 5] 35) (.cells #[.int .u8 113] 5) (.cells #[.slice (some ⟨w.heap.size + 1, 0, none⟩) 1 1] 68) (.cells #[.int .i64 1, .slice (some ⟨w.heap.size, 0, none⟩) 1 1, .slice none 0 0, .slice none 0 0, .int .i64 2, .slice none 0 0, .slice (some ⟨w.heap.size + 1 + 1, 0, none⟩) 1 1, .slice none 0 0] 34) (.cells #[.slice (some ⟨w.heap.size + 1 + 1 + 1, 0, none⟩) 2 2, .slice none 0 0] 29)
  rw [← HX.out] at x0 x1 x2 x3 x4 xz
  have hbX : Below w.heap.size w X := by rw [HX.out]; exact (((((Below.refl _ _).alloc (Nat.le_refl _) _).alloc (by simp) _).alloc (by simp; omega) _).alloc (by simp; omega) _).alloc (by simp; omega) _
  have xz' := Nat.le_of_eq xz.symm
  have hlu : RdL 1 UAt X (.slice (some ⟨w.heap.size, 0, none⟩) 1 1) [5] := by
    refine rdl_blk rfl (by decide) fun k a ha => ?_
    match k, ha with
    | 0, ha =>
      have ha : 5 = a := by simpa using ha
      subst ha
      exact cell_of_blk x0 0 _ rfl
    | k + 1, ha => simp at ha
  have hly : RdL 1 YAt X (.slice (some ⟨w.heap.size + 1, 0, none⟩) 1 1) [113] := by
    refine rdl_blk rfl (by decide) fun k a ha => ?_
    match k, ha with
    | 0, ha =>
      have ha : (113 : UInt8) = a := by simpa using ha
      subst ha
      exact cell_of_blk x1 0 _ rfl
    | k + 1, ha => simp at ha
  have hlz : RdL 1 ZAt X (.slice (some ⟨w.heap.size + 1 + 1, 0, none⟩) 1 1) [[113]] := by
    refine rdl_blk rfl (by decide) fun k a ha => ?_
    match k, ha with
    | 0, ha =>
      have ha : [(113 : UInt8)] = a := by simpa using ha
      subst ha
      exact ⟨_, cell_of_blk x2 0 _ rfl, hly⟩
    | k + 1, ha => simp at ha
  have hrv : BRd 0 X (.slice (some ⟨w.heap.size + 1 + 1 + 1, 0, none⟩) 2 2) (.slice none 0 0) aliveB4 := by
    refine ⟨rdl_blk rfl (by decide) fun k a ha => ?_, RdL.nil _ _ _⟩
    match k, ha with
    | 0, ha =>
      have ha : (⟨1, [5], [], []⟩ : VI (BI 0)) = a := by simpa [aliveB4] using ha
      subst ha
      refine ⟨_, _, _, cell_of_blk x3 0 _ rfl, ?_, ?_, ?_, hlu, RdL.nil _ _ _, RdL.nil _ _ _⟩ <;> rw [add_plain]
      · exact cell_of_blk x3 1 _ rfl
      · exact cell_of_blk x3 2 _ rfl
      · exact cell_of_blk x3 3 _ rfl
    | 1, ha =>
      have ha : (⟨2, [], [[113]], []⟩ : VI (BI 0)) = a := by simpa [aliveB4] using ha
      subst ha
      refine ⟨_, _, _, cell_of_blk x3 4 _ rfl, ?_, ?_, ?_, RdL.nil _ _ _, hlz, RdL.nil _ _ _⟩ <;> rw [add_plain]
      · exact cell_of_blk x3 5 _ rfl
      · exact cell_of_blk x3 6 _ rfl
      · exact cell_of_blk x3 7 _ rfl
    | k + 2, ha => simp [aliveB4] at ha
  have hD : Below X.heap.size X X.drew := (Below.refl _ _).drew
  have hAl : ∀ V o, Below X.heap.size X V → Below X.heap.size X (V.alloc o) := fun V o hV => hV.alloc hV.size o
  have hcl : ∀ V, Below X.heap.size X V → V.cell? ⟨w.heap.size + 4, 0, none⟩ = some (.slice (some ⟨w.heap.size + 1 + 1 + 1, 0, none⟩) 2 2) ∧ V.cell? ⟨w.heap.size + 4, 1, none⟩ = some (.slice none 0 0) := fun V hV => blk2 ((hV.block _ (by omega)).trans x4)
  have hfil : ∀ V, Below X.heap.size X V → Calls Tryz.prog 44 #[] V fun e w' => ∃ a n c, e = .returned (.agg #[.slice a n c, .slice none 0 0]) ∧ GRd w' (.slice a n c) (.slice none 0 0) aliveG4 ∧ Below X.heap.size X w' ∧ Below V.heap.size V w' := fun V hV => (afile_any V).mono fun e w' ⟨a, n, c, h1, h2, h3⟩ => ⟨a, n, c, h1, h2, BTr hV h3, h3⟩
  have hjn : ∀ V a n c, Below X.heap.size X V → GRd V (.slice a n c) (.slice none 0 0) aliveG4 → Calls Tryz.prog 12 #[.agg #[.slice a n c, .slice none 0 0], .int .i64 0, .agg #[.slice (some ⟨w.heap.size + 1 + 1 + 1, 0, none⟩) 2 2, .slice none 0 0], .agg #[.slice (some ⟨w.heap.size + 1 + 1 + 1, 0, none⟩) 2 2, .slice none 0 0]] V fun e w' => ∃ (e0 : Option Addr) (f0 g0 : Nat) (e1 : Option Addr) (f1 g1 : Nat), e = .returned (.tuple #[.agg #[.slice e0 f0 g0, .slice e1 f1 g1], .int .i64 0]) ∧ Hid (∃ c : LB (0 + 1), encB (0 + 1) c = [.slice e0 f0 g0, .slice e1 f1 g1] ∧ LB.pl (0 + 1) c = aliveC4 ∧ OwnB V.heap.size (0 + 1) w' c) ∧ Below X.heap.size X w' ∧ Below V.heap.size V w' := fun V a n c hV hg => by
    have hbV : Below w.heap.size w V := BTr hbX hV
    refine (join_any (alive_win4 hg (hT.below hbV)) (hrv.below hV) alive_ok4 (hrv.below hV) alive_ok4 (by decide +kernel)).mono ?_
    rintro e w' ⟨hb, ⟨hne, _⟩ | ⟨_, M, e0, f0, g0, e1, f1, g1, _, _, hM, _, rfl, c, h1, h2, h3⟩⟩
    · exact absurd alive_jerr4 hne
    · obtain rfl : (⟨[65], [⟨[120], 1, 1, [], false, 0⟩, ⟨[121], 2, 8, [], true, 0⟩], []⟩ : MI) = M := Option.some.inj hM
      rw [alive_join4] at h2
      exact ⟨e0, f0, g0, e1, f1, g1, rfl, ⟨c, h1, h2, h3⟩, BTr hV hb, hb⟩
  have HT : Hid _ := hT
  have HRV : Hid _ := hrv
  have HX4 : Hid _ := x4
  clear x0 x1 x2 x3 x4 xz hlu hly hlz hrv hT
  go_enter Tryz.func21, Tryz.ntmps21
  go_wp2_with fail
  rw [← HX.out]
  go_cut [2, 3] from 13 to 19 (fun s2 s3 wc => ∃ (K : Nat) (e0 : Option Addr) (f0 g0 : Nat) (e1 : Option Addr) (f1 g1 : Nat), s2 = .pointer (some ⟨K, 0, none⟩) ∧ s3 = .int .i64 0 ∧ X.heap.size ≤ K ∧ wc.heap[K]? = some (.cells #[.slice e0 f0 g0, .slice e1 f1 g1] 29 (0, 0)) ∧ Hid (BRd 0 wc (.slice e0 f0 g0) (.slice e1 f1 g1) aliveC4) ∧ Below X.heap.size X wc)
  case first =>
    refine wp_region_held_drew (S := fun V => Below X.heap.size X V) (by kernel_rfl) hD (fun hHeld => ?_)
    refine wpAnyH_take (i := 1) (v := ?va1) rfl (by kernel_rfl) (by kernel_rfl) (by kernel_rfl) (fun _ _ _ h => h) (Or.inl ⟨by rfl, ?hya1⟩) (by assumption) ?_
    case hya1 => (intro W hSw; obtain ⟨o1, o2⟩ := hcl W hSw; go_simp; first | done | with_reducible rfl)
    try simp only [Act.put, List.setIfInBounds_toArray]
    refine wpAnyH_take (i := 2) (v := ?va2) rfl (by kernel_rfl) (by kernel_rfl) (by kernel_rfl) (fun _ _ _ h => h) (Or.inl ⟨by rfl, ?hya2⟩) (by assumption) ?_
    case hya2 => (intro W hSw; obtain ⟨o1, o2⟩ := hcl W hSw; go_simp; first | done | with_reducible rfl)
    try simp only [Act.put]
    refine wpAnyH_ready (rs := [0, 7]) (by kernel_rfl) (by simp) ?_
    refine AllReadyH.cons rfl (fun K hK => ?_) (AllReadyH.cons rfl (fun K hK => ?_) AllReadyH.nil)
    · skip
      go_simp
      refine (hfil _ hD).mono ?_
      rintro e Vf ⟨am, nm, cm, rfl, hg, hbf, hbF⟩
      refine hK.out _ _ ?_ (fun hHeld => ?_)
      · (try dsimp only); first | with_reducible exact hD | with_reducible exact hbj | with_reducible exact hAl _ _ hbj | with_reducible exact hbf | with_reducible exact hAl _ _ hbf | with_reducible exact hAl _ _ hD | exact hAl _ _ hD | exact b4set (b4set hbj (by have := hbf.size; omega)) (by have := hbf.size; omega)
      clear hK K
      try simp only [Act.put, List.setIfInBounds_toArray, List.set_cons_zero, List.set_cons_succ]
      refine wpAnyH_ready (rs := [3, 7]) (by kernel_rfl) (by simp) ?_
      refine AllReadyH.cons rfl (fun K hK => ?_) (AllReadyH.cons rfl (fun K hK => ?_) AllReadyH.nil)
      · skip
        go_simp
        refine (hjn _ am nm cm hbf hg).mono ?_
        rintro e wJ ⟨e0, f0, g0, e1, f1, g1, rfl, HC, hbj, hbJ⟩
        refine hK.out _ _ ?_ (fun hHeld => ?_)
        · (try dsimp only); first | with_reducible exact hD | with_reducible exact hbj | with_reducible exact hAl _ _ hbj | with_reducible exact hbf | with_reducible exact hAl _ _ hbf | with_reducible exact hAl _ _ hD | exact hAl _ _ hD | exact b4set (b4set hbj (by have := hbf.size; omega)) (by have := hbf.size; omega)
        clear hK K
        try simp only [Act.put, List.setIfInBounds_toArray, List.set_cons_zero, List.set_cons_succ]
        refine wpAnyH_take (i := 4) (v := ?va3) rfl (by kernel_rfl) (by kernel_rfl) (by kernel_rfl) (fun _ _ _ h => h) (Or.inl ⟨by rfl, ?hya3⟩) (by assumption) ?_
        case hya3 => (intro W hSw; obtain ⟨o1, o2⟩ := hcl W hSw; go_simp; first | done | with_reducible rfl)
        try simp only [Act.put, List.setIfInBounds_toArray]
        refine wpAnyH_take (i := 5) (v := ?va4) rfl (by kernel_rfl) (by kernel_rfl) (by kernel_rfl) (fun _ _ _ h => h) (Or.inl ⟨by rfl, ?hya4⟩) (by assumption) ?_
        case hya4 => (intro W hSw; obtain ⟨o1, o2⟩ := hcl W hSw; go_simp; first | done | with_reducible rfl)
        try simp only [Act.put]
        refine wpAnyH_take (i := 6) (v := ?va5) rfl (by kernel_rfl) (by kernel_rfl) (by kernel_rfl) (fun _ _ _ h => h) (Or.inl ⟨by rfl, ?hya5⟩) (by assumption) ?_
        case hya5 => (intro W hSw; obtain ⟨o1, o2⟩ := hcl W hSw; go_simp; first | done | with_reducible rfl)
        try simp only [Act.put]
        refine wpAnyH_ready (rs := [7]) (by kernel_rfl) (by simp) ?_
        refine AllReadyH.cons rfl (fun K hK => ?_) AllReadyH.nil
        go_simp
        refine hK.out _ _ ?_ (fun hHeld => ?_)
        · (try dsimp only); first | with_reducible exact hD | with_reducible exact hbj | with_reducible exact hAl _ _ hbj | with_reducible exact hbf | with_reducible exact hAl _ _ hbf | with_reducible exact hAl _ _ hD | exact hAl _ _ hD | exact b4set (b4set hbj (by have := hbf.size; omega)) (by have := hbf.size; omega)
        clear hK K
        try simp only [Act.put, List.setIfInBounds_toArray, List.set_cons_zero, List.set_cons_succ]
        refine wpAnyH_ready (rs := [8]) (by kernel_rfl) (by simp) ?_
        refine AllReadyH.cons rfl (fun K hK => ?_) AllReadyH.nil
        go_simp
        refine hK.out _ _ ?_ (fun hHeld => ?_)
        · (try dsimp only); first | with_reducible exact hD | with_reducible exact hbj | with_reducible exact hAl _ _ hbj | with_reducible exact hbf | with_reducible exact hAl _ _ hbf | with_reducible exact hAl _ _ hD | exact hAl _ _ hD | exact b4set (b4set hbj (by have := hbf.size; omega)) (by have := hbf.size; omega)
        clear hK K
        try simp only [Act.put, List.setIfInBounds_toArray, List.set_cons_zero, List.set_cons_succ]
        refine wpAnyH_ready (rs := [9]) (by kernel_rfl) (by simp) ?_
        refine AllReadyH.cons rfl (fun K hK => ?_) AllReadyH.nil
        go_simp
        refine hK.out _ _ ?_ (fun hHeld => ?_)
        · (try dsimp only); first | with_reducible exact hD | with_reducible exact hbj | with_reducible exact hAl _ _ hbj | with_reducible exact hbf | with_reducible exact hAl _ _ hbf | with_reducible exact hAl _ _ hD | exact hAl _ _ hD | exact b4set (b4set hbj (by have := hbf.size; omega)) (by have := hbf.size; omega)
        clear hK K
        try simp only [Act.put, List.setIfInBounds_toArray, List.set_cons_zero, List.set_cons_succ]
        refine wpAnyH_done (by kernel_rfl) ?_ _
        go_wp2_with fail
        go_meet
        obtain ⟨c, h1, h2, h3⟩ := HC.out
        exact ⟨_, e0, f0, g0, e1, f1, g1, rfl, rfl, hbj.size, heap_alloc_new _ _, own_rd h1 h2 (h3.below ((Below.refl _ _).alloc (Nat.le_refl _) _)), hAl _ _ hbj⟩
      · skip
        go_simp
        refine hK.out _ _ ?_ (fun hHeld => ?_)
        · (try dsimp only); first | with_reducible exact hD | with_reducible exact hbj | with_reducible exact hAl _ _ hbj | with_reducible exact hbf | with_reducible exact hAl _ _ hbf | with_reducible exact hAl _ _ hD | exact hAl _ _ hD | exact b4set (b4set hbj (by have := hbf.size; omega)) (by have := hbf.size; omega)
        clear hK K
        try simp only [Act.put, List.setIfInBounds_toArray, List.set_cons_zero, List.set_cons_succ]
        refine wpAnyH_ready (rs := [3]) (by kernel_rfl) (by simp) ?_
        refine AllReadyH.cons rfl (fun K hK => ?_) AllReadyH.nil
        go_simp
        refine (hjn _ am nm cm (hAl _ _ hbf) (hg.below ((Below.refl _ _).alloc (Nat.le_refl _) _))).mono ?_
        rintro e wJ ⟨e0, f0, g0, e1, f1, g1, rfl, HC, hbj, hbJ⟩
        have sX : Vf.heap.size < (Vf.alloc (.cells #[.slice none 0 0, .slice none 0 0] 29)).heap.size := by simp
        have kZ := (hbJ.block Vf.heap.size sX).trans (heap_alloc_new _ _)
        obtain ⟨z0', z1'⟩ := blk2 kZ
        have zf0 := fr_of_blk kZ 0
        have zf1 := fr_of_blk kZ 1
        refine hK.out _ _ ?_ (fun hHeld => ?_)
        · (try dsimp only); first | with_reducible exact hD | with_reducible exact hbj | with_reducible exact hAl _ _ hbj | with_reducible exact hbf | with_reducible exact hAl _ _ hbf | with_reducible exact hAl _ _ hD | exact hAl _ _ hD | exact b4set (b4set hbj (by have := hbf.size; omega)) (by have := hbf.size; omega)
        clear hK K
        try simp only [Act.put, List.setIfInBounds_toArray, List.set_cons_zero, List.set_cons_succ]
        refine wpAnyH_take (i := 4) (v := ?va6) rfl (by kernel_rfl) (by kernel_rfl) (by kernel_rfl) (fun _ _ _ h => h) (Or.inl ⟨by rfl, ?hya6⟩) (by assumption) ?_
        case hya6 => (intro W hSw; obtain ⟨o1, o2⟩ := hcl W hSw; go_simp; first | done | with_reducible rfl)
        try simp only [Act.put, List.setIfInBounds_toArray]
        refine wpAnyH_take (i := 5) (v := ?va7) rfl (by kernel_rfl) (by kernel_rfl) (by kernel_rfl) (fun _ _ _ h => h) (Or.inl ⟨by rfl, ?hya7⟩) (by assumption) ?_
        case hya7 => (intro W hSw; obtain ⟨o1, o2⟩ := hcl W hSw; go_simp; first | done | with_reducible rfl)
        try simp only [Act.put]
        refine wpAnyH_take (i := 6) (v := ?va8) rfl (by kernel_rfl) (by kernel_rfl) (by kernel_rfl) (fun _ _ _ h => h) (Or.inl ⟨by rfl, ?hya8⟩) (by assumption) ?_
        case hya8 => (intro W hSw; obtain ⟨o1, o2⟩ := hcl W hSw; go_simp; first | done | with_reducible rfl)
        try simp only [Act.put]
        refine wpAnyH_ready (rs := [8]) (by kernel_rfl) (by simp) ?_
        refine AllReadyH.cons rfl (fun K hK => ?_) AllReadyH.nil
        go_simp
        refine hK.out _ _ ?_ (fun hHeld => ?_)
        · (try dsimp only); first | with_reducible exact hD | with_reducible exact hbj | with_reducible exact hAl _ _ hbj | with_reducible exact hbf | with_reducible exact hAl _ _ hbf | with_reducible exact hAl _ _ hD | exact hAl _ _ hD | exact b4set (b4set hbj (by have := hbf.size; omega)) (by have := hbf.size; omega)
        clear hK K
        try simp only [Act.put, List.setIfInBounds_toArray, List.set_cons_zero, List.set_cons_succ]
        refine wpAnyH_ready (rs := [9]) (by kernel_rfl) (by simp) ?_
        refine AllReadyH.cons rfl (fun K hK => ?_) AllReadyH.nil
        go_simp
        refine hK.out _ _ ?_ (fun hHeld => ?_)
        · (try dsimp only); first | with_reducible exact hD | with_reducible exact hbj | with_reducible exact hAl _ _ hbj | with_reducible exact hbf | with_reducible exact hAl _ _ hbf | with_reducible exact hAl _ _ hD | exact hAl _ _ hD | exact b4set (b4set hbj (by have := hbf.size; omega)) (by have := hbf.size; omega)
        clear hK K
        try simp only [Act.put, List.setIfInBounds_toArray, List.set_cons_zero, List.set_cons_succ]
        refine wpAnyH_done (by kernel_rfl) ?_ _
        go_wp2_with fail
        go_meet
        obtain ⟨c, h1, h2, h3⟩ := HC.out
        have hKK : X.heap.size ≤ Vf.heap.size := by have := hbf.size; omega
        refine ⟨Vf.heap.size, e0, f0, g0, e1, f1, g1, rfl, rfl, hKK, heap_setCell_same _ _ 1 _ _ _ (heap_setCell_same _ _ 0 _ _ _ kZ), own_rd h1 h2 (OwnB.fr (0 + 1) [Vf.heap.size] _ _ c h3 (frB2 kZ) fun k hk hm => ?_), b4set (b4set hbj hKK) hKK⟩
        have := (OwnB.inB (0 + 1) h3 k hk).1
        rw [List.mem_singleton] at hm
        omega
    · skip
      go_simp
      refine hK.out _ _ ?_ (fun hHeld => ?_)
      · (try dsimp only); first | with_reducible exact hD | with_reducible exact hbj | with_reducible exact hAl _ _ hbj | with_reducible exact hbf | with_reducible exact hAl _ _ hbf | with_reducible exact hAl _ _ hD | exact hAl _ _ hD | exact b4set (b4set hbj (by have := hbf.size; omega)) (by have := hbf.size; omega)
      clear hK K
      try simp only [Act.put, List.setIfInBounds_toArray, List.set_cons_zero, List.set_cons_succ]
      refine wpAnyH_ready (rs := [0]) (by kernel_rfl) (by simp) ?_
      refine AllReadyH.cons rfl (fun K hK => ?_) AllReadyH.nil
      go_simp
      refine (hfil _ (hAl _ _ hD)).mono ?_
      rintro e Vf ⟨am, nm, cm, rfl, hg, hbf, hbF⟩
      have kZf := (hbF.block X.heap.size (by simp)).trans (heap_alloc_new _ _)
      refine hK.out _ _ ?_ (fun hHeld => ?_)
      · (try dsimp only); first | with_reducible exact hD | with_reducible exact hbj | with_reducible exact hAl _ _ hbj | with_reducible exact hbf | with_reducible exact hAl _ _ hbf | with_reducible exact hAl _ _ hD | exact hAl _ _ hD | exact b4set (b4set hbj (by have := hbf.size; omega)) (by have := hbf.size; omega)
      clear hK K
      try simp only [Act.put, List.setIfInBounds_toArray, List.set_cons_zero, List.set_cons_succ]
      refine wpAnyH_ready (rs := [3]) (by kernel_rfl) (by simp) ?_
      refine AllReadyH.cons rfl (fun K hK => ?_) AllReadyH.nil
      go_simp
      refine (hjn _ am nm cm hbf hg).mono ?_
      rintro e wJ ⟨e0, f0, g0, e1, f1, g1, rfl, HC, hbj, hbJ⟩
      have sX : X.heap.size < Vf.heap.size := (Array.getElem?_eq_some_iff.1 kZf).1
      have kZ := (hbJ.block X.heap.size sX).trans kZf
      obtain ⟨z0', z1'⟩ := blk2 kZ
      have zf0 := fr_of_blk kZ 0
      have zf1 := fr_of_blk kZ 1
      refine hK.out _ _ ?_ (fun hHeld => ?_)
      · (try dsimp only); first | with_reducible exact hD | with_reducible exact hbj | with_reducible exact hAl _ _ hbj | with_reducible exact hbf | with_reducible exact hAl _ _ hbf | with_reducible exact hAl _ _ hD | exact hAl _ _ hD | exact b4set (b4set hbj (by have := hbf.size; omega)) (by have := hbf.size; omega)
      clear hK K
      try simp only [Act.put, List.setIfInBounds_toArray, List.set_cons_zero, List.set_cons_succ]
      refine wpAnyH_take (i := 4) (v := ?va9) rfl (by kernel_rfl) (by kernel_rfl) (by kernel_rfl) (fun _ _ _ h => h) (Or.inl ⟨by rfl, ?hya9⟩) (by assumption) ?_
      case hya9 => (intro W hSw; obtain ⟨o1, o2⟩ := hcl W hSw; go_simp; first | done | with_reducible rfl)
      try simp only [Act.put, List.setIfInBounds_toArray]
      refine wpAnyH_take (i := 5) (v := ?va10) rfl (by kernel_rfl) (by kernel_rfl) (by kernel_rfl) (fun _ _ _ h => h) (Or.inl ⟨by rfl, ?hya10⟩) (by assumption) ?_
      case hya10 => (intro W hSw; obtain ⟨o1, o2⟩ := hcl W hSw; go_simp; first | done | with_reducible rfl)
      try simp only [Act.put]
      refine wpAnyH_take (i := 6) (v := ?va11) rfl (by kernel_rfl) (by kernel_rfl) (by kernel_rfl) (fun _ _ _ h => h) (Or.inl ⟨by rfl, ?hya11⟩) (by assumption) ?_
      case hya11 => (intro W hSw; obtain ⟨o1, o2⟩ := hcl W hSw; go_simp; first | done | with_reducible rfl)
      try simp only [Act.put]
      refine wpAnyH_ready (rs := [8]) (by kernel_rfl) (by simp) ?_
      refine AllReadyH.cons rfl (fun K hK => ?_) AllReadyH.nil
      go_simp
      refine hK.out _ _ ?_ (fun hHeld => ?_)
      · (try dsimp only); first | with_reducible exact hD | with_reducible exact hbj | with_reducible exact hAl _ _ hbj | with_reducible exact hbf | with_reducible exact hAl _ _ hbf | with_reducible exact hAl _ _ hD | exact hAl _ _ hD | exact b4set (b4set hbj (by have := hbf.size; omega)) (by have := hbf.size; omega)
      clear hK K
      try simp only [Act.put, List.setIfInBounds_toArray, List.set_cons_zero, List.set_cons_succ]
      refine wpAnyH_ready (rs := [9]) (by kernel_rfl) (by simp) ?_
      refine AllReadyH.cons rfl (fun K hK => ?_) AllReadyH.nil
      go_simp
      refine hK.out _ _ ?_ (fun hHeld => ?_)
      · (try dsimp only); first | with_reducible exact hD | with_reducible exact hbj | with_reducible exact hAl _ _ hbj | with_reducible exact hbf | with_reducible exact hAl _ _ hbf | with_reducible exact hAl _ _ hD | exact hAl _ _ hD | exact b4set (b4set hbj (by have := hbf.size; omega)) (by have := hbf.size; omega)
      clear hK K
      try simp only [Act.put, List.setIfInBounds_toArray, List.set_cons_zero, List.set_cons_succ]
      refine wpAnyH_done (by kernel_rfl) ?_ _
      go_wp2_with fail
      go_meet
      obtain ⟨c, h1, h2, h3⟩ := HC.out
      have hKK : X.heap.size ≤ X.heap.size := by have := hbf.size; omega
      refine ⟨X.heap.size, e0, f0, g0, e1, f1, g1, rfl, rfl, hKK, heap_setCell_same _ _ 1 _ _ _ (heap_setCell_same _ _ 0 _ _ _ kZ), own_rd h1 h2 (OwnB.fr (0 + 1) [X.heap.size] _ _ c h3 (frB2 kZ) fun k hk hm => ?_), b4set (b4set hbj hKK) hKK⟩
      have := (OwnB.inB (0 + 1) h3 k hk).1
      rw [List.mem_singleton] at hm
      omega
  case rest =>
    obtain ⟨K, e0, f0, g0, e1, f1, g1, rfl, rfl, hK, xK, HC, hbc⟩ := hcut
    have hokC : ∀ v ∈ aliveC4.vals, VOk (BOk 0) v := by
      intro v hv
      have hv' : v ∈ [(⟨1, [5], [], []⟩ : VI (BI 0)), ⟨2, [], [[113], [113]], []⟩] := hv
      simp only [List.mem_cons, List.mem_nil_iff, or_false] at hv'
      rcases hv' with rfl | rfl
      · exact ⟨⟨by decide, by decide⟩, by simp, by decide, by simp, by decide, by simp, by decide⟩
      · exact ⟨⟨by decide, by decide⟩, by simp, by decide, by simp [reachBytes], by decide, by simp, by decide⟩
    have hget := get_any (B0 := 0) (Nat.zero_le _) HC.out hokC 2
    obtain ⟨qK0, qK1⟩ := blk2 xK
    clear hjn hokC
    go_wp2_with fail
    refine hget.mono ?_
    rintro e wg ⟨hgot, hbg⟩
    rcases hgot with ⟨hno, _⟩ | ⟨k, v, hk1, hk2, hk3, y, q0, u1, v1, z1, u2, v2, z2, u3, v3, z3, henc, rfl, hpl, hov, _, _⟩
    · have := hno ⟨2, [], [[113], [113]], []⟩ (by simp [aliveC4])
      simp at this
    · have hv2 : v2 = 2 := by
        have hk0 : firstI (fun v : VI (BI 0) => decide (v.number = 2)) aliveC4.vals = 1 := by decide +kernel
        have hk' : k = 1 := by rw [hk0] at hk1; omega
        subst hk'
        have hv' : (⟨2, [], [[113], [113]], []⟩ : VI (BI 0)) = v := Option.some.inj hk2
        have h1 : y.p2.v = .slice u2 v2 z2 := by
          have h0 : [Value.int .i64 y.number, y.p1.v, y.p2.v, y.p3.v] = [.int .i64 q0, .slice u1 v1 z1, .slice u2 v2 z2, .slice u3 v3 z3] := henc
          simp only [List.cons.injEq, and_true] at h0
          exact h0.2.2.1
        have h2 := hov.r2
        rw [h1] at h2
        have h3 : v2 = y.bytes.length := h2.len
        have h4 : (VL.pl (LB.pl 0) y).bytes = [[113], [113]] := by rw [hpl, ← hv']
        have h5 : (y.bytes.map Prod.fst).length = 2 := by
          have : y.bytes.map Prod.fst = [[113], [113]] := h4
          rw [this]; rfl
        rw [List.length_map] at h5
        omega
      subst hv2
      have hbw : Below X.heap.size X wg := BTr hbc hbg
      clear hk1 hk2 hk3 henc hpl hov
      have hXg := hbw.size
      have hHf : Below wg.heap.size wg (wg.alloc (.cells #[.int .i64 q0, .slice u1 v1 z1, .slice u2 2 z2, .slice u3 v3 z3] 34)) := (Below.refl _ _).alloc (Nat.le_refl _) _
      obtain ⟨Y, HY⟩ : ∃ Y, Hid (Y = wg.alloc (.cells #[.int .i64 q0, .slice u1 v1 z1, .slice u2 2 z2, .slice u3 v3 z3] 34)) := ⟨_, rfl⟩
      have xY : Y.heap[wg.heap.size]? = some (.cells #[.int .i64 q0, .slice u1 v1 z1, .slice u2 2 z2, .slice u3 v3 z3] 34 (0, 0)) := by rw [HY.out]; exact heap_alloc_new _ _
      rw [← HY.out] at hHf
      have hXY : Below X.heap.size X Y := BTr hbw hHf
      have zY := (Array.getElem?_eq_some_iff.1 xY).1
      have hgY : ∀ V, Below Y.heap.size Y V → V.cell? ⟨wg.heap.size, 2, none⟩ = some (.slice u2 2 z2) ∧ V.cell? ⟨w.heap.size + 4, 0, none⟩ = some (.slice (some ⟨w.heap.size + 1 + 1 + 1, 0, none⟩) 2 2) ∧ V.cell? ⟨w.heap.size + 4, 1, none⟩ = some (.slice none 0 0) := fun V hV => ⟨(blk4' ((hV.block _ zY).trans xY)).2.2.1, hcl V (BTr hXY hV)⟩
      have hDY : Below Y.heap.size Y Y.drew := (Below.refl _ _).drew
      have hwr : ∀ V a n c, Below Y.heap.size Y V → GRd V (.slice a n c) (.slice none 0 0) aliveG4 → Calls Tryz.prog 8 #[.agg #[.slice a n c, .slice none 0 0], .int .i64 0, .agg #[.slice (some ⟨w.heap.size + 1 + 1 + 1, 0, none⟩) 2 2, .slice none 0 0]] V fun e w' => e = .returned (.int .i64 0) ∧ Below Y.heap.size Y w' := fun V a n c hV hg => by
        have h := (alive_win4 hg ((show Tabs w from HT.out).below (BTr hbX (BTr hXY hV)))).wrong ((show BRd 0 X (.slice (some ⟨w.heap.size + 1 + 1 + 1, 0, none⟩) 2 2) (.slice none 0 0) aliveB4 from HRV.out).below (BTr hXY hV)) alive_ok4
        have e0 : wrongB aliveG4 0 0 aliveB4 = 0 := alive_wrong4
        rw [e0] at h
        exact h.mono fun e w' ⟨h1, h2⟩ => ⟨h1, BTr hV h2⟩
      have hfl : ∀ V, Below Y.heap.size Y V → Calls Tryz.prog 44 #[] V fun e w' => ∃ (bm om : Nat) (c : Nat) (af : Option Addr) (nf cf : Nat) (ab : Option Addr) (nb cb : Nat), e = .returned (.agg #[.slice (some ⟨bm, om, none⟩) 1 c, .slice none 0 0]) ∧ GRd w' (.slice (some ⟨bm, om, none⟩) 1 c) (.slice none 0 0) aliveG4 ∧ w'.cell? ⟨bm, om, none⟩ = some (.string (S [65])) ∧ w'.cell? ⟨bm, om + 1, none⟩ = some (.slice af nf cf) ∧ w'.cell? ⟨bm, om + 2, none⟩ = some (.slice ab nb cb) ∧ RdL 6 FAt w' (.slice af nf cf) [⟨[120], 1, 1, [], false, 0⟩, ⟨[121], 2, 8, [], true, 0⟩] ∧ Below Y.heap.size Y w' := fun V hV => by
        refine (afile_any V).mono ?_
        rintro e w' ⟨a, n, c, h1, h2, h3⟩
        have hn : n = 1 := h2.1.len.1
        subst hn
        obtain ⟨bm, om, rfl, hmat⟩ := h2.1.get MAt.plain (k := 0) rfl
        obtain ⟨vf, vb, hn0, hn1, hn2, hfs, hbs⟩ := hmat
        rw [add_plain] at hn1 hn2
        obtain ⟨af, nf, cf, rfl, _, _⟩ := hfs.shape
        obtain ⟨ab, nb, cb, rfl, _, _⟩ := hbs.shape
        exact ⟨bm, om, c, af, nf, cf, ab, nb, cb, h1, h2, by simpa using hn0, by simpa using hn1, by simpa using hn2, hfs, BTr hV h3⟩
      have hfd : ∀ V (af : Option Addr) (nf cf : Nat) (ab : Option Addr) (nb cb : Nat), Below Y.heap.size Y V → RdL 6 FAt V (.slice af nf cf) [⟨[120], 1, 1, [], false, 0⟩, ⟨[121], 2, 8, [], true, 0⟩] → Calls Tryz.prog 16 #[.agg #[.string (S [65]), .slice af nf cf, .slice ab nb cb], .int .i64 2] V fun e w' => e = .returned (.int .i64 1) ∧ Below Y.heap.size Y w' := fun V af nf cf ab nb cb hV hf => by
        have h := field_any hf ⟨ab, nb, cb, rfl⟩ ⟨[65], rfl⟩ 2
        have e0 : firstI (fun f : FI => decide (f.number = 2)) [⟨[120], 1, 1, [], false, 0⟩, ⟨[121], 2, 8, [], true, 0⟩] = 1 := by decide +kernel
        rw [e0] at h
        exact h.mono fun e w' ⟨h1, h2⟩ => ⟨h1, BTr hV h2⟩
      have hft : ∀ V, Below Y.heap.size Y V → Calls Tryz.prog 6 #[.int .i64 4, .int .u64 2] V fun e w' => e = .returned (.int .i64 3) ∧ Below Y.heap.size Y w' := fun V hV => by
        have h := fits_any (w := V) 4 2 (by decide)
        have e0 : fitsI 4 2 = 3 := by decide +kernel
        rw [e0] at h
        exact h.mono fun e w' ⟨h1, h2⟩ => ⟨h1, h2 ▸ hV⟩
      obtain ⟨d2, d0, d1⟩ := hgY _ hDY
      have hf0 : ∀ (V : World) (a : Option Addr) (n c : Nat), (Instr.field 25 (.agg #[.slice a n c, .slice none 0 0]) 0).run Tryz.prog V = .ok (.slice a n c) V := fun _ _ _ _ => rfl
      clear hfil xK qK0 qK1 hcl hAl hD HC hget
      go_wp2_with fail
      rw [← HY.out]
      go_region_with (first
        | (go_at_call 44; refine (hfl _ (by first | with_reducible exact hDY | with_reducible exact hW1)).mono ?_; rintro e wF ⟨bm, om, cc, af, nf, cf, ab, nb, cb, rfl, hgF, hm0, hm1, hm2, hfF, hbF⟩; obtain ⟨f2, f0', f1'⟩ := hgY _ hbF)
        | (go_at_call 8; refine (hwr _ _ _ _ hbF hgF).mono ?_; rintro e wW ⟨rfl, hW1⟩; obtain ⟨g2, g0', g1'⟩ := hgY _ hW1)
        | (go_at_call 16; refine (hfd _ _ _ _ _ _ _ hbF hfF).mono ?_; rintro e wI ⟨rfl, hI1⟩)
        | (go_at_call 6; refine (hft _ hI1).mono ?_; rintro e wT ⟨rfl, hT1⟩))
      all_goals
        go_wp2
        go_ret
        exact ⟨rfl, BTr (BTr hbX hXY) hT1⟩

end L
end Go.Proofs.YtelmjekjohbmjaaGreatDoor

