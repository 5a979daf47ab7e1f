import Derived.Test.YtenlijgnmhdopaaGreatDoorMSa
import Derived.Test.YtenlijgnmhdopaaGreatDoorMSb
import Derived.Test.YtenlijgnmhdopaaGreatDoorSParse
/- The contract of Numbered. -/
namespace Go.Proofs.YtenlijgnmhdopaaGreatDoor
open Go.RowKit

def numbM (m : Msg) : Msg := ⟨m.name, numGo 0 0 m.fields, m.barred⟩
theorem drop_at' {α : Type} {l : List α} {k : Nat} {a : α} (h : l[k]? = some a) : l.drop k = a :: l.drop (k + 1) := by
  obtain ⟨hk, e⟩ := List.getElem?_eq_some_iff.1 h
  rw [List.drop_eq_getElem_cons hk, e]

set_option maxHeartbeats 8000000 in
set_option maxRecDepth 100000 in
theorem numbered_any {w : World} {base : Nat} {vm ve : Value} {lm : List (Msg × SV × SV)} {le : List (Enm × SV)} (h : FilR w base vm ve lm le) (hb : base ≤ w.heap.size) (hn : lm.length ≤ 1000) (hin : ∀ p ∈ lm, p.1.fields.length ≤ 100000) :
    Calls Tryz.prog 13 #[.agg #[vm, ve]] w fun e w' => ∃ vm' lm', e = .returned (.agg #[vm', ve]) ∧ FilR w' base vm' ve lm' le ∧ lm'.map Prod.fst = (lm.map Prod.fst).map numbM ∧ Below w.heap.size w w' := by
  obtain ⟨am, n, cm, rfl, Hn⟩ := h.rowm.shape'
  obtain ⟨ae, ne, ce, rfl, He⟩ := h.rowe.shape'
  have hn' : n ≤ 1000 := by rw [Hn.out]; exact hn
  obtain ⟨x3, x2, x1⟩ := alloc3 w (.cells #[.slice am n cm, .slice ae ne ce] 25) (.cells #[.slice none 0 0, .slice none 0 0] 25) (.cells #[.slice none 0 0, .slice ae ne ce] 25)
  obtain ⟨W0, HW0⟩ : ∃ W0, Hid (W0 = ((w.alloc (.cells #[.slice am n cm, .slice ae ne ce] 25)).alloc (.cells #[.slice none 0 0, .slice none 0 0] 25)).alloc (.cells #[.slice none 0 0, .slice ae ne ce] 25)) := ⟨_, rfl⟩
  have hB0 : Below w.heap.size w W0 := by rw [HW0.out]; exact (((Below.refl _ _).alloc (Nat.le_refl _) _).alloc (by simp) _).alloc (by simp; omega) _
  have hz0 : W0.heap.size = w.heap.size + 3 := by rw [HW0.out]; simp
  rw [← HW0.out] at x1 x2 x3
  obtain ⟨O, HO⟩ : ∃ O, Hid (O = w.heap.size + 1 + 1) := ⟨_, rfl⟩
  have hO1 : O ≤ w.heap.size + 2 := Nat.le_of_eq HO.out
  have hO2 : w.heap.size + 2 ≤ O := Nat.le_of_eq HO.out.symm
  rw [← show O = w.heap.size + 2 from HO.out] at x3
  go_enter Tryz.func13, Tryz.ntmps13
  go_wp2_with fail
  rw [← HW0.out, ← HO.out]
  go_loopg [17] n (fun m i wr => ∃ (k : Nat) (lo : List (Msg × SV × SV)) (vo : Value), k + m = n ∧ i = .int .i64 k ∧ Row ekMsg wr (O + 1) vo lo ∧ (∀ p ∈ lo, Row ekFld wr (O + 1) p.2.1.v p.1.fields ∧ Row ekInt wr base p.2.2.v p.1.barred) ∧ wr.heap[O]? = some (.cells #[vo, .slice ae ne ce] 25 (0, 0)) ∧ Hid (lo.map Prod.fst = ((lm.take k).map Prod.fst).map numbM) ∧ lo.length = k ∧ Below O W0 wr)
  case atStart => exact ⟨0, [], .slice none 0 0, by omega, rfl, Row.nil _ _ _, fun _ hp => (List.not_mem_nil hp).elim, x3, by show _ = _; simp, rfl, Below.refl _ _⟩
  case round =>
    obtain ⟨k, lo, vo, hk, rfl, hro, hrs, hO3, HL, hlo, hbr⟩ := hrel
    obtain ⟨wo, Hwo⟩ : ∃ wo, wo = wr := ⟨_, rfl⟩
    subst Hwo
    have hBw : Below w.heap.size w wo := hB0.trans (hbr.mono (by omega))
    have hzr : w.heap.size + 3 ≤ wo.heap.size := by have := hbr.size; omega
    have hf1 := h.below hBw
    have hOl : O < wo.heap.size := by omega
    obtain ⟨ao, no, co, rfl, Hno⟩ := hro.shape'
    obtain ⟨o0, o1⟩ := blk2 hO3
    by_cases hlt : k < n
    · obtain ⟨p, Hp⟩ : ∃ p, Hid (lm[k]? = some p) := ⟨lm[k]'(by rw [← Hn.out]; exact hlt), List.getElem?_eq_getElem (by rw [← Hn.out]; exact hlt)⟩
      obtain ⟨gm, rfl, hc1⟩ := hf1.rowm.get Hp.out
      obtain ⟨r1f, r1b⟩ := hf1.ms p (List.mem_of_getElem? Hp.out)
      have i1 := hin p (List.mem_of_getElem? Hp.out)
      obtain ⟨mm, ⟨af, nf, cf⟩, ⟨ab, nb, cb⟩⟩ := p
      have e0 := hc1 0 _ rfl
      have e1 := hc1 1 _ rfl
      have e2 := hc1 2 _ rfl
      have esz : ekMsg.size = 3 := rfl
      rw [esz] at e0 e1 e2
      simp only [SV.v] at e0 e1 e2 r1f r1b i1
      simp only [Nat.add_zero] at e0
      have hnf : nf ≤ 100000 := by rw [r1f.len]; exact i1
      have hki : (k : Int) < (n : Int) := by omega
      clear hc1 esz hf1 x1 x2 x3 hin
      obtain ⟨W1, HW1⟩ : ∃ W1, Hid (W1 = wo.alloc (.cells #[.string (S mm.name), .slice af nf cf, .slice ab nb cb] 37)) := ⟨_, rfl⟩
      have hB1 : Below wo.heap.size wo W1 := by rw [HW1.out]; exact (Below.refl _ _).alloc (Nat.le_refl _) _
      have hz1 : W1.heap.size = wo.heap.size + 1 := by rw [HW1.out]; simp
      have hM1 : W1.heap[wo.heap.size]? = some (.cells #[.string (S mm.name), .slice af nf cf, .slice ab nb cb] 37 (0, 0)) := by rw [HW1.out]; exact heap_alloc_new _ _
      obtain ⟨N, HN⟩ : ∃ N, Hid (N = wo.heap.size + 1) := ⟨_, rfl⟩
      have hN1' : N ≤ wo.heap.size + 1 := Nat.le_of_eq HN.out
      have hN2' : wo.heap.size + 1 ≤ N := Nat.le_of_eq HN.out.symm
      obtain ⟨W2, HW2⟩ : ∃ W2, Hid (W2 = W1.alloc (.cells #[.string (S mm.name), .slice none 0 0, .slice ab nb cb] 37)) := ⟨_, rfl⟩
      have hB2 : Below N W1 W2 := by rw [HW2.out]; exact (Below.refl _ _).alloc (by omega) _
      have hz2 : W2.heap.size = N + 1 := by rw [HW2.out]; simp; omega
      have hN2 : W2.heap[N]? = some (.cells #[.string (S mm.name), .slice none 0 0, .slice ab nb cb] 37 (0, 0)) := by
        have := heap_alloc_new W1 (.cells #[.string (S mm.name), .slice none 0 0, .slice ab nb cb] 37)
        rw [HW2.out]; rw [hz1, ← HN.out] at this; exact this
      have HW12 : Hid (W2 = (wo.alloc (.cells #[.string (S mm.name), .slice af nf cf, .slice ab nb cb] 37)).alloc (.cells #[.string (S mm.name), .slice none 0 0, .slice ab nb cb] 37)) := by show _ = _; rw [HW2.out, HW1.out]
      go_wp2_with fail
      rw [← HW12.out, ← HN.out]
      go_loopg [7, 8, 29] nf (fun m lastv kv i wi => ∃ (j last kk : Nat) (fs : List Fld) (vf : Value), j + m = nf ∧ i = .int .i64 j ∧ lastv = .int .i64 (last : Int) ∧ kv = .int .i64 (kk : Int) ∧ kk ≤ j ∧ Row ekFld wi (N + 1) vf fs ∧ wi.heap[N]? = some (.cells #[.string (S mm.name), vf, .slice ab nb cb] 37 (0, 0)) ∧ Hid (numGo 0 0 mm.fields = fs ++ numGo last kk (mm.fields.drop j)) ∧ fs.length = j ∧ Below N W1 wi)
      case atStart => exact ⟨0, 0, 0, [], .slice none 0 0, by omega, rfl, rfl, rfl, Nat.le_refl _, Row.nil _ _ _, hN2, rfl, rfl, hB2⟩
      case round =>
        clear e0 e1 e2 hN2 hB2
        obtain ⟨j, last, kk, fs, vf, hj, rfl, rfl, rfl, hkj, hrow, hNi, HJ, hfl, hbi⟩ := hrel
        obtain ⟨wi, Hwi⟩ : ∃ wi, wi = wr := ⟨_, rfl⟩
        subst Hwi
        have hzi : N + 1 ≤ wi.heap.size := by have := (Array.getElem?_eq_some_iff.1 hNi).1; omega
        have hBi : Below wo.heap.size wo wi := hB1.trans (hbi.mono (by omega))
        by_cases hjl : j < nf
        · obtain ⟨f, Hf⟩ : ∃ f, Hid (mm.fields[j]? = some f) := ⟨mm.fields[j]'(by rw [← r1f.len]; exact hjl), List.getElem?_eq_getElem (by rw [← r1f.len]; exact hjl)⟩
          have hM := (hbi.block wo.heap.size (by omega)).trans hM1
          obtain ⟨gf, rfl, u1⟩ := (r1f.below hBi).get Hf.out
          have s0 := u1 0 _ rfl
          have s1 := u1 1 _ rfl
          have s2 := u1 2 _ rfl
          have s3 := u1 3 _ rfl
          have s4 := u1 4 _ rfl
          have s5 := u1 5 _ rfl
          have esz : ekFld.size = 6 := rfl
          rw [esz] at s0 s1 s2 s3 s4 s5
          simp only [Nat.add_zero] at s0
          have hji : (j : Int) < (nf : Int) := by omega
          have hzx : ∀ o, (wi.alloc o).heap.size = wi.heap.size + 1 := fun o => by simp
          have hrowA : ∀ o, Row ekFld (wi.alloc o) (N + 1) vf fs := fun o => hrow.below ((Below.refl _ _).alloc (Nat.le_refl _) o)
          have hNA : ∀ o, (wi.alloc o).heap[N]? = some (.cells #[.string (S mm.name), vf, .slice ab nb cb] 37 (0, 0)) := fun o => (Below.heap_alloc wi o N (by omega)).trans hNi
          have hBA : ∀ o, Below N W1 (wi.alloc o) := fun o => hbi.alloc (by omega) o
          clear u1 esz hNi hbi hBi hM hrow
          by_cases hc0 : f.choice = 0
          · have hg0 : ¬ (0 : Int) < (f.choice : Int) := by omega
            have HC0 : Hid (f.choice = 0) := hc0
            clear hc0
            have hzxx := hzx (.cells #[.string (S f.name), .int .i64 (f.number : Int), .int .i64 (f.kind : Int), .string (S f.type), .bool f.many, .int .i64 (f.choice : Int)] 39)
            have hrowX := hrowA (.cells #[.string (S f.name), .int .i64 (f.number : Int), .int .i64 (f.kind : Int), .string (S f.type), .bool f.many, .int .i64 (f.choice : Int)] 39)
            have hNX := hNA (.cells #[.string (S f.name), .int .i64 (f.number : Int), .int .i64 (f.kind : Int), .string (S f.type), .bool f.many, .int .i64 (f.choice : Int)] 39)
            have hBX := hBA (.cells #[.string (S f.name), .int .i64 (f.number : Int), .int .i64 (f.kind : Int), .string (S f.type), .bool f.many, .int .i64 (f.choice : Int)] 39)
            have hone : Row ekFld ((wi.alloc (.cells #[.string (S f.name), .int .i64 (f.number : Int), .int .i64 (f.kind : Int), .string (S f.type), .bool f.many, .int .i64 (f.choice : Int)] 39)).alloc (.cells (encFld (f)).toArray 39)) (N + 1) (.slice (some ⟨(wi.alloc (.cells #[.string (S f.name), .int .i64 (f.number : Int), .int .i64 (f.kind : Int), .string (S f.type), .bool f.many, .int .i64 (f.choice : Int)] 39)).heap.size, 0, none⟩) 1 1) [f] := Row.one ekFld (wi.alloc (.cells #[.string (S f.name), .int .i64 (f.number : Int), .int .i64 (f.kind : Int), .string (S f.type), .bool f.many, .int .i64 (f.choice : Int)] 39)) (f) (by omega)
            have hrow4 : Row ekFld ((wi.alloc (.cells #[.string (S f.name), .int .i64 (f.number : Int), .int .i64 (f.kind : Int), .string (S f.type), .bool f.many, .int .i64 (f.choice : Int)] 39)).alloc (.cells (encFld (f)).toArray 39)) (N + 1) vf fs := hrowX.below ((Below.refl _ _).alloc (Nat.le_refl _) _)
            have hN4 : ((wi.alloc (.cells #[.string (S f.name), .int .i64 (f.number : Int), .int .i64 (f.kind : Int), .string (S f.type), .bool f.many, .int .i64 (f.choice : Int)] 39)).alloc (.cells (encFld (f)).toArray 39)).heap[N]? = some (.cells #[.string (S mm.name), vf, .slice ab nb cb] 37 (0, 0)) := (Below.heap_alloc _ _ _ (by omega)).trans hNX
            have hB4 : Below N W1 ((wi.alloc (.cells #[.string (S f.name), .int .i64 (f.number : Int), .int .i64 (f.kind : Int), .string (S f.type), .bool f.many, .int .i64 (f.choice : Int)] 39)).alloc (.cells (encFld (f)).toArray 39)) := hBX.alloc (by omega) _
            rw [hzxx] at hone
            obtain ⟨av, nv, cv, rfl, Hnv⟩ := hrow4.shape'
            obtain ⟨n0, n1, n2⟩ := blk3 hNX
            clear hrowX hNX hBX hrowA hNA hBA hzx
            unfold encFld at hone hrow4 hN4 hB4
            go_wp2_with (at_builtin; refine wpList_app rfl ekFld _ _ rfl (N + 1) _ fs [f] rfl hrow4 (N + 1) _ rfl hone ?e1 ?e2 ?_)
            case e1 => (try simp); omega
            case e2 => (try simp); omega
            intro v5 w5 hrow5 hgr5
            have hown := hrow4.own
            have hB5 : Below N W1 w5 := hB4.grown hgr5 (by simp; omega) (fun k hk => by have := (hown k hk).1; omega)
            have hN5 : w5.heap[N]? = some (.cells #[.string (S mm.name), .slice av nv cv, .slice ab nb cb] 37 (0, 0)) := (hgr5.block N (Array.getElem?_eq_some_iff.1 hN4).1 (fun hh => by have := (hown N hh.symm).1; omega)).trans hN4
            have g1 := fr_of_blk hN5 1
            obtain ⟨k0, k1, k2⟩ := blk3 hN5
            obtain ⟨a5, n5, c5, rfl, Hn5⟩ := hrow5.shape'
            clear n0 n1 n2 hown hone hrow4 hN4 hB4
            go_wp2_with fail
            go_roundg (nf - (j + 1))
            case measure => omega
            case rel =>
              refine ⟨j + 1, f.choice, kk, fs ++ [f], .slice a5 n5 c5, by omega, by go_num, rfl, rfl, by omega, hrow5.other (fun hh => by have := (hrow5.own N hh).1; omega) 1 _, heap_setCell_same _ _ 1 _ _ _ hN5, ?_, by simp; omega, hB5.setCell (p := ⟨N, 1, none⟩) (show N ≤ (⟨N, 1, none⟩ : Addr).block from Nat.le_refl _) _⟩
              show _ = _
              rw [HJ.out, drop_at' Hf.out, numGo]
              have hc0 := HC0.out
              rw [if_pos hc0]; have e : setC 0 f = f := by rw [← hc0]; rfl
              rw [e, hc0]; simp
          · have hg0 : (0 : Int) < (f.choice : Int) := by omega
            by_cases hcl : f.choice = last
            · have hg1 : ((f.choice : Int) != (last : Int)) = false := by rw [hcl]; simp
              have HCL : Hid (f.choice = last) := hcl
              clear hcl
              have hzxx := hzx (.cells #[.string (S f.name), .int .i64 (f.number : Int), .int .i64 (f.kind : Int), .string (S f.type), .bool f.many, .int .i64 (kk : Int)] 39)
              have hrowX := hrowA (.cells #[.string (S f.name), .int .i64 (f.number : Int), .int .i64 (f.kind : Int), .string (S f.type), .bool f.many, .int .i64 (kk : Int)] 39)
              have hNX := hNA (.cells #[.string (S f.name), .int .i64 (f.number : Int), .int .i64 (f.kind : Int), .string (S f.type), .bool f.many, .int .i64 (kk : Int)] 39)
              have hBX := hBA (.cells #[.string (S f.name), .int .i64 (f.number : Int), .int .i64 (f.kind : Int), .string (S f.type), .bool f.many, .int .i64 (kk : Int)] 39)
              have hone : Row ekFld ((wi.alloc (.cells #[.string (S f.name), .int .i64 (f.number : Int), .int .i64 (f.kind : Int), .string (S f.type), .bool f.many, .int .i64 (kk : Int)] 39)).alloc (.cells (encFld (setC kk f)).toArray 39)) (N + 1) (.slice (some ⟨(wi.alloc (.cells #[.string (S f.name), .int .i64 (f.number : Int), .int .i64 (f.kind : Int), .string (S f.type), .bool f.many, .int .i64 (kk : Int)] 39)).heap.size, 0, none⟩) 1 1) [setC kk f] := Row.one ekFld (wi.alloc (.cells #[.string (S f.name), .int .i64 (f.number : Int), .int .i64 (f.kind : Int), .string (S f.type), .bool f.many, .int .i64 (kk : Int)] 39)) (setC kk f) (by omega)
              have hrow4 : Row ekFld ((wi.alloc (.cells #[.string (S f.name), .int .i64 (f.number : Int), .int .i64 (f.kind : Int), .string (S f.type), .bool f.many, .int .i64 (kk : Int)] 39)).alloc (.cells (encFld (setC kk f)).toArray 39)) (N + 1) vf fs := hrowX.below ((Below.refl _ _).alloc (Nat.le_refl _) _)
              have hN4 : ((wi.alloc (.cells #[.string (S f.name), .int .i64 (f.number : Int), .int .i64 (f.kind : Int), .string (S f.type), .bool f.many, .int .i64 (kk : Int)] 39)).alloc (.cells (encFld (setC kk f)).toArray 39)).heap[N]? = some (.cells #[.string (S mm.name), vf, .slice ab nb cb] 37 (0, 0)) := (Below.heap_alloc _ _ _ (by omega)).trans hNX
              have hB4 : Below N W1 ((wi.alloc (.cells #[.string (S f.name), .int .i64 (f.number : Int), .int .i64 (f.kind : Int), .string (S f.type), .bool f.many, .int .i64 (kk : Int)] 39)).alloc (.cells (encFld (setC kk f)).toArray 39)) := hBX.alloc (by omega) _
              rw [hzxx] at hone
              obtain ⟨av, nv, cv, rfl, Hnv⟩ := hrow4.shape'
              obtain ⟨n0, n1, n2⟩ := blk3 hNX
              clear hrowX hNX hBX hrowA hNA hBA hzx
              unfold encFld at hone hrow4 hN4 hB4
              simp only [setC] at hone hrow4 hN4 hB4
              go_wp2_with (at_builtin; refine wpList_app rfl ekFld _ _ rfl (N + 1) _ fs [setC kk f] rfl hrow4 (N + 1) _ rfl hone ?e1 ?e2 ?_)
              case e1 => (try simp); omega
              case e2 => (try simp); omega
              intro v5 w5 hrow5 hgr5
              have hown := hrow4.own
              have hB5 : Below N W1 w5 := hB4.grown hgr5 (by simp; omega) (fun k hk => by have := (hown k hk).1; omega)
              have hN5 : w5.heap[N]? = some (.cells #[.string (S mm.name), .slice av nv cv, .slice ab nb cb] 37 (0, 0)) := (hgr5.block N (Array.getElem?_eq_some_iff.1 hN4).1 (fun hh => by have := (hown N hh.symm).1; omega)).trans hN4
              have g1 := fr_of_blk hN5 1
              obtain ⟨k0, k1, k2⟩ := blk3 hN5
              obtain ⟨a5, n5, c5, rfl, Hn5⟩ := hrow5.shape'
              clear n0 n1 n2 hown hone hrow4 hN4 hB4
              go_wp2_with fail
              go_roundg (nf - (j + 1))
              case measure => omega
              case rel =>
                refine ⟨j + 1, f.choice, kk, fs ++ [setC kk f], .slice a5 n5 c5, by omega, by go_num, rfl, rfl, by omega, hrow5.other (fun hh => by have := (hrow5.own N hh).1; omega) 1 _, heap_setCell_same _ _ 1 _ _ _ hN5, ?_, by simp; omega, hB5.setCell (p := ⟨N, 1, none⟩) (show N ≤ (⟨N, 1, none⟩ : Addr).block from Nat.le_refl _) _⟩
                show _ = _
                rw [HJ.out, drop_at' Hf.out, numGo]
                rw [if_neg hc0, if_pos HCL.out]; simp
            · have hg1 : ((f.choice : Int) != (last : Int)) = true := by rw [bne_iff_ne]; omega
              have hzxx := hzx (.cells #[.string (S f.name), .int .i64 (f.number : Int), .int .i64 (f.kind : Int), .string (S f.type), .bool f.many, .int .i64 (kk + 1 : Int)] 39)
              have hrowX := hrowA (.cells #[.string (S f.name), .int .i64 (f.number : Int), .int .i64 (f.kind : Int), .string (S f.type), .bool f.many, .int .i64 (kk + 1 : Int)] 39)
              have hNX := hNA (.cells #[.string (S f.name), .int .i64 (f.number : Int), .int .i64 (f.kind : Int), .string (S f.type), .bool f.many, .int .i64 (kk + 1 : Int)] 39)
              have hBX := hBA (.cells #[.string (S f.name), .int .i64 (f.number : Int), .int .i64 (f.kind : Int), .string (S f.type), .bool f.many, .int .i64 (kk + 1 : Int)] 39)
              have hone : Row ekFld ((wi.alloc (.cells #[.string (S f.name), .int .i64 (f.number : Int), .int .i64 (f.kind : Int), .string (S f.type), .bool f.many, .int .i64 (kk + 1 : Int)] 39)).alloc (.cells (encFld (setC (kk + 1) f)).toArray 39)) (N + 1) (.slice (some ⟨(wi.alloc (.cells #[.string (S f.name), .int .i64 (f.number : Int), .int .i64 (f.kind : Int), .string (S f.type), .bool f.many, .int .i64 (kk + 1 : Int)] 39)).heap.size, 0, none⟩) 1 1) [setC (kk + 1) f] := Row.one ekFld (wi.alloc (.cells #[.string (S f.name), .int .i64 (f.number : Int), .int .i64 (f.kind : Int), .string (S f.type), .bool f.many, .int .i64 (kk + 1 : Int)] 39)) (setC (kk + 1) f) (by omega)
              have hrow4 : Row ekFld ((wi.alloc (.cells #[.string (S f.name), .int .i64 (f.number : Int), .int .i64 (f.kind : Int), .string (S f.type), .bool f.many, .int .i64 (kk + 1 : Int)] 39)).alloc (.cells (encFld (setC (kk + 1) f)).toArray 39)) (N + 1) vf fs := hrowX.below ((Below.refl _ _).alloc (Nat.le_refl _) _)
              have hN4 : ((wi.alloc (.cells #[.string (S f.name), .int .i64 (f.number : Int), .int .i64 (f.kind : Int), .string (S f.type), .bool f.many, .int .i64 (kk + 1 : Int)] 39)).alloc (.cells (encFld (setC (kk + 1) f)).toArray 39)).heap[N]? = some (.cells #[.string (S mm.name), vf, .slice ab nb cb] 37 (0, 0)) := (Below.heap_alloc _ _ _ (by omega)).trans hNX
              have hB4 : Below N W1 ((wi.alloc (.cells #[.string (S f.name), .int .i64 (f.number : Int), .int .i64 (f.kind : Int), .string (S f.type), .bool f.many, .int .i64 (kk + 1 : Int)] 39)).alloc (.cells (encFld (setC (kk + 1) f)).toArray 39)) := hBX.alloc (by omega) _
              rw [hzxx] at hone
              obtain ⟨av, nv, cv, rfl, Hnv⟩ := hrow4.shape'
              obtain ⟨n0, n1, n2⟩ := blk3 hNX
              clear hrowX hNX hBX hrowA hNA hBA hzx
              unfold encFld at hone hrow4 hN4 hB4
              simp only [setC] at hone hrow4 hN4 hB4
              go_wp2_with (at_builtin; refine wpList_app rfl ekFld _ _ rfl (N + 1) _ fs [setC (kk + 1) f] rfl hrow4 (N + 1) _ rfl hone ?e1 ?e2 ?_)
              case e1 => (try simp); omega
              case e2 => (try simp); omega
              intro v5 w5 hrow5 hgr5
              have hown := hrow4.own
              have hB5 : Below N W1 w5 := hB4.grown hgr5 (by simp; omega) (fun k hk => by have := (hown k hk).1; omega)
              have hN5 : w5.heap[N]? = some (.cells #[.string (S mm.name), .slice av nv cv, .slice ab nb cb] 37 (0, 0)) := (hgr5.block N (Array.getElem?_eq_some_iff.1 hN4).1 (fun hh => by have := (hown N hh.symm).1; omega)).trans hN4
              have g1 := fr_of_blk hN5 1
              obtain ⟨k0, k1, k2⟩ := blk3 hN5
              obtain ⟨a5, n5, c5, rfl, Hn5⟩ := hrow5.shape'
              clear n0 n1 n2 hown hone hrow4 hN4 hB4
              go_wp2_with fail
              go_roundg (nf - (j + 1))
              case measure => omega
              case rel =>
                refine ⟨j + 1, f.choice, kk + 1, fs ++ [setC (kk + 1) f], .slice a5 n5 c5, by omega, by go_num, rfl, by go_num, by omega, hrow5.other (fun hh => by have := (hrow5.own N hh).1; omega) 1 _, heap_setCell_same _ _ 1 _ _ _ hN5, ?_, by simp; omega, hB5.setCell (p := ⟨N, 1, none⟩) (show N ≤ (⟨N, 1, none⟩ : Addr).block from Nat.le_refl _) _⟩
                show _ = _
                rw [HJ.out, drop_at' Hf.out, numGo]
                rw [if_neg hc0, if_neg hcl]; simp
        · obtain ⟨av, nv, cv, rfl, Hnv⟩ := hrow.shape'
          obtain ⟨n0, n1, n2⟩ := blk3 hNi
          have hoi := (hbi.block O (by omega)).trans ((hB1.block O hOl).trans hO3)
          obtain ⟨p0, p1⟩ := blk2 hoi
          have HF : Hid (numGo 0 0 mm.fields = fs) := by
            have e : mm.fields.drop j = [] := List.drop_eq_nil_of_le (by rw [← r1f.len]; omega)
            show _ = _; rw [HJ.out, e]; simp [numGo]
          have hroi := hro.below hBi
          have hone : Row ekMsg (wi.alloc (.cells #[.string (S mm.name), .slice av nv cv, .slice ab nb cb] 37)) (O + 1) (.slice (some ⟨wi.heap.size, 0, none⟩) 1 1) [(⟨mm.name, fs, mm.barred⟩, (av, nv, cv), (ab, nb, cb))] := Row.one ekMsg wi (⟨mm.name, fs, mm.barred⟩, (av, nv, cv), (ab, nb, cb)) (by omega)
          have hba := (Below.refl wi.heap.size wi).alloc (Nat.le_refl _) (.cells #[.string (S mm.name), .slice av nv cv, .slice ab nb cb] 37)
          have hroa := hroi.below hba
          have hoa := (hba.block O (by omega)).trans hoi
          have hrfa := (hrow.mono (show O + 1 ≤ N + 1 by omega)).below hba
          have hrba := (r1b.below hBi).below hba
          have hrsa : ∀ p ∈ lo, Row ekFld (wi.alloc (.cells #[.string (S mm.name), .slice av nv cv, .slice ab nb cb] 37)) (O + 1) p.2.1.v p.1.fields ∧ Row ekInt (wi.alloc (.cells #[.string (S mm.name), .slice av nv cv, .slice ab nb cb] 37)) base p.2.2.v p.1.barred := fun p hp => ⟨((hrs p hp).1.below hBi).below hba, ((hrs p hp).2.below hBi).below hba⟩
          have hBa : Below O W0 (wi.alloc (.cells #[.string (S mm.name), .slice av nv cv, .slice ab nb cb] 37)) := (hbr.trans (hBi.mono (by omega))).trans (hba.mono (by omega))
          clear hrs o0 o1 hNi hrow
          go_wp2_with (at_builtin; refine wpList_app rfl ekMsg _ _ rfl (O + 1) _ lo [(⟨mm.name, fs, mm.barred⟩, (av, nv, cv), (ab, nb, cb))] rfl hroa (O + 1) _ rfl hone ?e1 ?e2 ?_)
          case e1 => (try simp); omega
          case e2 => (try simp); omega
          intro v5 w5 hrow5 hgr5
          have hown := hroa.own
          have hB5 : Below O W0 w5 := hBa.grown hgr5 (by (try simp); omega) (fun k hk => by have := (hown k hk).1; omega)
          have hO5 := (hgr5.block O (Array.getElem?_eq_some_iff.1 hoa).1 (fun hh => by have := (hown O hh.symm).1; omega)).trans hoa
          have g1 := fr_of_blk hO5 0
          obtain ⟨k0, k1⟩ := blk2 hO5
          obtain ⟨a5, n5, c5, rfl, Hn5⟩ := hrow5.shape'
          have hrf5 := hrfa.grown hgr5 (hrfa.ne hroa (by decide))
          have hrb5 := hrba.grown hgr5 (hrba.ne hroa (by decide))
          have hrs5 : ∀ p ∈ lo, Row ekFld w5 (O + 1) p.2.1.v p.1.fields ∧ Row ekInt w5 base p.2.2.v p.1.barred := fun p hp => ⟨(hrsa p hp).1.grown hgr5 ((hrsa p hp).1.ne hroa (by decide)), (hrsa p hp).2.grown hgr5 ((hrsa p hp).2.ne hroa (by decide))⟩
          clear hown hone hroa hoa hBa hrsa p0 p1 n0 n1 n2
          go_wp2_with fail
          go_roundg (n - (k + 1))
          case measure => omega
          case rel =>
            refine ⟨k + 1, lo ++ [(⟨mm.name, fs, mm.barred⟩, (av, nv, cv), (ab, nb, cb))], .slice a5 n5 c5, by omega, by go_num, hrow5.other (fun hh => by have := (hrow5.own O hh).1; omega) 0 _, ?_, heap_setCell_same _ _ 0 _ _ _ hO5, ?_, by simp; omega, hB5.setCell (p := ⟨O, 0, none⟩) (show O ≤ (⟨O, 0, none⟩ : Addr).block from Nat.le_refl _) _⟩
            · intro p hp
              rw [List.mem_append, List.mem_singleton] at hp
              rcases hp with hp | rfl
              · exact ⟨(hrs5 p hp).1.other ((hrs5 p hp).1.ne_blk hO5 (by decide)) 0 _, (hrs5 p hp).2.other ((hrs5 p hp).2.ne_blk hO5 (by decide)) 0 _⟩
              · exact ⟨hrf5.other (hrf5.ne_blk hO5 (by decide)) 0 _, hrb5.other (hrb5.ne_blk hO5 (by decide)) 0 _⟩
            · show _ = _
              rw [List.take_add_one, Hp.out]
              simp [HL.out, numbM, HF.out]
    · have HL2 : Hid (lo.map Prod.fst = (lm.map Prod.fst).map numbM) := by
        show _ = _; rw [HL.out, List.take_of_length_le (by rw [← Hn.out]; omega)]
      have hR := (hbr.block (w.heap.size + 1) (by omega)).trans x2
      obtain ⟨q0, q1⟩ := blk2 hR
      have f0 := fr_of_blk hR 0
      have f1 := fr_of_blk hR 1
      clear hin
      go_wp2
      refine bodyPost_ret (v := .agg #[.slice ao no co, .slice ae ne ce]) (by simp [results, Tryz.results13, go_sem, *]) rfl ?_
      have hm1 := hro.mono (show base ≤ O + 1 by omega)
      have hm2 := hm1.ne_blk hR (by decide)
      have he2 := hf1.rowe.ne_blk hR (by decide)
      refine ⟨.slice ao no co, lo, rfl, ⟨(hm1.other hm2 0 _).other hm2 1 _, (hf1.rowe.other he2 0 _).other he2 1 _, ?_, ?_⟩, HL2.out, ?_⟩
      · intro p hp
        have q1 := (hrs p hp).1.mono (show base ≤ O + 1 by omega)
        have q2 := (hrs p hp).2
        have q3 := q1.ne_blk hR (by decide)
        have q4 := q2.ne_blk hR (by decide)
        exact ⟨(q1.other q3 0 _).other q3 1 _, (q2.other q4 0 _).other q4 1 _⟩
      · intro p hp
        have q1 := hf1.es p hp
        have q3 := q1.ne_blk hR (by decide)
        exact (q1.other q3 0 _).other q3 1 _
      · exact (hBw.setCell (p := ⟨w.heap.size + 1, 0, none⟩) (show w.heap.size ≤ w.heap.size + 1 by omega) _).setCell (p := ⟨w.heap.size + 1, 1, none⟩) (show w.heap.size ≤ w.heap.size + 1 by omega) _

end Go.Proofs.YtenlijgnmhdopaaGreatDoor

