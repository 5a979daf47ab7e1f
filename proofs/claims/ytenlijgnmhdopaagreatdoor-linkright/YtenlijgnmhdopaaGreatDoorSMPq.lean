import Derived.Test.YtenlijgnmhdopaaGreatDoorSEP
import Derived.Test.YtenlijgnmhdopaaGreatDoorSFP
import Derived.Test.YtenlijgnmhdopaaGreatDoorMSa
/- The contract of the printer's message. -/
namespace Go.Proofs.YtenlijgnmhdopaaGreatDoor
open Go.RowKit

def msgHead : List UInt8 := [109, 101, 115, 115, 97, 103, 101, 32]
def resHead : List UInt8 := [32, 32, 114, 101, 115, 101, 114, 118, 101, 100, 32]
def fieldsGo : Nat → List Fld → List UInt8
  | c, [] => turnP c 0
  | c, f :: r => turnP c f.choice ++ (fieldP f ++ fieldsGo f.choice r)
def barP (l : List Nat) : List UInt8 := if l = [] then [] else lineP [resHead, numsP l, [59]]
def messageP (m : Msg) : List UInt8 := lineP [msgHead, m.name, braceP] ++ (barP m.barred ++ (fieldsGo 0 m.fields ++ lineP [[125]]))

theorem drop_at {α : Type} {l : List α} {k : Nat} {a : α} (h : l[k]? = some a) : l.drop k = a :: l.drop (k + 1) := by
  obtain ⟨hk, e⟩ := List.getElem?_eq_some_iff.1 h
  rw [List.drop_eq_getElem_cons hk, e]

set_option maxHeartbeats 2000000 in
set_option maxRecDepth 100000 in
/-- The fields, and what is behind them. -/
theorem messageP_any {B0 B b base : Nat} {l : List UInt8} {w : World} (h : Bl w B b l) (hBw : B ≤ w.heap.size) (hg : Gl B0 w) (hB0 : B0 ≤ B) (x : Msg) (vf vb : Value) (hrf : Row ekFld w base vf x.fields) (hrb : Row ekInt w base vb x.barred)
    (hfb : vf.ownBlock ≠ some b) (hbb : vb.ownBlock ≠ some b)
    (hnf : x.fields.length ≤ 1000) (hnb : x.barred.length ≤ 1000) (hmf : ∀ f ∈ x.fields, f.number ≤ 4294967296) (hmb : ∀ n ∈ x.barred, n ≤ 4294967296) (hlen : l.length + (messageP x).length ≤ 1000000) :
    Calls Tryz.prog 28 #[.pointer (some ⟨b, 0, none⟩), .agg #[.string (S x.name), vf, vb]] w fun e w' => e = .returned (.tuple #[]) ∧ Bl w' B b (l ++ messageP x) ∧ Ko B b w w' := by
  have HLn : Hid ((messageP x).length = (lineP [msgHead, x.name, braceP]).length + ((barP x.barred).length + ((fieldsGo 0 x.fields).length + (lineP [[125]]).length))) := by show _ = _; rw [messageP, List.length_append, List.length_append, List.length_append]
  have hlen1 : l.length + (lineP [msgHead, x.name, braceP]).length ≤ 100000000 := by have := HLn.out; omega
  have hBb : B ≤ b := h.base
  obtain ⟨ao, n, cap, rfl, Hn⟩ := hrf.shape'
  obtain ⟨ab, nb, capb, rfl, Hnb⟩ := hrb.shape'
  have hbel := (Below.refl w.heap.size w).alloc (Nat.le_refl _) (.cells #[.string (S x.name), .slice ao n cap, .slice ab nb capb] 37)
  have hF := heap_alloc_new w (.cells #[.string (S x.name), .slice ao n cap, .slice ab nb capb] 37)
  have hb1 := h.below hbel
  have hline : Calls Tryz.prog 42 #[.pointer (some ⟨b, 0, none⟩), .slice (some ⟨(w.alloc (.cells #[.string (S x.name), .slice ao n cap, .slice ab nb capb] 37)).heap.size, 0, none⟩) 3 3] ((w.alloc (.cells #[.string (S x.name), .slice ao n cap, .slice ab nb capb] 37)).alloc (.cells #[.string ⟨#[109, 101, 115, 115, 97, 103, 101, 32]⟩, .string (S x.name), .string ⟨#[32, 123]⟩] 9)) fun e w' => e = .returned (.tuple #[]) ∧ Bl w' B b (l ++ lineP [msgHead, x.name, braceP]) ∧ Ko B b (w.alloc (.cells #[.string (S x.name), .slice ao n cap, .slice ab nb capb] 37)) w' :=
    line_new hb1 (Nat.le_trans hBw hbel.size) hb1.lt [msgHead, x.name, braceP] (by simp) hlen1
  have hzz : (w.alloc (.cells #[.string (S x.name), .slice ao n cap, .slice ab nb capb] 37)).heap.size = w.heap.size + 1 := by simp
  rw [hzz] at hline
  go_enter Tryz.func28, Tryz.ntmps28
  go_wp2_with fail
  refine hline.mono ?_
  rintro e w1 ⟨rfl, hl1, hk1⟩
  have hrf1 := (hrf.below hbel).ko hk1 (by decide) hfb
  have hrb1 := (hrb.below hbel).ko hk1 (by decide) hbb
  have hko : Ko B b w w1 := (Ko.of_below hbel).trans hk1
  have hbF : b ≠ w.heap.size := by have := h.lt; omega
  have hF1 : w1.heap[w.heap.size]? = some (.cells #[.string (S x.name), .slice ao n cap, .slice ab nb capb] 37 (0, 0)) := by
    rw [hk1.block w.heap.size (by simp) (fun e => hbF e.symm) (.inr (by intro cs fr e; rw [hF] at e; simp at e))]; exact hF
  obtain ⟨c0, c1, c2⟩ := blk3 hF1
  clear hline hb1 hbel hF hzz hk1
  have hin : n ≤ 1000 := by rw [Hn.out]; exact hnf
  by_cases hb0 : nb = 0
  · have HB : Hid (barP x.barred = []) := by show _ = _; rw [barP, if_pos (List.eq_nil_of_length_eq_zero (by rw [← Hnb.out]; exact hb0))]
    have Hq0 : Hid (l ++ lineP [msgHead, x.name, braceP] ++ (fieldsGo 0 (x.fields.drop 0) ++ lineP [[125]]) = l ++ messageP x) := by show _ = _; rw [messageP, HB.out]; simp
    subst hb0
    have hl2 := hl1
    have hk2 := hko
    go_wp2_with fail
    go_loopg [4, 25] n (fun m c i wr => ∃ k ch : Nat, k + m = n ∧ i = .int .i64 k ∧ c = .int .i64 (ch : Int) ∧ (∃ q, Hid (q ++ (fieldsGo ch (x.fields.drop k) ++ lineP [[125]]) = l ++ messageP x) ∧ Bl wr B b q) ∧ Ko B b w wr)
    case atStart => exact ⟨0, 0, by omega, rfl, rfl, ⟨_, Hq0, hl2⟩, hk2⟩
    case round =>
      obtain ⟨k, ch, hk, rfl, rfl, ⟨q, Hq, hbq⟩, hkr⟩ := hrel
      have hlq : q.length ≤ 1000000 := by
        have e5 := congrArg List.length Hq.out
        simp only [List.length_append] at e5
        omega
      have hzr : w.heap.size ≤ wr.heap.size := hkr.size
      by_cases hlt : k < n
      · obtain ⟨a, Ha⟩ : ∃ a, Hid (x.fields[k]? = some a) := ⟨x.fields[k]'(by rw [← Hn.out]; exact hlt), List.getElem?_eq_getElem (by rw [← Hn.out]; exact hlt)⟩
        have HD : Hid (fieldsGo ch (x.fields.drop k) = turnP ch a.choice ++ (fieldP a ++ fieldsGo a.choice (x.fields.drop (k + 1)))) := by show _ = _; rw [drop_at Ha.out, fieldsGo]
        have HQ : Hid (q ++ turnP ch a.choice ++ fieldP a ++ (fieldsGo a.choice (x.fields.drop (k + 1)) ++ lineP [[125]]) = l ++ messageP x) := by show _ = _; rw [← Hq.out, HD.out]; simp only [List.append_assoc]
        have hlf : (q ++ turnP ch a.choice).length + (fieldP a).length ≤ 100000000 := by
          have e5 := congrArg List.length HQ.out
          simp only [List.length_append] at e5 ⊢
          omega
        obtain ⟨gf, rfl, hcf⟩ := (hrf.ko hkr (by decide) hfb).get Ha.out
        have s0 := hcf 0 _ rfl
        have s1 := hcf 1 _ rfl
        have s2 := hcf 2 _ rfl
        have s3 := hcf 3 _ rfl
        have s4 := hcf 4 _ rfl
        have s5 := hcf 5 _ rfl
        have esz : ekFld.size = 6 := rfl
        rw [esz] at s0 s1 s2 s3 s4 s5
        simp only [Nat.add_zero] at s0
        have ham := hmf a (List.mem_of_getElem? Ha.out)
        have hki : (k : Int) < (n : Int) := by omega
        have hba := (Below.refl wr.heap.size wr).alloc (Nat.le_refl _) (.cells (encFld a).toArray 39)
        have hbl2 := hbq.below hba
        have hF3 := heap_alloc_new wr (.cells (encFld a).toArray 39)
        have hkr2 : Ko B b w (wr.alloc (.cells (encFld a).toArray 39)) := hkr.trans (Ko.of_below hba)
        have hbl : b < wr.heap.size := hbq.lt
        have hgW : ∀ W, Ko B b w W → Gl B0 W := fun W hW => hg.later ((hW.below hBb hBw).mono hB0)
        have hturn : Calls Tryz.prog 45 #[.pointer (some ⟨b, 0, none⟩), .int .i64 (ch : Int), .int .i64 (a.choice : Int)] (wr.alloc (.cells (encFld a).toArray 39)) fun e w' => e = .returned (.tuple #[]) ∧ Bl w' B b (q ++ turnP ch a.choice) ∧ Ko B b (wr.alloc (.cells (encFld a).toArray 39)) w' := turn_any hbl2 (Nat.le_trans (Nat.le_trans hBw hzr) hba.size) ch a.choice (by omega)
        clear hcf esz hmf hmb hlq
        unfold encFld at hturn hF3 hkr2
        go_wp2_with fail
        refine hturn.mono ?_
        rintro e w5 ⟨rfl, hl5, hk5⟩
        have hF5 : w5.heap[wr.heap.size]? = some (.cells #[.string (S a.name), .int .i64 (a.number : Int), .int .i64 (a.kind : Int), .string (S a.type), .bool a.many, .int .i64 (a.choice : Int)] 39 (0, 0)) := by
          rw [hk5.block wr.heap.size (by simp) (by omega) (.inr (by intro cs fr e; rw [hF3] at e; simp at e))]; exact hF3
        obtain ⟨c0, c1, c2, c3, c4, c5⟩ := blk6 hF5
        have hk6 := hkr2.trans hk5
        have hfield : Calls Tryz.prog 46 #[.pointer (some ⟨b, 0, none⟩), .agg #[.string (S a.name), .int .i64 (a.number : Int), .int .i64 (a.kind : Int), .string (S a.type), .bool a.many, .int .i64 (a.choice : Int)]] w5 fun e w' => e = .returned (.tuple #[]) ∧ Bl w' B b (q ++ turnP ch a.choice ++ fieldP a) ∧ Ko B b w5 w' := fieldP_any hl5 (Nat.le_trans hBw hk6.size) (hgW w5 hk6) (Nat.le_trans hB0 (Nat.le_trans hBw hk6.size)) a ham hlf
        clear hlf hturn s0 s1 s2 s3 s4 s5 hF5 hF3
        go_wp2_with fail
        refine hfield.mono ?_
        rintro e w6 ⟨rfl, hl6, hk7⟩
        go_wp2_with fail
        go_roundg (n - (k + 1))
        case measure => omega
        case rel => exact ⟨k + 1, a.choice, by omega, by go_num, rfl, ⟨_, HQ.out, hl6⟩, hk6.trans hk7⟩
      · have HD : Hid (fieldsGo ch (x.fields.drop k) = turnP ch 0) := by show _ = _; rw [List.drop_eq_nil_of_le (by rw [← Hn.out]; omega), fieldsGo]
        have HQ : Hid (q ++ turnP ch 0 ++ lineP [[125]] = l ++ messageP x) := by show _ = _; rw [← Hq.out, HD.out]; simp only [List.append_assoc]
        have hlf : (q ++ turnP ch 0).length + (lineP [[125]]).length ≤ 100000000 := by
          have e5 := congrArg List.length HQ.out
          simp only [List.length_append] at e5 ⊢
          omega
        have hturn := turn_any hbq (Nat.le_trans hBw hzr) ch 0 (by omega)
        clear hmf hmb hlq
        go_wp2_with fail
        refine hturn.mono ?_
        rintro e w5 ⟨rfl, hl5, hk5⟩
        have hline2 : Calls Tryz.prog 42 #[.pointer (some ⟨b, 0, none⟩), .slice (some ⟨w5.heap.size, 0, none⟩) 1 1] (w5.alloc (.cells #[.string ⟨#[125]⟩] 9)) fun e w' => e = .returned (.tuple #[]) ∧ Bl w' B b (q ++ turnP ch 0 ++ lineP [[125]]) ∧ Ko B b w5 w' :=
          line_new hl5 (Nat.le_trans hBw (hkr.trans hk5).size) hl5.lt [[125]] (by simp) hlf
        rw [HQ.out] at hline2
        clear hlf hturn
        go_wp2_with fail
        refine hline2.mono ?_
        rintro e w6 ⟨rfl, hl6, hk6⟩
        go_wp2
        go_end0
        exact ⟨rfl, hl6, hkr.trans (hk5.trans hk6)⟩
  · have hb0' : (0 : Int) < (nb : Int) := by omega
    have hne : x.barred ≠ [] := by intro e; rw [e] at Hnb; exact hb0 Hnb.out
    have HB : Hid (barP x.barred = lineP [resHead, numsP x.barred, [59]]) := by show _ = _; rw [barP, if_neg hne]
    have Hq0 : Hid (l ++ lineP [msgHead, x.name, braceP] ++ lineP [resHead, numsP x.barred, [59]] ++ (fieldsGo 0 (x.fields.drop 0) ++ lineP [[125]]) = l ++ messageP x) := by show _ = _; rw [messageP, HB.out]; simp
    have hlb : (l ++ lineP [msgHead, x.name, braceP]).length + (lineP [resHead, numsP x.barred, [59]]).length ≤ 1000000 := by
      have e5 := congrArg List.length Hq0.out
      simp only [List.length_append] at e5 ⊢
      omega
    have hln : (numsP x.barred).length ≤ 1000000 := by
      have : (lineP [resHead, numsP x.barred, [59]]).length = resHead.length + (numsP x.barred).length + 2 := by simp [lineP]; omega
      omega
    have hgW : ∀ W, Ko B b w W → Gl B0 W := fun W hW => hg.later ((hW.below hBb hBw).mono hB0)
    have hnum := numbers_any (hrb1.rdN) hne hnb hmb (hgW w1 hko) (Nat.le_trans hB0 (Nat.le_trans hBw hko.size)) hln
    clear hln
    go_wp2_with fail
    refine hnum.mono ?_
    rintro e w2 ⟨rfl, hbn⟩
    have hl2' := hl1.below hbn
    have hko2 := hko.trans (Ko.of_below hbn)
    have hline2 : Calls Tryz.prog 42 #[.pointer (some ⟨b, 0, none⟩), .slice (some ⟨w2.heap.size, 0, none⟩) 3 3] (w2.alloc (.cells #[.string ⟨#[32, 32, 114, 101, 115, 101, 114, 118, 101, 100, 32]⟩, .string (S (numsP x.barred)), .string ⟨#[59]⟩] 9)) fun e w' => e = .returned (.tuple #[]) ∧ Bl w' B b (l ++ lineP [msgHead, x.name, braceP] ++ lineP [resHead, numsP x.barred, [59]]) ∧ Ko B b w2 w' :=
      line_new hl2' (Nat.le_trans hBw hko2.size) hl2'.lt [resHead, numsP x.barred, [59]] (by simp) (by omega)
    clear hnum hlb
    go_wp2_with fail
    refine hline2.mono ?_
    rintro e w3 ⟨rfl, hl2, hk3⟩
    have hk2 : Ko B b w w3 := hko2.trans hk3
    have hF3' : w3.heap[w.heap.size]? = some (.cells #[.string (S x.name), .slice ao n cap, .slice ab nb capb] 37 (0, 0)) := by
      have hFw2 := blk_below hF1 hbn
      rw [hk3.block w.heap.size (Array.getElem?_eq_some_iff.1 hFw2).1 (fun e => hbF e.symm) (.inr (by intro cs fr e; rw [hFw2] at e; simp at e))]; exact hFw2
    clear c0 c1 c2
    obtain ⟨c0, c1, c2⟩ := blk3 hF3'
    clear hline2
    go_wp2_with fail
    go_loopg [4, 25] n (fun m c i wr => ∃ k ch : Nat, k + m = n ∧ i = .int .i64 k ∧ c = .int .i64 (ch : Int) ∧ (∃ q, Hid (q ++ (fieldsGo ch (x.fields.drop k) ++ lineP [[125]]) = l ++ messageP x) ∧ Bl wr B b q) ∧ Ko B b w wr)
    case atStart => exact ⟨0, 0, by omega, rfl, rfl, ⟨_, Hq0, hl2⟩, hk2⟩
    case round =>
      obtain ⟨k, ch, hk, rfl, rfl, ⟨q, Hq, hbq⟩, hkr⟩ := hrel
      have hlq : q.length ≤ 1000000 := by
        have e5 := congrArg List.length Hq.out
        simp only [List.length_append] at e5
        omega
      have hzr : w.heap.size ≤ wr.heap.size := hkr.size
      by_cases hlt : k < n
      · obtain ⟨a, Ha⟩ : ∃ a, Hid (x.fields[k]? = some a) := ⟨x.fields[k]'(by rw [← Hn.out]; exact hlt), List.getElem?_eq_getElem (by rw [← Hn.out]; exact hlt)⟩
        have HD : Hid (fieldsGo ch (x.fields.drop k) = turnP ch a.choice ++ (fieldP a ++ fieldsGo a.choice (x.fields.drop (k + 1)))) := by show _ = _; rw [drop_at Ha.out, fieldsGo]
        have HQ : Hid (q ++ turnP ch a.choice ++ fieldP a ++ (fieldsGo a.choice (x.fields.drop (k + 1)) ++ lineP [[125]]) = l ++ messageP x) := by show _ = _; rw [← Hq.out, HD.out]; simp only [List.append_assoc]
        have hlf : (q ++ turnP ch a.choice).length + (fieldP a).length ≤ 100000000 := by
          have e5 := congrArg List.length HQ.out
          simp only [List.length_append] at e5 ⊢
          omega
        obtain ⟨gf, rfl, hcf⟩ := (hrf.ko hkr (by decide) hfb).get Ha.out
        have s0 := hcf 0 _ rfl
        have s1 := hcf 1 _ rfl
        have s2 := hcf 2 _ rfl
        have s3 := hcf 3 _ rfl
        have s4 := hcf 4 _ rfl
        have s5 := hcf 5 _ rfl
        have esz : ekFld.size = 6 := rfl
        rw [esz] at s0 s1 s2 s3 s4 s5
        simp only [Nat.add_zero] at s0
        have ham := hmf a (List.mem_of_getElem? Ha.out)
        have hki : (k : Int) < (n : Int) := by omega
        have hba := (Below.refl wr.heap.size wr).alloc (Nat.le_refl _) (.cells (encFld a).toArray 39)
        have hbl2 := hbq.below hba
        have hF3 := heap_alloc_new wr (.cells (encFld a).toArray 39)
        have hkr2 : Ko B b w (wr.alloc (.cells (encFld a).toArray 39)) := hkr.trans (Ko.of_below hba)
        have hbl : b < wr.heap.size := hbq.lt
        have hgW : ∀ W, Ko B b w W → Gl B0 W := fun W hW => hg.later ((hW.below hBb hBw).mono hB0)
        have hturn : Calls Tryz.prog 45 #[.pointer (some ⟨b, 0, none⟩), .int .i64 (ch : Int), .int .i64 (a.choice : Int)] (wr.alloc (.cells (encFld a).toArray 39)) fun e w' => e = .returned (.tuple #[]) ∧ Bl w' B b (q ++ turnP ch a.choice) ∧ Ko B b (wr.alloc (.cells (encFld a).toArray 39)) w' := turn_any hbl2 (Nat.le_trans (Nat.le_trans hBw hzr) hba.size) ch a.choice (by omega)
        clear hcf esz hmf hmb hlq
        unfold encFld at hturn hF3 hkr2
        go_wp2_with fail
        refine hturn.mono ?_
        rintro e w5 ⟨rfl, hl5, hk5⟩
        have hF5 : w5.heap[wr.heap.size]? = some (.cells #[.string (S a.name), .int .i64 (a.number : Int), .int .i64 (a.kind : Int), .string (S a.type), .bool a.many, .int .i64 (a.choice : Int)] 39 (0, 0)) := by
          rw [hk5.block wr.heap.size (by simp) (by omega) (.inr (by intro cs fr e; rw [hF3] at e; simp at e))]; exact hF3
        obtain ⟨c0, c1, c2, c3, c4, c5⟩ := blk6 hF5
        have hk6 := hkr2.trans hk5
        have hfield : Calls Tryz.prog 46 #[.pointer (some ⟨b, 0, none⟩), .agg #[.string (S a.name), .int .i64 (a.number : Int), .int .i64 (a.kind : Int), .string (S a.type), .bool a.many, .int .i64 (a.choice : Int)]] w5 fun e w' => e = .returned (.tuple #[]) ∧ Bl w' B b (q ++ turnP ch a.choice ++ fieldP a) ∧ Ko B b w5 w' := fieldP_any hl5 (Nat.le_trans hBw hk6.size) (hgW w5 hk6) (Nat.le_trans hB0 (Nat.le_trans hBw hk6.size)) a ham hlf
        clear hlf hturn s0 s1 s2 s3 s4 s5 hF5 hF3
        go_wp2_with fail
        refine hfield.mono ?_
        rintro e w6 ⟨rfl, hl6, hk7⟩
        go_wp2_with fail
        go_roundg (n - (k + 1))
        case measure => omega
        case rel => exact ⟨k + 1, a.choice, by omega, by go_num, rfl, ⟨_, HQ.out, hl6⟩, hk6.trans hk7⟩
      · have HD : Hid (fieldsGo ch (x.fields.drop k) = turnP ch 0) := by show _ = _; rw [List.drop_eq_nil_of_le (by rw [← Hn.out]; omega), fieldsGo]
        have HQ : Hid (q ++ turnP ch 0 ++ lineP [[125]] = l ++ messageP x) := by show _ = _; rw [← Hq.out, HD.out]; simp only [List.append_assoc]
        have hlf : (q ++ turnP ch 0).length + (lineP [[125]]).length ≤ 100000000 := by
          have e5 := congrArg List.length HQ.out
          simp only [List.length_append] at e5 ⊢
          omega
        have hturn := turn_any hbq (Nat.le_trans hBw hzr) ch 0 (by omega)
        clear hmf hmb hlq
        go_wp2_with fail
        refine hturn.mono ?_
        rintro e w5 ⟨rfl, hl5, hk5⟩
        have hline2 : Calls Tryz.prog 42 #[.pointer (some ⟨b, 0, none⟩), .slice (some ⟨w5.heap.size, 0, none⟩) 1 1] (w5.alloc (.cells #[.string ⟨#[125]⟩] 9)) fun e w' => e = .returned (.tuple #[]) ∧ Bl w' B b (q ++ turnP ch 0 ++ lineP [[125]]) ∧ Ko B b w5 w' :=
          line_new hl5 (Nat.le_trans hBw (hkr.trans hk5).size) hl5.lt [[125]] (by simp) hlf
        rw [HQ.out] at hline2
        clear hlf hturn
        go_wp2_with fail
        refine hline2.mono ?_
        rintro e w6 ⟨rfl, hl6, hk6⟩
        go_wp2
        go_end0
        exact ⟨rfl, hl6, hkr.trans (hk5.trans hk6)⟩

end Go.Proofs.YtenlijgnmhdopaaGreatDoor

