/- Arguments that came in, opened: bytes, records. -/
import Derived.Test.YtenlijgnmhdopaaWBytes
import Derived.ProofKit
import Derived.OpenShut
import Derived.Deep.Slices
import Derived.SizedLaws
namespace Go.Proofs.Ytenlijgnmhdopaa
open Go.ChangeShapes Go.WideShapes Go.ChangeAt Go.RowKit

/-- A slice of bytes that came in can be read. -/
theorem rd_of_ints {w : World} {x : Addr} {len cap : Nat} {zs : List Int} (hl : len ≤ cap) (hm : cap ≤ maxLen) (hz : len ≤ zs.length)
    (hcell : ∀ i, i < zs.length → w.cell? (x.add i) = some (.int .u8 (zs.getD i 0))) (hwz : ∀ n ∈ zs, (Lit.int .u8 n).wf = true) :
    RdA w (some x) len cap ((zs.take len).map fun n => UInt8.ofNat n.toNat) := by
  refine ⟨by simp; omega, hl, hm, by simp, ?_⟩
  intro y hy i hi
  cases hy
  rw [hcell i (by omega)]
  have hiz : i < zs.length := by omega
  have hb := bounds_u8 (hwz zs[i] (List.getElem_mem hiz))
  simp [hi, hiz]
  omega

section
variable {H : Type} {enc : TypeId × Value → H} {w : World} {base : Nat} {spare : Nat → Bool} {held : Bool}

set_option maxRecDepth 100000 in
theorem open_bytes {fuel : Nat} {cs : List Value} {x : DataW H × List MemPlace} (h : DataW.trod enc Try.prog w base spare held fuel 23 cs = some x) :
    ∃ ao len cap l, cs = [.slice ao len cap] ∧ RdA w ao len cap l := by
  rcases open_ints Try.underlying23 Try.underlying5 (by kernel_rfl) h with ⟨hcs, _⟩ | ⟨a, len, cap, zs, hcs, _, hl, hm, hz, _, hcell, hwz⟩
  · exact ⟨none, 0, 0, [], hcs, RdA.nil _⟩
  · exact ⟨some a, len, cap, _, hcs, rd_of_ints hl hm (by split at hz <;> omega) hcell hwz⟩

theorem bytes_u8 : Try.prog.bytesOf 5 = 1 := by kernel_rfl

set_option maxRecDepth 100000 in
/-- .. and it is no longer than a slice may be. -/
theorem open_bytes_sized {fuel : Nat} {cs : List Value} {d : DataW H} {p : List MemPlace} (h : DataW.trod enc Try.prog w base (fun _ => true) held fuel 23 cs = some (d, p))
    {ts : List TypeId} {ds : List (DataW H)} (hsz : (DataW.weightsEach Try.prog ts ds).all (· ≤ reachBytes) = true) {j : Nat} (ht : ts[j]? = some 23) (hd : ds[j]? = some d) :
    ∃ ao len cap l, cs = [.slice ao len cap] ∧ RdA w ao len cap l ∧ len ≤ 140737488351232 := by
  rcases open_ints Try.underlying23 Try.underlying5 (by kernel_rfl) h with ⟨hcs, _⟩ | ⟨a, len, cap, zs, hcs, _, hl, hm, hz, hx, hcell, hwz⟩
  · exact ⟨none, 0, 0, [], hcs, RdA.nil _, by omega⟩
  · have hz' : zs.length = cap := by simpa using hz
    refine ⟨some a, len, cap, _, hcs, rd_of_ints hl hm (by omega) hcell hwz, ?_⟩
    have hdd := (Prod.mk.inj hx).1
    rw [hdd] at hd
    have := sized_slice hsz ht hd Try.underlying23
    rw [bytes_u8] at this
    simp only [lits, List.length_map, List.length_take, List.length_drop, reachBytes] at this
    omega

set_option maxRecDepth 100000 in
theorem open_rec {fuel : Nat} {a : Addr} {cs : List Value} {x : DataW H × List MemPlace} (hc : w.cells? base a 4 = some cs) (h : DataW.trod enc Try.prog w base spare held fuel 53 cs = some x) :
    ∃ r : Rcd, r.wf ∧ RecAt w a r := by
  obtain ⟨_, hlen, hcell⟩ := World.cells?_some hc
  obtain ⟨xs, n, _, _, _, hxl, hf⟩ := DataW.trod_struct Try.underlying53 h
  have hc3 : Try.prog.cellsOf 3 = 1 := by kernel_rfl
  have hc22 : Try.prog.cellsOf 22 = 1 := by kernel_rfl
  have hc23 : Try.prog.cellsOf 23 = 1 := by kernel_rfl
  match cs, hlen with
  | [c0, c1, c2, c3], _ =>
    have f0 : DataW.trod enc Try.prog w base spare held n 3 (([c0, c1, c2, c3].drop 0).take (Try.prog.cellsOf 3)) = xs[0]? := hf 0 _ rfl
    have f1 : DataW.trod enc Try.prog w base spare held n 3 (([c0, c1, c2, c3].drop 1).take (Try.prog.cellsOf 3)) = xs[1]? := hf 1 _ rfl
    have f2 : DataW.trod enc Try.prog w base spare held n 22 (([c0, c1, c2, c3].drop 2).take (Try.prog.cellsOf 22)) = xs[2]? := hf 2 _ rfl
    have f3 : DataW.trod enc Try.prog w base spare held n 23 (([c0, c1, c2, c3].drop 3).take (Try.prog.cellsOf 23)) = xs[3]? := hf 3 _ rfl
    have hxs : xs.length = 4 := hxl
    rw [List.getElem?_eq_getElem (by omega)] at f0 f1 f2 f3
    rw [hc3] at f0 f1
    rw [hc22] at f2
    rw [hc23] at f3
    obtain ⟨n0, e0, _, w0⟩ := DataW.trod_int Try.underlying3 f0
    obtain ⟨n1, e1, _, w1⟩ := DataW.trod_int Try.underlying3 f1
    obtain ⟨n2, e2, _, w2⟩ := DataW.trod_int Try.underlying22 f2
    obtain ⟨ao, len, cap, l, e3, hr⟩ := open_bytes f3
    simp at e0 e1 e2 e3
    subst e0 e1 e2 e3
    obtain ⟨N2, rfl⟩ := Int.eq_ofNat_of_zero_le (bounds_u64 w2).1
    have b0 := bounds_i64 w0
    have b1 := bounds_i64 w1
    have b2 := bounds_u64 w2
    refine ⟨⟨n0, n1, N2, l⟩, ⟨by dsimp only; omega, by dsimp only; omega, by dsimp only; omega, by dsimp only; omega, by dsimp only; omega⟩, ao, len, cap, ?_, ?_, ?_, ?_, hr⟩
    · have := hcell 0 (by omega); simpa [Addr.add] using this
    · exact hcell 1 (by omega)
    · exact hcell 2 (by omega)
    · exact hcell 3 (by omega)

set_option maxRecDepth 100000 in
theorem open_recs {fuel : Nat} {cs : List Value} {x : DataW H × List MemPlace} (h : DataW.trod enc Try.prog w base spare held fuel 32 cs = some x) :
    ∃ ao len cap rs, cs = [.slice ao len cap] ∧ RdR w ao len cap rs := by
  have hc43 : Try.prog.cellsOf 53 = 4 := by kernel_rfl
  rcases Go.Deep.open_slice Try.underlying32 h with ⟨hcs, _⟩ | ⟨a, len, cap, m, n, D, Pl, hcs, _, hl, hm, hmm, _, hel⟩
  · exact ⟨none, 0, 0, [], hcs, rfl, Nat.le_refl _, by unfold maxLen; omega, fun _ => rfl, fun r hr => by simp at hr, fun x hx => by cases hx⟩
  · rw [hc43] at hel
    have hm' : len ≤ m := by rw [hmm]; split <;> omega
    have hex : ∀ i, i < len → ∃ r : Rcd, r.wf ∧ RecAt w (a.add (i * 4)) r := by
      intro i hi
      obtain ⟨cs', h1, h2⟩ := hel i (by omega)
      exact open_rec h1 h2
    obtain ⟨f, hf⟩ : ∃ f : Nat → Rcd, ∀ i, i < len → (f i).wf ∧ RecAt w (a.add (i * 4)) (f i) := by
      refine ⟨fun i => if hi : i < len then Classical.choose (hex i hi) else ⟨0, 0, 0, []⟩, fun i hi => ?_⟩
      simp only [dif_pos hi]
      exact Classical.choose_spec (hex i hi)
    refine ⟨some a, len, cap, (List.range len).map f, hcs, by simp, hl, hm, by simp, ?_, ?_⟩
    · intro r hr
      simp only [List.mem_map, List.mem_range] at hr
      obtain ⟨i, hi, rfl⟩ := hr
      exact (hf i hi).1
    · intro x hx i r hr
      cases hx
      rw [List.getElem?_map] at hr
      by_cases hi : i < len
      · rw [List.getElem?_range hi] at hr
        cases hr
        exact (hf i hi).2
      · rw [List.getElem?_eq_none (by simp; omega)] at hr
        cases hr
end

end Go.Proofs.Ytenlijgnmhdopaa
