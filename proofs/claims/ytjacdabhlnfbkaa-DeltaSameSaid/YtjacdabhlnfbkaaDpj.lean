/-
  An argument of type []Step (layer 7) as it is read. No condition.
-/
import Derived.Test.YtjacdabhlnfbkaaDpi
import Derived.Test.YtjacdabhlnfbkaaOpr
import Derived.Deep.Slices
import Derived.Deep.Fields
namespace Go.Proofs.Ytjacdabhlnfbkaa
open Go.ChangeShapes Go.WideShapes Go.ChangeAt Go.RowKit Go.Proofs Go.Deep
set_option linter.unusedVariables false

theorem cells_step : Try.prog.cellsOf 52 = 2 := by kernel_rfl
theorem cells_int7 : Try.prog.cellsOf 3 = 1 := by kernel_rfl
theorem cells_bytes7 : Try.prog.cellsOf 22 = 1 := by kernel_rfl
section
variable {H : Type} {enc : TypeId × Value → H} {w : World} {base : Nat} {held : Bool} {fuel : Nat}
set_option maxRecDepth 100000 in
/-- Bytes in one cell. -/
theorem bytes_of {spare : Nat → Bool} (hsp : spare = fun _ => true) {v : Value} {y : DataW H × List MemPlace} (h : DataW.trod enc Try.prog w base spare held fuel 22 [v] = some y) : ∃ A c, ∃ l : List UInt8, v = .slice A l.length c ∧ Sl w 1 A l.length c (cells l) := by
  subst hsp
  have : ∃ A n c, v = .slice A n c ∧ ∃ l : List UInt8, Sl w 1 A n c (cells l) := by
    rcases open_ints Try.underlying22 Try.underlying5 (by kernel_rfl) h with ⟨hcs, _⟩ | ⟨x, l, c, zs, hcs, _, hl, hm, hz, _, hcell, hwz⟩
    · injection hcs with hcs
      exact ⟨none, 0, 0, hcs, [], Sl.nil w 1 0 (by decide)⟩
    · injection hcs with hcs
      exact ⟨_, _, _, hcs, IsRow.sl (.inr ⟨_, rfl, hl, hm, by simpa using hz, hcell, hwz⟩)⟩
  obtain ⟨A, n, c, e, l, hl⟩ := this
  have := hl.len
  rw [cells_length, Nat.mul_one] at this
  subst this
  exact ⟨A, c, l, e, hl⟩
set_option maxRecDepth 100000 in
/-- One step, out of its two cells. -/
theorem step_of {spare : Nat → Bool} (hsp : spare = fun _ => true) {cs : List Value} {y : DataW H × List MemPlace}
    (h : DataW.trod enc Try.prog w base spare held fuel 52 cs = some y) :
    ∃ (x : Int × List UInt8) (A : Option Addr) (c : Nat), cs = [.int .i64 x.1, .slice A x.2.length c] ∧ Sl w 1 A x.2.length c (cells x.2) := by
  obtain ⟨xs, m, _, _, hl, hxl, hf⟩ := DataW.trod_struct Try.underlying52 h
  rw [cells_step] at hl
  match cs, hl with
  | [c0, c1], _ =>
    match xs, hxl with
    | [y0, y1], _ =>
      have h0 : DataW.trod enc Try.prog w base spare held m 3 (([c0, c1].drop 0).take (Try.prog.cellsOf 3)) = some y0 := hf 0 _ rfl
      have h1 : DataW.trod enc Try.prog w base spare held m 22 (([c0, c1].drop 1).take (Try.prog.cellsOf 22)) = some y1 := hf 1 _ rfl
      rw [cells_int7] at h0
      rw [cells_bytes7] at h1
      obtain ⟨a, e0, _, w0⟩ := DataW.trod_int Try.underlying3 (show DataW.trod enc Try.prog w base spare held m 3 [c0] = some y0 from h0)
      obtain ⟨A, c, l, e1, hs⟩ := bytes_of hsp (show DataW.trod enc Try.prog w base spare held m 22 [c1] = some y1 from h1)
      injection e0 with e0
      subst e0; subst e1
      exact ⟨(a, l), A, c, rfl, hs⟩
set_option maxRecDepth 100000 in
theorem arg_steps {v : Value} {d : DataW H} {p : List MemPlace} {r : Reach} {b0 : Nat} (hv : Value.okWide Try.prog w r b0 49 v) (h : DataW.Trod enc Try.prog w base (fun _ => true) held 49 v d p) :
    ∃ A cp, ∃ its : List (Int × List UInt8), v = .slice A its.length cp ∧ Steps w A its.length cp its := by
  obtain ⟨a0, len0, cap0, rfl⟩ := okWide_slice Try.underlying49 hv
  obtain ⟨fuel, hf⟩ := h
  rcases open_slice Try.underlying49 hf with ⟨hcs, _⟩ | ⟨a, len, cap, m, n, D, Pl, hcs, _, hl, hm, hmm, _, hi⟩
  · simp [Value.cells] at hcs
    obtain ⟨rfl, rfl, rfl⟩ := hcs
    exact ⟨none, 0, [], rfl, rfl, Nat.le_refl _, by decide, fun i x hx => by simp at hx⟩
  · simp [Value.cells] at hcs
    obtain ⟨rfl, rfl, rfl⟩ := hcs
    simp only [if_true] at hmm
    have each : ∀ i, i < len0 → ∃ x : Int × List UInt8, ∃ A c, (∀ (j : Nat) u, [Value.int .i64 x.1, .slice A x.2.length c][j]? = some u → w.cell? ((a.add (i * 2)).add j) = some u) ∧ Sl w 1 A x.2.length c (cells x.2) := by
      intro i hi'
      obtain ⟨cs', hc, ht⟩ := hi i (by omega)
      obtain ⟨x, A, c, rfl, hx⟩ := step_of rfl ht
      rw [cells_step] at hc
      obtain ⟨_, _, hat⟩ := World.cells?_some hc
      refine ⟨x, A, c, fun j u hu => ?_, hx⟩
      have hj : j < 2 := by
        rcases Nat.lt_or_ge j 2 with h' | h'
        · exact h'
        · rw [List.getElem?_eq_none (by simpa using h')] at hu; cases hu
      rw [hat j hj, hu]
    obtain ⟨y, hy⟩ := choose_lt each
    refine ⟨some a, cap0, (List.range len0).map y, by simp, by simp, by simpa using hl, hm, fun i x hx => ?_⟩
    have hin : i < len0 := by
      rcases Nat.lt_or_ge i len0 with h' | h'
      · exact h'
      · rw [List.getElem?_eq_none (by simpa using h')] at hx; cases hx
    rw [List.getElem?_map, List.getElem?_range hin, Option.map_some] at hx
    injection hx with hx
    obtain ⟨A, c, hcell, hs⟩ := hy i hin
    rw [hx] at hcell hs
    obtain ⟨b, o, spot⟩ := a
    have hspot : spot = none := by
      obtain ⟨_, _, hcell0, _⟩ := hy 0 (by omega)
      have h0 := hcell0 0 _ rfl
      simpa [Addr.add] using World.cell?_spot h0
    subst hspot
    simp only [Addr.add_lit] at hcell
    exact ⟨b, o, A, c, rfl, hcell 0 _ rfl, hcell 1 _ rfl, hs⟩
end
end Go.Proofs.Ytjacdabhlnfbkaa
