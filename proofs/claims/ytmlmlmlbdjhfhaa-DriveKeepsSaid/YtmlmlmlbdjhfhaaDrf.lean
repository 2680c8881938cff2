/-
  An argument of type []Put (layer 9) as it is read. No condition.
-/
import Derived.Test.YtmlmlmlbdjhfhaaOpi
import Derived.Deep.Slices
import Derived.Deep.Fields
namespace Go.Proofs.Ytmlmlmlbdjhfhaa
open Go.ChangeShapes Go.WideShapes Go.ChangeAt Go.RowKit Go.Proofs Go.Deep
set_option linter.unusedVariables false

/-- The slice reads as puts: a place, a byte each. -/
structure Puts (w : World) (A : Option Addr) (n c : Nat) (its : List (Int × UInt8)) : Prop where
  len : its.length = n
  cap : n ≤ c
  top : c ≤ maxLen
  cell : ∀ (i : Nat) (x : Int × UInt8), its[i]? = some x → ∃ b o, A = some ⟨b, o, none⟩ ∧ w.cell? ⟨b, o + i * 2, none⟩ = some (.int .i64 x.1) ∧ w.cell? ⟨b, o + i * 2 + 1, none⟩ = some (.int .u8 (x.2.toNat : Int))
theorem Puts.below {w w' : World} {A : Option Addr} {n c : Nat} {its : List (Int × UInt8)} (h : Puts w A n c its) (hb : Below w.heap.size w w') : Puts w' A n c its :=
  ⟨h.len, h.cap, h.top, fun i x hx => by
    obtain ⟨b, o, e, h1, h2⟩ := h.cell i x hx
    have hlt := World.block_lt_of_cell? w _ h1
    exact ⟨b, o, e, (hb.cell (p := ⟨b, o + i * 2, none⟩) hlt).trans h1, (hb.cell (p := ⟨b, o + i * 2 + 1, none⟩) hlt).trans h2⟩⟩
theorem cells_put9 : Try.prog.cellsOf 29 = 2 := by kernel_rfl
theorem cells_int9 : Try.prog.cellsOf 3 = 1 := by kernel_rfl
theorem cells_byte9 : Try.prog.cellsOf 5 = 1 := by kernel_rfl
section
variable {H : Type} {enc : TypeId × Value → H} {w : World} {base : Nat} {held : Bool} {fuel : Nat}
set_option maxRecDepth 100000 in
/-- One put, out of its two cells. -/
theorem put_of {spare : Nat → Bool} {cs : List Value} {y : DataW H × List MemPlace}
    (h : DataW.trod enc Try.prog w base spare held fuel 29 cs = some y) :
    ∃ x : Int × UInt8, cs = [.int .i64 x.1, .int .u8 (x.2.toNat : Int)] ∧ -9223372036854775808 ≤ x.1 ∧ x.1 < 9223372036854775808 := by
  obtain ⟨xs, m, _, _, hl, hxl, hf⟩ := DataW.trod_struct Try.underlying29 h
  rw [cells_put9] at hl
  match cs, hl with
  | [c0, c1], _ =>
    match xs, hxl with
    | [y0, y1], _ =>
      have h0 : DataW.trod enc Try.prog w base spare held m 3 (([c0, c1].drop 0).take (Try.prog.cellsOf 3)) = some y0 := hf 0 _ rfl
      have h1 : DataW.trod enc Try.prog w base spare held m 5 (([c0, c1].drop 1).take (Try.prog.cellsOf 5)) = some y1 := hf 1 _ rfl
      rw [cells_int9] at h0
      rw [cells_byte9] at h1
      obtain ⟨a, e0, _, w0⟩ := DataW.trod_int Try.underlying3 (show DataW.trod enc Try.prog w base spare held m 3 [c0] = some y0 from h0)
      obtain ⟨z, e1, _, w1⟩ := DataW.trod_int Try.underlying5 (show DataW.trod enc Try.prog w base spare held m 5 [c1] = some y1 from h1)
      injection e0 with e0
      injection e1 with e1
      subst e0; subst e1
      have := bounds_u8 w1
      have h64 := bounds_i64 w0
      exact ⟨(a, UInt8.ofNat z.toNat), by
        have e : ((UInt8.ofNat z.toNat).toNat : Int) = z := by rw [UInt8.toNat_ofNat']; omega
        show _ = [Value.int .i64 a, Value.int .u8 ((UInt8.ofNat z.toNat).toNat : Int)]
        rw [e], h64.1, by show a < _; omega⟩
set_option maxRecDepth 100000 in
theorem arg_puts {v : Value} {d : DataW H} {p : List MemPlace} {r : Reach} {b0 : Nat} (hv : Value.okWide Try.prog w r b0 22 v) (h : DataW.Trod enc Try.prog w base (fun _ => true) held 22 v d p) :
    ∃ A cp, ∃ its : List (Int × UInt8), v = .slice A its.length cp ∧ Puts w A its.length cp its ∧ ∀ x ∈ its, -9223372036854775808 ≤ x.1 ∧ x.1 < 9223372036854775808 := by
  obtain ⟨a0, len0, cap0, rfl⟩ := okWide_slice Try.underlying22 hv
  obtain ⟨fuel, hf⟩ := h
  rcases open_slice Try.underlying22 hf with ⟨hcs, _⟩ | ⟨a, len, cap, m, n, D, Pl, hcs, _, hl, hm, hmm, _, hi⟩
  · simp [Value.cells] at hcs
    obtain ⟨rfl, rfl, rfl⟩ := hcs
    exact ⟨none, 0, [], rfl, ⟨rfl, Nat.le_refl _, by decide, fun i x hx => by simp at hx⟩, fun x hx => by cases hx⟩
  · simp [Value.cells] at hcs
    obtain ⟨rfl, rfl, rfl⟩ := hcs
    simp only [if_true] at hmm
    have each : ∀ i, i < len0 → ∃ x : Int × UInt8, (∀ (j : Nat) u, [Value.int .i64 x.1, .int .u8 (x.2.toNat : Int)][j]? = some u → w.cell? ((a.add (i * 2)).add j) = some u) ∧ -9223372036854775808 ≤ x.1 ∧ x.1 < 9223372036854775808 := by
      intro i hi'
      obtain ⟨cs', hc, ht⟩ := hi i (by omega)
      obtain ⟨x, rfl, hx⟩ := put_of ht
      rw [cells_put9] at hc
      obtain ⟨_, _, hat⟩ := World.cells?_some hc
      refine ⟨x, fun j u hu => ?_, hx⟩
      have hj : j < 2 := by
        rcases Nat.lt_or_ge j 2 with h' | h'
        · exact h'
        · rw [List.getElem?_eq_none (by simpa using h')] at hu; cases hu
      rw [hat j hj, hu]
    obtain ⟨y, hy⟩ := choose_lt each
    refine ⟨some a, cap0, (List.range len0).map y, by simp, ⟨by simp, by simpa using hl, hm, fun i x hx => ?_⟩, fun x hx => ?_⟩
    · have hin : i < len0 := by
        rcases Nat.lt_or_ge i len0 with h' | h'
        · exact h'
        · rw [List.getElem?_eq_none (by simpa using h')] at hx; cases hx
      rw [List.getElem?_map, List.getElem?_range hin, Option.map_some] at hx
      injection hx with hx
      have hcell := (hy i hin).1
      rw [hx] at hcell
      obtain ⟨b, o, spot⟩ := a
      have hspot : spot = none := by
        have h0 := (hy 0 (by omega)).1 0 _ rfl
        simpa [Addr.add] using World.cell?_spot h0
      subst hspot
      simp only [Addr.add_lit] at hcell
      exact ⟨b, o, rfl, hcell 0 _ rfl, hcell 1 _ rfl⟩
    · obtain ⟨i, hi', rfl⟩ := List.mem_map.mp hx
      exact (hy i (List.mem_range.mp hi')).2
end
end Go.Proofs.Ytmlmlmlbdjhfhaa
