/-
  Arguments as they are read: rows of bytes. No condition.
-/
import Derived.Test.YtpijfghklgmefaaDoorRa
import Derived.Test.YtpijfghklgmefaaDoorOpi
import Derived.ProofKit
import Derived.OpenShut
import Derived.ChangeOld
import Derived.Deep.Matrix
namespace Go.Proofs.YtpijfghklgmefaaDoor
open Go.ChangeShapes Go.WideShapes Go.ChangeAt Go.RowKit Go.Proofs Go.Deep
set_option linter.unusedVariables false

section
variable {H : Type} {enc : TypeId × Value → H} {w : World} {base : Nat} {held : Bool} {fuel : Nat}
set_option maxRecDepth 100000 in
theorem arg_rows {v : Value} {d : DataW H} {p : List MemPlace} {r : Reach} {b0 : Nat} (hv : Value.okWide Tryd.prog w r b0 33 v) (h : DataW.Trod enc Tryd.prog w base (fun _ => true) held 33 v d p) :
    ∃ A cp, ∃ rs : List (List UInt8), v = .slice A rs.length cp ∧ Gr w A rs.length cp rs := by
  obtain ⟨A, n, cp, rfl⟩ := okWide_slice Tryd.underlying33 hv
  obtain ⟨fuel, hf⟩ := h
  rcases open_int_rows Tryd.underlying33 Tryd.underlying26 Tryd.underlying5 (by kernel_rfl) (by kernel_rfl) hf with ⟨hcs, _⟩ | ⟨a, len, cap, Ar, L, C, Z, hcs, _, hl, hm, _, hrow⟩
  · simp [Value.cells] at hcs
    obtain ⟨rfl, rfl, rfl⟩ := hcs
    exact ⟨none, 0, [], rfl, Gr.nil w 0 (by decide)⟩
  · simp [Value.cells] at hcs
    obtain ⟨rfl, rfl, rfl⟩ := hcs
    have each : ∀ i, i < n → ∃ l : List UInt8, L i = l.length ∧ Sl w 1 (Ar i) l.length (C i) (cells l) := by
      intro i hi
      obtain ⟨_, h1, h2, h3, h4, h5, h6⟩ := hrow i (by omega)
      have hr : IsRow .u8 w (Ar i) (L i) (C i) (Z i) := by
        rcases hA : Ar i with _ | x
        · have hC := h5 hA
          exact .inl ⟨rfl, by omega, hC, List.eq_nil_of_length_eq_zero (by omega)⟩
        · exact .inr ⟨x, rfl, h1, h2, h3, fun j hj => (h6 x hA).2 j (by omega), h4⟩
      obtain ⟨l, hs⟩ := hr.sl
      have := hs.len
      rw [cells_length, Nat.mul_one] at this
      exact ⟨l, this.symm, by rw [this]; exact hs⟩
    obtain ⟨y, hy⟩ := choose_lt each
    refine ⟨some a, cp, (List.range n).map y, by simp, ⟨⟨(List.range n).map fun i => .slice (Ar i) (L i) (C i), ⟨by simp, by simpa using hl, hm, fun j u hu => ?_⟩, fun i r hi => ?_⟩, rfl⟩⟩
    · have hj : j < n := by
        rcases Nat.lt_or_ge j n with h' | h'
        · exact h'
        · rw [List.getElem?_eq_none (by simpa using h')] at hu; cases hu
      rw [List.getElem?_map, List.getElem?_range hj, Option.map_some] at hu
      injection hu with hu
      have hc := (hrow j (by omega)).1
      obtain ⟨b, off, spot⟩ := a
      have hspot : spot = none := by simpa [Addr.add] using World.cell?_spot (hrow 0 (by omega)).1
      subst hspot
      rw [Go.WideShapes.add_plain, hu] at hc
      exact ⟨b, off, rfl, hc⟩
    · have hin : i < n := by
        rcases Nat.lt_or_ge i n with h' | h'
        · exact h'
        · rw [List.getElem?_eq_none (by simpa using h')] at hi; cases hi
      rw [List.getElem?_map, List.getElem?_range hin, Option.map_some] at hi
      injection hi with hi
      obtain ⟨e1, e2⟩ := hy i hin
      rw [hi] at e1 e2
      exact ⟨Ar i, C i, by rw [List.getElem?_map, List.getElem?_range hin, Option.map_some, e1], e2⟩
end
end Go.Proofs.YtpijfghklgmefaaDoor
