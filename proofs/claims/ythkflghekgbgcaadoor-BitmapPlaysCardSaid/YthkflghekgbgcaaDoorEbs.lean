/-
  An argument of type []Act (layer 12) as it is read. No condition.
-/
import Derived.Test.YthkflghekgbgcaaDoorOpi
import Derived.Deep.Slices
import Derived.Deep.Fields
namespace Go.Proofs.YthkflghekgbgcaaDoor
open Go.ChangeShapes Go.WideShapes Go.ChangeAt Go.RowKit Go.Proofs Go.Deep
set_option linter.unusedVariables false

/-- An act: what the law's Act reads as. -/
structure Ac12 where
  kind : Int
  at_ : Int
  many : Int
instance : Inhabited Ac12 := ⟨⟨0, 0, 0⟩⟩
namespace Ac12
def vals (a : Ac12) : List Value := [.int .i64 a.kind, .int .i64 a.at_, .int .i64 a.many]
structure Ok (a : Ac12) : Prop where
  at1 : -9223372036854775808 ≤ a.at_
  at2 : a.at_ < 9223372036854775808
  many1 : -9223372036854775808 ≤ a.many
  many2 : a.many < 9223372036854775808
end Ac12
/-- The slice reads as acts. -/
structure Acts12 (w : World) (A : Option Addr) (n c : Nat) (its : List Ac12) : Prop where
  len : its.length = n
  cap : n ≤ c
  top : c ≤ maxLen
  cell : ∀ (i : Nat) (x : Ac12), its[i]? = some x → ∃ b o, A = some ⟨b, o, none⟩ ∧ (∀ (j : Nat) u, x.vals[j]? = some u → w.cell? ⟨b, o + i * 3 + j, none⟩ = some u) ∧ x.Ok
theorem Acts12.below {w w' : World} {A : Option Addr} {n c : Nat} {its : List Ac12} (h : Acts12 w A n c its) (hb : Below w.heap.size w w') : Acts12 w' A n c its :=
  ⟨h.len, h.cap, h.top, fun i x hx => by
    obtain ⟨b, o, e, h1, h2⟩ := h.cell i x hx
    exact ⟨b, o, e, fun j u hu => (hb.cell (p := ⟨b, o + i * 3 + j, none⟩) (World.block_lt_of_cell? w _ (h1 j u hu))).trans (h1 j u hu), h2⟩⟩
theorem cells_act12 : Tryd.prog.cellsOf 29 = 3 := by kernel_rfl
theorem cells_int12 : Tryd.prog.cellsOf 3 = 1 := by kernel_rfl
section
variable {H : Type} {enc : TypeId × Value → H} {w : World} {base : Nat} {held : Bool} {fuel : Nat}
set_option maxRecDepth 100000
/-- One act, out of its three cells. -/
theorem act12_of {cs : List Value} {y : DataW H × List MemPlace}
    (h : DataW.trod enc Tryd.prog w base (fun _ => true) held fuel 29 cs = some y) : ∃ x : Ac12, cs = x.vals ∧ x.Ok := by
  obtain ⟨xs, m, _, _, hl, hxl, hf⟩ := DataW.trod_struct Tryd.underlying29 h
  rw [cells_act12] at hl
  match cs, hl with
  | [c0, c1, c2], _ =>
    match xs, hxl with
    | [y0, y1, y2], _ =>
      have h0 : DataW.trod enc Tryd.prog w base (fun _ => true) held m 3 (([c0, c1, c2].drop 0).take (Tryd.prog.cellsOf 3)) = some y0 := hf 0 _ rfl
      have h1 : DataW.trod enc Tryd.prog w base (fun _ => true) held m 3 (([c0, c1, c2].drop 1).take (Tryd.prog.cellsOf 3)) = some y1 := hf 1 _ rfl
      have h2 : DataW.trod enc Tryd.prog w base (fun _ => true) held m 3 (([c0, c1, c2].drop 2).take (Tryd.prog.cellsOf 3)) = some y2 := hf 2 _ rfl
      rw [cells_int12] at h0 h1 h2
      obtain ⟨a0, e0, _, w0⟩ := DataW.trod_int Tryd.underlying3 (show DataW.trod enc Tryd.prog w base (fun _ => true) held m 3 [c0] = some y0 from h0)
      obtain ⟨a1, e1, _, w1⟩ := DataW.trod_int Tryd.underlying3 (show DataW.trod enc Tryd.prog w base (fun _ => true) held m 3 [c1] = some y1 from h1)
      obtain ⟨a2, e2, _, w2⟩ := DataW.trod_int Tryd.underlying3 (show DataW.trod enc Tryd.prog w base (fun _ => true) held m 3 [c2] = some y2 from h2)
      injection e0 with e0
      injection e1 with e1
      injection e2 with e2
      subst e0 e1 e2
      have b1 := bounds_i64 w1
      have b2 := bounds_i64 w2
      exact ⟨⟨a0, a1, a2⟩, rfl, ⟨by show _ ≤ a1; omega, by show a1 < _; omega, by show _ ≤ a2; omega, by show a2 < _; omega⟩⟩
theorem arg_acts12 {v : Value} {d : DataW H} {p : List MemPlace} {r : Reach} {b0 : Nat} (hv : Value.okWide Tryd.prog w r b0 22 v) (h : DataW.Trod enc Tryd.prog w base (fun _ => true) held 22 v d p) :
    ∃ A cp, ∃ its : List Ac12, v = .slice A its.length cp ∧ Acts12 w A its.length cp its := by
  obtain ⟨a0, len0, cap0, rfl⟩ := okWide_slice Tryd.underlying22 hv
  obtain ⟨fuel, hf⟩ := h
  rcases open_slice Tryd.underlying22 hf with ⟨hcs, _⟩ | ⟨a, len, cap, m, n, D, Pl, hcs, _, hl, hm, hmm, _, hi⟩
  · simp [Value.cells] at hcs
    obtain ⟨rfl, rfl, rfl⟩ := hcs
    exact ⟨none, 0, [], rfl, rfl, Nat.le_refl _, by decide, fun i x hx => by simp at hx⟩
  · simp [Value.cells] at hcs
    obtain ⟨rfl, rfl, rfl⟩ := hcs
    simp only [if_true] at hmm
    have each : ∀ i, i < len0 → ∃ x : Ac12, (∀ (j : Nat) u, x.vals[j]? = some u → w.cell? ((a.add (i * 3)).add j) = some u) ∧ x.Ok := by
      intro i hi'
      obtain ⟨cs', hc, ht⟩ := hi i (by omega)
      obtain ⟨x, rfl, hx⟩ := act12_of ht
      rw [cells_act12] at hc
      obtain ⟨_, _, hat⟩ := World.cells?_some hc
      refine ⟨x, fun j u hu => ?_, hx⟩
      have hj : j < 3 := by
        rcases Nat.lt_or_ge j 3 with h' | h'
        · exact h'
        · rw [List.getElem?_eq_none (by simpa [Ac12.vals] using h')] at hu; cases hu
      rw [hat j hj, hu]
    obtain ⟨y, hy⟩ := choose_lt each
    refine ⟨some a, cap0, (List.range len0).map y, by simp, by simp, by simpa using hl, hm, fun i x hx => ?_⟩
    have hin : i < len0 := by
      rcases Nat.lt_or_ge i len0 with h' | h'
      · exact h'
      · rw [List.getElem?_eq_none (by simpa using h')] at hx; cases hx
    rw [List.getElem?_map, List.getElem?_range hin, Option.map_some] at hx
    injection hx with hx
    obtain ⟨hcell, hs⟩ := hy i hin
    rw [hx] at hcell hs
    obtain ⟨b, o, spot⟩ := a
    have hspot : spot = none := by
      have h0 := (hy 0 (by omega)).1 0 _ rfl
      simpa [Addr.add] using World.cell?_spot h0
    subst hspot
    simp only [Addr.add_lit] at hcell
    exact ⟨b, o, rfl, hcell, hs⟩
end
end Go.Proofs.YthkflghekgbgcaaDoor
