/-
  An argument of type []Spot (layer 8) as it is read. No condition.
-/
import Derived.Test.YtabcmjbcnmedhaaGreatDqp
import Derived.Test.YtabcmjbcnmedhaaGreatOpr
import Derived.Deep.Slices
import Derived.Deep.Fields
namespace Go.Proofs.YtabcmjbcnmedhaaGreat
open Go.ChangeShapes Go.WideShapes Go.ChangeAt Go.RowKit Go.Proofs Go.Deep
set_option linter.unusedVariables false

theorem cells_spot : Tryz.prog.cellsOf 41 = 3 := by kernel_rfl
theorem cells_int8 : Tryz.prog.cellsOf 3 = 1 := by kernel_rfl
theorem cells_byte8 : Tryz.prog.cellsOf 5 = 1 := by kernel_rfl
section
variable {H : Type} {enc : TypeId × Value → H} {w : World} {base : Nat} {held : Bool} {fuel : Nat}
set_option maxRecDepth 100000 in
/-- One spot, out of its three cells. -/
theorem spot_of {spare : Nat → Bool} {cs : List Value} {y : DataW H × List MemPlace}
    (h : DataW.trod enc Tryz.prog w base spare held fuel 41 cs = some y) :
    ∃ x : Int × Int × UInt8, cs = [.int .i64 x.1, .int .i64 x.2.1, .int .u8 (x.2.2.toNat : Int)] := by
  obtain ⟨xs, m, _, _, hl, hxl, hf⟩ := DataW.trod_struct Tryz.underlying41 h
  rw [cells_spot] at hl
  match cs, hl with
  | [c0, c1, c2], _ =>
    match xs, hxl with
    | [y0, y1, y2], _ =>
      have h0 : DataW.trod enc Tryz.prog w base spare held m 3 (([c0, c1, c2].drop 0).take (Tryz.prog.cellsOf 3)) = some y0 := hf 0 _ rfl
      have h1 : DataW.trod enc Tryz.prog w base spare held m 3 (([c0, c1, c2].drop 1).take (Tryz.prog.cellsOf 3)) = some y1 := hf 1 _ rfl
      have h2 : DataW.trod enc Tryz.prog w base spare held m 5 (([c0, c1, c2].drop 2).take (Tryz.prog.cellsOf 5)) = some y2 := hf 2 _ rfl
      rw [cells_int8] at h0 h1
      rw [cells_byte8] at h2
      obtain ⟨a, e0, _, w0⟩ := DataW.trod_int Tryz.underlying3 (show DataW.trod enc Tryz.prog w base spare held m 3 [c0] = some y0 from h0)
      obtain ⟨b, e1, _, w1⟩ := DataW.trod_int Tryz.underlying3 (show DataW.trod enc Tryz.prog w base spare held m 3 [c1] = some y1 from h1)
      obtain ⟨z, e2, _, w2⟩ := DataW.trod_int Tryz.underlying5 (show DataW.trod enc Tryz.prog w base spare held m 5 [c2] = some y2 from h2)
      injection e0 with e0
      injection e1 with e1
      injection e2 with e2
      subst e0; subst e1; subst e2
      have := bounds_u8 w2
      exact ⟨(a, b, UInt8.ofNat z.toNat), by
        have e : ((UInt8.ofNat z.toNat).toNat : Int) = z := by rw [UInt8.toNat_ofNat']; omega
        show _ = [Value.int .i64 a, Value.int .i64 b, Value.int .u8 ((UInt8.ofNat z.toNat).toNat : Int)]
        rw [e]⟩
set_option maxRecDepth 100000 in
theorem arg_spots {v : Value} {d : DataW H} {p : List MemPlace} {r : Reach} {b0 : Nat} (hv : Value.okWide Tryz.prog w r b0 31 v) (h : DataW.Trod enc Tryz.prog w base (fun _ => true) held 31 v d p) :
    ∃ A cp, ∃ its : List (Int × Int × UInt8), v = .slice A its.length cp ∧ Spots w A its.length cp its := by
  obtain ⟨a0, len0, cap0, rfl⟩ := okWide_slice Tryz.underlying31 hv
  obtain ⟨fuel, hf⟩ := h
  rcases open_slice Tryz.underlying31 hf with ⟨hcs, _⟩ | ⟨a, len, cap, m, n, D, Pl, hcs, _, hl, hm, hmm, _, hi⟩
  · simp [Value.cells] at hcs
    obtain ⟨rfl, rfl, rfl⟩ := hcs
    exact ⟨none, 0, [], rfl, rfl, Nat.le_refl _, by decide, fun i x hx => by simp at hx⟩
  · simp [Value.cells] at hcs
    obtain ⟨rfl, rfl, rfl⟩ := hcs
    simp only [if_true] at hmm
    have each : ∀ i, i < len0 → ∃ x : Int × Int × UInt8, ∀ (j : Nat) u, [Value.int .i64 x.1, .int .i64 x.2.1, .int .u8 (x.2.2.toNat : Int)][j]? = some u → w.cell? ((a.add (i * 3)).add j) = some u := by
      intro i hi'
      obtain ⟨cs', hc, ht⟩ := hi i (by omega)
      obtain ⟨x, rfl⟩ := spot_of ht
      rw [cells_spot] at hc
      obtain ⟨_, _, hat⟩ := World.cells?_some hc
      refine ⟨x, fun j u hu => ?_⟩
      have hj : j < 3 := by
        rcases Nat.lt_or_ge j 3 with h' | h'
        · exact h'
        · rw [List.getElem?_eq_none (by simpa using h')] at hu; cases hu
      rw [hat j hj, hu]
    obtain ⟨y, hy⟩ := choose_lt each
    refine ⟨some a, cap0, (List.range len0).map y, by simp, by simp, by simpa using hl, hm, fun i x hx => ?_⟩
    have hin : i < len0 := by
      rcases Nat.lt_or_ge i len0 with h' | h'
      · exact h'
      · rw [List.getElem?_eq_none (by simpa using h')] at hx; cases hx
    rw [List.getElem?_map, List.getElem?_range hin, Option.map_some] at hx
    injection hx with hx
    have hcell := hy i hin
    rw [hx] at hcell
    obtain ⟨b, o, spot⟩ := a
    have hspot : spot = none := by
      have h0 := hy 0 (by omega) 0 _ rfl
      simpa [Addr.add] using World.cell?_spot h0
    subst hspot
    simp only [Addr.add_lit] at hcell
    exact ⟨b, o, rfl, hcell 0 _ rfl, hcell 1 _ rfl, hcell 2 _ rfl⟩
end
end Go.Proofs.YtabcmjbcnmedhaaGreat
