/-
  A record as an argument: what it reads as. No condition.
-/
import Derived.Test.YtpijfghklgmefaaDoorOpi
import Derived.Test.YtpijfghklgmefaaDoorFrg
import Derived.Lib.SmallJoins
import Derived.Deep.Slices
import Derived.Deep.Fields
namespace Go.Proofs.YtpijfghklgmefaaDoor
open Go.ChangeShapes Go.WideShapes Go.ChangeAt Go.RowKit Go.Proofs Go.Deep
set_option linter.unusedVariables false

theorem cells_str17 : Tryd.prog.cellsOf 9 = 1 := by kernel_rfl
theorem cells_bool17 : Tryd.prog.cellsOf 4 = 1 := by kernel_rfl
theorem cells_blob17 : Tryd.prog.cellsOf 55 = 3 := by kernel_rfl
theorem cells_chg17 : Tryd.prog.cellsOf 57 = 5 := by kernel_rfl
theorem cells_rec17 : Tryd.prog.cellsOf 25 = 2 := by kernel_rfl
theorem cells_int17 : Tryd.prog.cellsOf 3 = 1 := by kernel_rfl
theorem cells_ints17 : Tryd.prog.cellsOf 49 = 1 := by kernel_rfl
theorem cells_u6417 : Tryd.prog.cellsOf 22 = 1 := by kernel_rfl
section
variable {H : Type} {enc : TypeId × Value → H} {w : World} {base : Nat} {held : Bool} {fuel : Nat}
set_option maxRecDepth 100000
theorem cell_ints17 {m : Nat} {c0 : Value} {y : DataW H × List MemPlace} (h : DataW.trod enc Tryd.prog w base (fun _ => true) held m 49 [c0] = some y) :
    ∃ A cp, ∃ l : List Int, c0 = .slice A l.length cp ∧ Sl w 1 A l.length cp (icells l) := by
  rcases open_ints Tryd.underlying49 Tryd.underlying3 (by kernel_rfl) h with ⟨hcs, _⟩ | ⟨x, l, c, zs, hcs, _, hl, hm, hz, _, hcell, hwz⟩
  · injection hcs with hcs
    exact ⟨none, 0, [], hcs, Sl.nil w 1 0 (by decide)⟩
  · injection hcs with hcs
    obtain ⟨k, hk, hs, hb⟩ := IsRow.sli (.inr ⟨_, rfl, hl, hm, by simpa using hz, hcell, hwz⟩)
    subst hk
    exact ⟨_, _, k, hcs, hs⟩
/-- A blob, out of its three cells. -/
theorem blob17_of {cs : List Value} {y : DataW H × List MemPlace} (h : DataW.trod enc Tryd.prog w base (fun _ => true) held fuel 55 cs = some y) :
    ∃ A cp, ∃ l : List Int, ∃ (g : Nat) (q : Int), cs = [.slice A l.length cp, .int .u64 (g : Int), .int .i64 q] ∧ Sl w 1 A l.length cp (icells l) ∧ g < 18446744073709551616 := by
  obtain ⟨xs, m, _, _, hl, hxl, hf⟩ := DataW.trod_struct Tryd.underlying55 h
  rw [cells_blob17] at hl
  match cs, hl with
  | [c0, c1, c2], _ =>
    match xs, hxl with
    | [y0, y1, y2], _ =>
      have h0 : DataW.trod enc Tryd.prog w base (fun _ => true) held m 49 (([c0, c1, c2].drop 0).take (Tryd.prog.cellsOf 49)) = some y0 := hf 0 _ rfl
      have h1 : DataW.trod enc Tryd.prog w base (fun _ => true) held m 22 (([c0, c1, c2].drop 1).take (Tryd.prog.cellsOf 22)) = some y1 := hf 1 _ rfl
      have h2 : DataW.trod enc Tryd.prog w base (fun _ => true) held m 3 (([c0, c1, c2].drop 2).take (Tryd.prog.cellsOf 3)) = some y2 := hf 2 _ rfl
      rw [cells_ints17] at h0
      rw [cells_u6417] at h1
      rw [cells_int17] at h2
      obtain ⟨A, cp, l, e0, hs⟩ := cell_ints17 (show DataW.trod enc Tryd.prog w base (fun _ => true) held m 49 [c0] = some y0 from h0)
      obtain ⟨a1, e1, _, w1⟩ := DataW.trod_int Tryd.underlying22 (show DataW.trod enc Tryd.prog w base (fun _ => true) held m 22 [c1] = some y1 from h1)
      obtain ⟨a2, e2, _, w2⟩ := DataW.trod_int Tryd.underlying3 (show DataW.trod enc Tryd.prog w base (fun _ => true) held m 3 [c2] = some y2 from h2)
      injection e1 with e1
      injection e2 with e2
      subst e0 e1 e2
      have b1 := bounds_u64 w1
      have q1 : ((a1.toNat : Nat) : Int) = a1 := by omega
      exact ⟨A, cp, l, a1.toNat, a2, by rw [q1], hs, by omega⟩
/-- A change, out of its five cells. -/
theorem change17_of {cs : List Value} {y : DataW H × List MemPlace} (h : DataW.trod enc Tryd.prog w base (fun _ => true) held fuel 57 cs = some y) :
    ∃ v : CvF, cs = v.vals ∧ v.Ok w ∧ v.x.g < 18446744073709551616 := by
  obtain ⟨xs, m, _, _, hl, hxl, hf⟩ := DataW.trod_struct Tryd.underlying57 h
  rw [cells_chg17] at hl
  match cs, hl with
  | [c0, c1, c2, c3, c4], _ =>
    match xs, hxl with
    | [y0, y1, y2], _ =>
      have h0 : DataW.trod enc Tryd.prog w base (fun _ => true) held m 9 (([c0, c1, c2, c3, c4].drop 0).take (Tryd.prog.cellsOf 9)) = some y0 := hf 0 _ rfl
      have h1 : DataW.trod enc Tryd.prog w base (fun _ => true) held m 4 (([c0, c1, c2, c3, c4].drop 1).take (Tryd.prog.cellsOf 4)) = some y1 := hf 1 _ rfl
      have h2 : DataW.trod enc Tryd.prog w base (fun _ => true) held m 55 (([c0, c1, c2, c3, c4].drop 2).take (Tryd.prog.cellsOf 55)) = some y2 := hf 2 _ rfl
      rw [cells_str17] at h0
      rw [cells_bool17] at h1
      rw [cells_blob17] at h2
      obtain ⟨k, e0, _⟩ := DataW.trod_string Tryd.underlying9 (show DataW.trod enc Tryd.prog w base (fun _ => true) held m 9 [c0] = some y0 from h0)
      obtain ⟨d, e1, _⟩ := DataW.trod_bool Tryd.underlying4 (show DataW.trod enc Tryd.prog w base (fun _ => true) held m 4 [c1] = some y1 from h1)
      obtain ⟨A, cp, l, g, q, e2, hs, hg⟩ := blob17_of (show DataW.trod enc Tryd.prog w base (fun _ => true) held m 55 [c2, c3, c4] = some y2 from h2)
      injection e0 with e0
      injection e1 with e1
      injection e2 with e2 e3
      injection e3 with e3 e4
      injection e4 with e4
      subst e0 e1 e2 e3 e4
      exact ⟨⟨⟨k, d, l, g, q⟩, A, cp⟩, rfl, hs, hg⟩
instance : Inhabited CvF := ⟨⟨⟨⟨#[]⟩, false, [], 0, 0⟩, none, 0⟩⟩
theorem arg_rec17 {v : Value} {d : DataW H} {p : List MemPlace} {r : Reach} {b0 : Nat} (hv : Value.okWide Tryd.prog w r b0 25 v) (h : DataW.Trod enc Tryd.prog w base (fun _ => true) held 25 v d p) :
    ∃ (st : Nat) (A : Option Addr) (cp : Nat) (vs : List CvF), v = .agg #[.int .u64 (st : Int), .slice A vs.length cp] ∧ st < 18446744073709551616 ∧ Chs w A vs.length cp vs ∧ ∀ x ∈ vs, x.x.g < 18446744073709551616 := by
  obtain ⟨c0, c1, y0, y1, m, rfl, rfl, rfl, hy0, hf⟩ := Go.Joins.open_agg2 Tryd.underlying25 (by kernel_rfl) cells_rec17 hv h
  obtain ⟨a0, e0, _, w0⟩ := DataW.trod_int Tryd.underlying22 hy0
  injection e0 with e0
  subst e0
  have b0 := bounds_u64 w0
  have q0 : ((a0.toNat : Nat) : Int) = a0 := by omega
  rcases open_slice Tryd.underlying23 hf with ⟨hcs, _⟩ | ⟨a, len, cap, m, n, d0, pl17, hcs, _, hl, hm, hmm, _, hi⟩
  · injection hcs with hcs
    subst hcs
    exact ⟨a0.toNat, none, 0, [], by rw [q0]; rfl, by omega, ⟨rfl, Nat.le_refl _, by decide, fun i x hx => by simp at hx⟩, fun x hx => by cases hx⟩
  · injection hcs with hcs
    subst hcs
    simp only [if_true] at hmm
    have each : ∀ i, i < len → ∃ x : CvF, (∀ (j : Nat) u, x.vals[j]? = some u → w.cell? ((a.add (i * 5)).add j) = some u) ∧ x.Ok w ∧ x.x.g < 18446744073709551616 := by
      intro i hi'
      obtain ⟨cs', hc, ht⟩ := hi i (by omega)
      obtain ⟨x, rfl, hx⟩ := change17_of ht
      rw [cells_chg17] at hc
      obtain ⟨_, _, hat⟩ := World.cells?_some hc
      refine ⟨x, fun j u hu => ?_, hx⟩
      have hj : j < 5 := by
        rcases Nat.lt_or_ge j 5 with h' | h'
        · exact h'
        · rw [List.getElem?_eq_none (by simpa [CvF.vals] using h')] at hu; cases hu
      rw [hat j hj, hu]
    obtain ⟨y, hy⟩ := choose_lt each
    refine ⟨a0.toNat, some a, cap, (List.range len).map y, by simp [q0], by omega, ⟨by simp, by simpa using hl, hm, fun i x hx => ?_⟩, fun x hx => ?_⟩
    · have hin : i < len := by
        rcases Nat.lt_or_ge i len with h' | h'
        · exact h'
        · rw [List.getElem?_eq_none (by simpa using h')] at hx; cases hx
      rw [List.getElem?_map, List.getElem?_range hin, Option.map_some] at hx
      injection hx with hx
      obtain ⟨hcell, hs, _⟩ := hy i hin
      rw [hx] at hcell hs
      obtain ⟨b, o, spot⟩ := a
      have hspot : spot = none := by
        have h0 := (hy 0 (by omega)).1 0 _ rfl
        simpa [Addr.add] using World.cell?_spot h0
      subst hspot
      simp only [Addr.add_lit] at hcell
      exact ⟨b, o, rfl, hcell, hs⟩
    · obtain ⟨i, hi2, rfl⟩ := List.mem_map.1 hx
      exact (hy i (List.mem_range.1 hi2)).2.2
end
end Go.Proofs.YtpijfghklgmefaaDoor
