/-
  An argument of type []Act (layer 9) as it is read. No condition.
-/
import Derived.Test.YtmlmlmlbdjhfhaaOpi
import Derived.Test.YtmlmlmlbdjhfhaaDrr
import Derived.Deep.Slices
import Derived.Deep.Fields
namespace Go.Proofs.Ytmlmlmlbdjhfhaa
open Go.ChangeShapes Go.WideShapes Go.ChangeAt Go.RowKit Go.Proofs Go.Deep
set_option linter.unusedVariables false

/-- An act: what the law's Act reads as; ks, b: its lists, with where they lie. -/
structure Ac where
  kind : Int
  at_ : Int
  off : Int
  c : UInt8
  mask : Nat
  ks : List Bool
  KA : Option Addr
  kc : Nat
  b : List UInt8
  BA : Option Addr
  bc : Nat
instance : Inhabited Ac := ⟨⟨0, 0, 0, 0, 0, [], none, 0, [], none, 0⟩⟩
namespace Ac
def vals (a : Ac) : List Value := [.int .i64 a.kind, .int .i64 a.at_, .int .i64 a.off, .int .u8 (a.c.toNat : Int), .int .u32 (a.mask : Int), .slice a.KA a.ks.length a.kc, .slice a.BA a.b.length a.bc]
structure Ok (w : World) (a : Ac) : Prop where
  at1 : -9223372036854775808 ≤ a.at_
  at2 : a.at_ < 9223372036854775808
  off1 : -9223372036854775808 ≤ a.off
  off2 : a.off < 9223372036854775808
  mask : a.mask < 4294967296
  ks : Sl w 1 a.KA a.ks.length a.kc (bcells a.ks)
  b : Sl w 1 a.BA a.b.length a.bc (cells a.b)
end Ac
/-- The slice reads as acts. -/
structure Acts (w : World) (A : Option Addr) (n c : Nat) (its : List Ac) : Prop where
  len : its.length = n
  cap : n ≤ c
  top : c ≤ maxLen
  cell : ∀ (i : Nat) (x : Ac), its[i]? = some x → ∃ b o, A = some ⟨b, o, none⟩ ∧ (∀ (j : Nat) u, x.vals[j]? = some u → w.cell? ⟨b, o + i * 7 + j, none⟩ = some u) ∧ x.Ok w
theorem Ac.Ok.below {w w' : World} {a : Ac} (h : a.Ok w) (hb : Below w.heap.size w w') : a.Ok w' := ⟨h.at1, h.at2, h.off1, h.off2, h.mask, h.ks.below hb (Nat.le_refl _), h.b.below hb (Nat.le_refl _)⟩
theorem Acts.below {w w' : World} {A : Option Addr} {n c : Nat} {its : List Ac} (h : Acts w A n c its) (hb : Below w.heap.size w w') : Acts w' A n c its :=
  ⟨h.len, h.cap, h.top, fun i x hx => by
    obtain ⟨b, o, e, h1, h2⟩ := h.cell i x hx
    exact ⟨b, o, e, fun j u hu => (hb.cell (p := ⟨b, o + i * 7 + j, none⟩) (World.block_lt_of_cell? w _ (h1 j u hu))).trans (h1 j u hu), h2.below hb⟩⟩
theorem cells_act9 : Try.prog.cellsOf 52 = 7 := by kernel_rfl
theorem cells_int9a : Try.prog.cellsOf 3 = 1 := by kernel_rfl
theorem cells_byte9a : Try.prog.cellsOf 5 = 1 := by kernel_rfl
theorem cells_u32a : Try.prog.cellsOf 40 = 1 := by kernel_rfl
theorem cells_boolsa : Try.prog.cellsOf 23 = 1 := by kernel_rfl
theorem cells_bytesa : Try.prog.cellsOf 27 = 1 := by kernel_rfl
section
variable {H : Type} {enc : TypeId × Value → H} {w : World} {base : Nat} {held : Bool} {fuel : Nat}
set_option maxRecDepth 100000
theorem cell_bools {m : Nat} {c0 : Value} {y : DataW H × List MemPlace} (h : DataW.trod enc Try.prog w base (fun _ => true) held m 23 [c0] = some y) :
    ∃ A cp, ∃ l : List Bool, c0 = .slice A l.length cp ∧ Sl w 1 A l.length cp (bcells l) := by
  rcases open_bools Try.underlying23 Try.underlying4 (by kernel_rfl) h with ⟨hcs, _⟩ | ⟨a, len, cap, B, hcs, _, hl, hm, _, hcell⟩
  · injection hcs with hcs
    exact ⟨none, 0, [], hcs, Sl.nil w 1 0 (by decide)⟩
  · injection hcs with hcs
    exact ⟨some a, cap, (List.range len).map B, by rw [hcs]; simp, bools_sl hl hm hcell⟩
theorem cell_bytes {m : Nat} {c0 : Value} {y : DataW H × List MemPlace} (h : DataW.trod enc Try.prog w base (fun _ => true) held m 27 [c0] = some y) :
    ∃ A cp, ∃ l : List UInt8, c0 = .slice A l.length cp ∧ Sl w 1 A l.length cp (cells l) := by
  rcases open_ints Try.underlying27 Try.underlying5 (by kernel_rfl) h with ⟨hcs, _⟩ | ⟨x, l, c, zs, hcs, _, hl, hm, hz, _, hcell, hwz⟩
  · injection hcs with hcs
    exact ⟨none, 0, [], hcs, Sl.nil w 1 0 (by decide)⟩
  · injection hcs with hcs
    obtain ⟨q, hq⟩ := IsRow.sl (show IsRow .u8 w (some x) l c zs from .inr ⟨_, rfl, hl, hm, by simpa using hz, hcell, hwz⟩)
    have := hq.len
    rw [cells_length, Nat.mul_one] at this
    subst this
    exact ⟨some x, c, q, hcs, hq⟩
/-- One act, out of its seven cells. -/
theorem act_of {cs : List Value} {y : DataW H × List MemPlace}
    (h : DataW.trod enc Try.prog w base (fun _ => true) held fuel 52 cs = some y) : ∃ x : Ac, cs = x.vals ∧ x.Ok w := by
  obtain ⟨xs, m, _, _, hl, hxl, hf⟩ := DataW.trod_struct Try.underlying52 h
  rw [cells_act9] at hl
  match cs, hl with
  | [c0, c1, c2, c3, c4, c5, c6], _ =>
    match xs, hxl with
    | [y0, y1, y2, y3, y4, y5, y6], _ =>
      have h0 : DataW.trod enc Try.prog w base (fun _ => true) held m 3 (([c0, c1, c2, c3, c4, c5, c6].drop 0).take (Try.prog.cellsOf 3)) = some y0 := hf 0 _ rfl
      have h1 : DataW.trod enc Try.prog w base (fun _ => true) held m 3 (([c0, c1, c2, c3, c4, c5, c6].drop 1).take (Try.prog.cellsOf 3)) = some y1 := hf 1 _ rfl
      have h2 : DataW.trod enc Try.prog w base (fun _ => true) held m 3 (([c0, c1, c2, c3, c4, c5, c6].drop 2).take (Try.prog.cellsOf 3)) = some y2 := hf 2 _ rfl
      have h3 : DataW.trod enc Try.prog w base (fun _ => true) held m 5 (([c0, c1, c2, c3, c4, c5, c6].drop 3).take (Try.prog.cellsOf 5)) = some y3 := hf 3 _ rfl
      have h4 : DataW.trod enc Try.prog w base (fun _ => true) held m 40 (([c0, c1, c2, c3, c4, c5, c6].drop 4).take (Try.prog.cellsOf 40)) = some y4 := hf 4 _ rfl
      have h5 : DataW.trod enc Try.prog w base (fun _ => true) held m 23 (([c0, c1, c2, c3, c4, c5, c6].drop 5).take (Try.prog.cellsOf 23)) = some y5 := hf 5 _ rfl
      have h6 : DataW.trod enc Try.prog w base (fun _ => true) held m 27 (([c0, c1, c2, c3, c4, c5, c6].drop 6).take (Try.prog.cellsOf 27)) = some y6 := hf 6 _ rfl
      rw [cells_int9a] at h0 h1 h2
      rw [cells_byte9a] at h3
      rw [cells_u32a] at h4
      rw [cells_boolsa] at h5
      rw [cells_bytesa] at h6
      obtain ⟨a0, e0, _, w0⟩ := DataW.trod_int Try.underlying3 (show DataW.trod enc Try.prog w base (fun _ => true) held m 3 [c0] = some y0 from h0)
      obtain ⟨a1, e1, _, w1⟩ := DataW.trod_int Try.underlying3 (show DataW.trod enc Try.prog w base (fun _ => true) held m 3 [c1] = some y1 from h1)
      obtain ⟨a2, e2, _, w2⟩ := DataW.trod_int Try.underlying3 (show DataW.trod enc Try.prog w base (fun _ => true) held m 3 [c2] = some y2 from h2)
      obtain ⟨a3, e3, _, w3⟩ := DataW.trod_int Try.underlying5 (show DataW.trod enc Try.prog w base (fun _ => true) held m 5 [c3] = some y3 from h3)
      obtain ⟨a4, e4, _, w4⟩ := DataW.trod_int Try.underlying40 (show DataW.trod enc Try.prog w base (fun _ => true) held m 40 [c4] = some y4 from h4)
      obtain ⟨KA, kc, ks, e5, hks⟩ := cell_bools (show DataW.trod enc Try.prog w base (fun _ => true) held m 23 [c5] = some y5 from h5)
      obtain ⟨BA, bc, b, e6, hb⟩ := cell_bytes (show DataW.trod enc Try.prog w base (fun _ => true) held m 27 [c6] = some y6 from h6)
      injection e0 with e0
      injection e1 with e1
      injection e2 with e2
      injection e3 with e3
      injection e4 with e4
      subst e0 e1 e2 e3 e4 e5 e6
      have b1 := bounds_i64 w1
      have b2 := bounds_i64 w2
      have b3 := bounds_u8 w3
      have b4 := bounds_u32 w4
      refine ⟨⟨a0, a1, a2, UInt8.ofNat a3.toNat, a4.toNat, ks, KA, kc, b, BA, bc⟩, ?_, by show _ ≤ a1; omega, by show a1 < _; omega, by show _ ≤ a2; omega, by show a2 < _; omega, by show a4.toNat < _; omega, hks, hb⟩
      have q3 : ((UInt8.ofNat a3.toNat).toNat : Int) = a3 := by rw [UInt8.toNat_ofNat']; omega
      have q4 : ((a4.toNat : Nat) : Int) = a4 := by omega
      show _ = [Value.int .i64 a0, .int .i64 a1, .int .i64 a2, .int .u8 ((UInt8.ofNat a3.toNat).toNat : Int), .int .u32 ((a4.toNat : Nat) : Int), .slice KA ks.length kc, .slice BA b.length bc]
      rw [q3, q4]
theorem arg_acts {v : Value} {d : DataW H} {p : List MemPlace} {r : Reach} {b0 : Nat} (hv : Value.okWide Try.prog w r b0 45 v) (h : DataW.Trod enc Try.prog w base (fun _ => true) held 45 v d p) :
    ∃ A cp, ∃ its : List Ac, v = .slice A its.length cp ∧ Acts w A its.length cp its := by
  obtain ⟨a0, len0, cap0, rfl⟩ := okWide_slice Try.underlying45 hv
  obtain ⟨fuel, hf⟩ := h
  rcases open_slice Try.underlying45 hf with ⟨hcs, _⟩ | ⟨a, len, cap, m, n, D, Pl, hcs, _, hl, hm, hmm, _, hi⟩
  · simp [Value.cells] at hcs
    obtain ⟨rfl, rfl, rfl⟩ := hcs
    exact ⟨none, 0, [], rfl, rfl, Nat.le_refl _, by decide, fun i x hx => by simp at hx⟩
  · simp [Value.cells] at hcs
    obtain ⟨rfl, rfl, rfl⟩ := hcs
    simp only [if_true] at hmm
    have each : ∀ i, i < len0 → ∃ x : Ac, (∀ (j : Nat) u, x.vals[j]? = some u → w.cell? ((a.add (i * 7)).add j) = some u) ∧ x.Ok w := by
      intro i hi'
      obtain ⟨cs', hc, ht⟩ := hi i (by omega)
      obtain ⟨x, rfl, hx⟩ := act_of ht
      rw [cells_act9] at hc
      obtain ⟨_, _, hat⟩ := World.cells?_some hc
      refine ⟨x, fun j u hu => ?_, hx⟩
      have hj : j < 7 := by
        rcases Nat.lt_or_ge j 7 with h' | h'
        · exact h'
        · rw [List.getElem?_eq_none (by simpa [Ac.vals] using h')] at hu; cases hu
      rw [hat j hj, hu]
    obtain ⟨y, hy⟩ := choose_lt each
    refine ⟨some a, cap0, (List.range len0).map y, by simp, by simp, by simpa using hl, hm, fun i x hx => ?_⟩
    have hin : i < len0 := by
      rcases Nat.lt_or_ge i len0 with h' | h'
      · exact h'
      · rw [List.getElem?_eq_none (by simpa using h')] at hx; cases hx
    rw [List.getElem?_map, List.getElem?_range hin, Option.map_some] at hx
    injection hx with hx
    obtain ⟨hcell, hs⟩ := hy i hin
    rw [hx] at hcell hs
    obtain ⟨b, o, spot⟩ := a
    have hspot : spot = none := by
      have h0 := (hy 0 (by omega)).1 0 _ rfl
      simpa [Addr.add] using World.cell?_spot h0
    subst hspot
    simp only [Addr.add_lit] at hcell
    exact ⟨b, o, rfl, hcell, hs⟩
end
end Go.Proofs.Ytmlmlmlbdjhfhaa
