/-
  The contract of the function that package locate's nearest hands each set to: are there rows that hold and are as told but for those of the set? Condition: the coder is one that New made; the rows are of one length, with bytes; a set has no more numbers than there are rows of parity.
-/
import Derived.Test.YtabcmjbcnmedhaaGreatDqg
namespace Go.Proofs.YtabcmjbcnmedhaaGreat
open Go.RowKit Go.Proofs
set_option linter.unusedVariables false

/-- What nearest holds in variables: the coder, the rows, one byte of each. -/
structure Nst (w0 : World) (C k m F T V p b3 b4 b7 : Nat) (rs : List (List UInt8)) : Prop where
  cod : Cod w0 C k m F T
  c3 : w0.heap[b3]? = some (.cells #[.pointer (some ⟨C, 0, none⟩)] 32 (0, 0))
  sh : ∃ A c, w0.heap[b4]? = some (.cells #[.slice A (k + m) c] 22 (0, 0)) ∧ Gr w0 A (k + m) c rs
  nr : ∃ A c, w0.heap[b7]? = some (.cells #[.slice A (k + m) c] 22 (0, 0)) ∧ Gr w0 A (k + m) c (colL rs p)
  lev : Lev (k + m) V rs
  v1 : 0 < V
  vm : V ≤ 1048576
  p : p < V
/-- What was found, in a variable: rows, or nil. -/
def Fnd (w : World) (b8 : Nat) (v : Value) : Prop := w.heap[b8]? = some (.cells #[v] 22 (0, 0))
theorem Fnd.cell {w : World} {b8 : Nat} {v : Value} (h : Fnd w b8 v) : w.cell? ⟨b8, 0, none⟩ = some v := by rw [cell_of_row _ _ _ _ _ _ h]; rfl
theorem Fnd.free {w : World} {b8 : Nat} {v : Value} (h : Fnd w b8 v) : w.frozen? ⟨b8, 0, none⟩ = false := frozen_of_row _ _ _ _ _ h
theorem Fnd.later {w w' : World} {b8 : Nat} {v : Value} (h : Fnd w b8 v) (hb : Below w.heap.size w w') : Fnd w' b8 v := (hb.block _ (block_lt h)).trans h
theorem Fnd.set {w : World} {b8 : Nat} {v : Value} (h : Fnd w b8 v) (u : Value) : Fnd (w.setCell ⟨b8, 0, none⟩ u) b8 u := heap_setCell_same _ b8 0 _ _ u h
/-- What is found of a set. -/
def Found (k m V b8 : Nat) (rs : List (List UInt8)) (S : List Nat) (w : World) : Prop :=
  ∃ b o c' ds, Fnd w b8 (.slice (some ⟨b, o, none⟩) (k + m) c') ∧ Gr w (some ⟨b, o, none⟩) (k + m) c' (ds ++ parL k ds m) ∧ Lev k V ds ∧ Agr k (k + m) rs ds S
def Not_ (k m V b8 : Nat) (rs : List (List UInt8)) (S : List Nat) (w : World) : Prop := Fnd w b8 (.slice none 0 0) ∧ ∀ ds, Lev k V ds → ¬ Agr k (k + m) rs ds S
def RetEn (k m V b8 : Nat) (rs : List (List UInt8)) (S : List Nat) (w : World) (e : Ending) (w' : World) : Prop :=
  (e = .returned (.bool true) ∧ Found k m V b8 rs S w' ∨ e = .returned (.bool false) ∧ Not_ k m V b8 rs S w') ∧ Fr (fun x => x = b8) w w'
theorem neq_nil (w : World) (b o n c : Nat) : (binOp .neq 22 (.slice (some ⟨b, o, none⟩) n c) (.slice none 0 0)).run Tryz.prog w = .ok (.bool true) w := run_neq_slice_nil_any w _ _ (some ⟨b, o, none⟩) n c 0 0 Tryz.underlying22
theorem neq_nil0 (w : World) : (binOp .neq 22 (.slice none 0 0) (.slice none 0 0)).run Tryz.prog w = .ok (.bool false) w := run_neq_slice_nil_any w _ _ none 0 0 0 0 Tryz.underlying22
theorem eql_nil (w : World) (b o n c : Nat) : (binOp .eql 22 (.slice (some ⟨b, o, none⟩) n c) (.slice none 0 0)).run Tryz.prog w = .ok (.bool false) w := Lib.run_eql_slice_nil w _ _ (some ⟨b, o, none⟩) n c 0 0 Tryz.underlying22
theorem eql_nil0 (w : World) : (binOp .eql 22 (.slice none 0 0) (.slice none 0 0)).run Tryz.prog w = .ok (.bool true) w := Lib.run_eql_slice_nil w _ _ none 0 0 0 0 Tryz.underlying22

/-- Rows don't lie in the variable. -/
theorem Gr.offFnd {w : World} {b8 n c : Nat} {A : Option Addr} {rs : List (List UInt8)} (h : Gr w A n c rs) (h2 : 2 ≤ n) (hf : Fnd w b8 (.slice none 0 0)) (u : Value) : Gr (w.setCell ⟨b8, 0, none⟩ u) A n c rs := by
  have hfr : Fr (fun x => x = b8) w (w.setCell ⟨b8, 0, none⟩ u) := Fr.setCell (S := fun x => x = b8) (Fr.refl _ _) (.inr rfl) _
  obtain ⟨vs, hs, hr⟩ := h.ex
  have hvl := hs.len
  rw [Nat.mul_one] at hvl
  refine ⟨⟨vs, hs.fr hfr fun b o _ e hb => ?_, fun i r hi => ?_⟩, h.len⟩
  · have hb : b = b8 := hb
    obtain ⟨b', o', e', hc⟩ := hs.at_ (k := 0) (by omega)
    rw [e] at e'
    injection e' with e'
    injection e' with e1 e2
    have h1 := hc 1 _ (List.getElem?_eq_getElem (by omega))
    rw [← e1, hb, cell_of_row _ _ _ _ _ _ hf, Array.getElem?_eq_none (by simp)] at h1
    cases h1
  · obtain ⟨A', c', h1, h3⟩ := hr i r hi
    refine ⟨A', c', h1, h3.fr hfr fun b o hn e hb => ?_⟩
    have hb : b = b8 := hb
    obtain ⟨b', o', e', hc⟩ := h3.at_ (k := 0) hn
    rw [e] at e'
    injection e' with e'
    injection e' with e1 e2
    have h1 := hc 0 _ (cells_get r 0 hn)
    rw [← e1, hb, cell_of_row _ _ _ _ _ _ hf] at h1
    rcases Nat.eq_zero_or_pos (o' + 0) with e0 | e0
    · rw [e0] at h1
      have h1 : some (Value.slice none 0 0) = some (bv r[0]) := h1
      injection h1 with h1
      cases h1
    · rw [Array.getElem?_eq_none (by simp; omega)] at h1
      cases h1

set_option maxRecDepth 100000 in
set_option maxHeartbeats 3200000 in
theorem enough_any (C k m F T V p b3 b4 b7 b8 bm : Nat) (rs : List (List UInt8)) (S : List Nat) (w0 w : World) (h : Nst w0 C k m F T V p b3 b4 b7 rs) (hb : Below w0.heap.size w0 w) (h8 : w0.heap.size ≤ b8) (hf : Fnd w b8 (.slice none 0 0)) (hS : S.length ≤ m) (hK : Keys w bm S) :
    Calls Tryz.prog 45 #[.map (some bm), .pointer (some ⟨b3, 0, none⟩), .pointer (some ⟨b7, 0, none⟩), .pointer (some ⟨b4, 0, none⟩), .pointer (some ⟨b8, 0, none⟩)] w (RetEn k m V b8 rs S w) := by
  have hk1 := h.cod.k1
  obtain ⟨A4, c4, hc4, hg4⟩ := h.sh
  obtain ⟨A7, c7, hc7, hg7⟩ := h.nr
  have hl := h.lev
  have hw1 : Wip k m 1 (colL rs p) S := ⟨colL_lev hl p, hk1, by decide, hS⟩
  have hw4 : Wip k m V rs S := ⟨hl, hk1, h.v1, hS⟩
  have hcod := h.cod.later hb
  have hx3 := (hb.block _ (block_lt h.c3)).trans h.c3
  have hx4 := (hb.block _ (block_lt hc4)).trans hc4
  have hx7 := (hb.block _ (block_lt hc7)).trans hc7
  have d3 : w.cell? ⟨b3, 0, none⟩ = some (.pointer (some ⟨C, 0, none⟩)) := by rw [cell_of_row _ _ _ _ _ _ hx3]; rfl
  have d4 : w.cell? ⟨b4, 0, none⟩ = some (.slice A4 (k + m) c4) := by rw [cell_of_row _ _ _ _ _ _ hx4]; rfl
  have d7 : w.cell? ⟨b7, 0, none⟩ = some (.slice A7 (k + m) c7) := by rw [cell_of_row _ _ _ _ _ _ hx7]; rfl
  have l3 := block_lt hx3
  have l4 := block_lt hx4
  have lf := block_lt hf
  have hh := mended_any C k m F T 1 bm A7 (k + m) c7 (colL rs p) S w hcod (hg7.later hb) hw1 (by decide) hK
  have Hcod := Lib.hid hcod
  have Hg4 := Lib.hid (hg4.later hb)
  have Hw4 := Lib.hid hw4
  have HK := Lib.hid hK
  have HF := Lib.hid hf
  have Hst := Lib.hid h
  have Hl := Lib.hid hl
  clear hl hw1 hw4 hcod hx3 hx4 hx7 hc4 hc7 hg4 hg7 h hK hf hb hk1
  go_enter Tryz.func45, Tryz.ntmps45
  go_wp2_with fail
  refine hh.mono ?_; clear hh; rintro e w1 ⟨hR, hb1⟩
  rcases hR with ⟨b, o, c', ds, rfl, -, -, -⟩ | ⟨rfl, hno⟩
  · have hq := neq_nil w1 b o (k + m) c'
    have e3 := (hb1.cell (p := ⟨b3, 0, none⟩) l3).trans d3
    have e4 := (hb1.cell (p := ⟨b4, 0, none⟩) l4).trans d4
    have F1 := Lib.hid (HF.out.later hb1)
    have hh := mended_any C k m F T V bm A4 (k + m) c4 rs S w1 (Hcod.out.later hb1) (Hg4.out.later hb1) Hw4.out Hst.out.vm (HK.out.later hb1)
    have Hb1 := Lib.hid hb1
    clear hb1 d3 d4 d7 l3 l4 HF
    go_wp2_with fail
    refine hh.mono ?_; clear hh; rintro e w2 ⟨hR, hb2⟩
    have F2 := Lib.hid (F1.out.later hb2)
    have hfree := F2.out.free
    have hcell := F2.out.cell
    have Hfr : Hid (Fr (fun x => x = b8) w w2) := Lib.hid ((Fr.of_below Hb1.out).trans (Fr.of_below hb2))
    clear hb2 e3 e4 hq
    rcases hR with ⟨b1, o1, c1, ds1, rfl, hG, hd, ha⟩ | ⟨rfl, hno⟩
    · have HG := Lib.hid hG
      have Hd := Lib.hid hd
      have Ha := Lib.hid ha
      have hst := F2.out.set (.slice (some ⟨b1, o1, none⟩) (k + m) c1)
      have Hst2 := Lib.hid hst
      have hfr2 : Fr (fun x => x = b8) w2 (w2.setCell ⟨b8, 0, none⟩ (.slice (some ⟨b1, o1, none⟩) (k + m) c1)) := Fr.setCell (S := fun x => x = b8) (Fr.refl _ _) (.inr rfl) _
      have Hfr2 := Lib.hid hfr2
      have hq := neq_nil (w2.setCell ⟨b8, 0, none⟩ (.slice (some ⟨b1, o1, none⟩) (k + m) c1)) b1 o1 (k + m) c1
      have hlx := hst.cell
      clear hG hd ha hst hfr2
      go_wp2_with fail
      go_ret
      exact ⟨.inl ⟨rfl, b1, o1, c1, ds1, Hst2.out, HG.out.offFnd (by have := Hst.out.cod.k1; have := Hst.out.cod.m1; omega) F2.out _, Hd.out, Ha.out⟩, Hfr.out.trans Hfr2.out⟩
    · have hst := F2.out.set (.slice none 0 0)
      have Hst2 := Lib.hid hst
      have hfr2 : Fr (fun x => x = b8) w2 (w2.setCell ⟨b8, 0, none⟩ (.slice none 0 0)) := Fr.setCell (S := fun x => x = b8) (Fr.refl _ _) (.inr rfl) _
      have Hfr2 := Lib.hid hfr2
      have hq := neq_nil0 (w2.setCell ⟨b8, 0, none⟩ (.slice none 0 0))
      have hlx := hst.cell
      have Hno := Lib.hid hno
      clear hno hst hfr2
      go_wp2_with fail
      go_ret
      exact ⟨.inr ⟨rfl, Hst2.out, Hno.out⟩, Hfr.out.trans Hfr2.out⟩
  · have hq := neq_nil0 w1
    have F1 := Lib.hid (HF.out.later hb1)
    have hcell := F1.out.cell
    have Hb1 := Lib.hid hb1
    have Hno := Lib.hid hno
    clear hb1 d3 d4 d7 l3 l4 HF hno
    go_wp2_with fail
    go_ret
    exact ⟨.inr ⟨rfl, F1.out, fun ds hd ha => Hno.out _ (colL_lev hd p) (colL_agr Hl.out hd Hst.out.cod.k1 Hst.out.p ha)⟩, Fr.of_below Hb1.out⟩
end Go.Proofs.YtabcmjbcnmedhaaGreat
