/-
  Package shard's functions that take a number and a body behind what was taken of a sector. Condition: there are so many bytes.
-/
import Derived.Test.YtdhbgfnfbeapcaaDoorEag
import Derived.Deep.WholeRow
namespace Go.Proofs.YtdhbgfnfbeapcaaDoor
open Go.RowKit Go.Proofs
set_option linter.unusedVariables false

/-- A guard for walks: the operation that comes next stores. -/
theorem at_none11 {P : Program} {ops : Array Oper} {Q : Exit → Act → World → Prop} {t : TypeId} {x y : Operand} {ty : TypeId} {pos : String} {af : Array Edge} {gd : Option (Tmp × Bool)} {rest : List Oper} {a : Act} {w : World} (h : wpList P ops Q (⟨none, .store t x y, ty, pos, af, gd⟩ :: rest) a w) : wpList P ops Q (⟨none, .store t x y, ty, pos, af, gd⟩ :: rest) a w := h
/-- The first store into a variable that has just been made. -/
theorem wpList_store_new {P : Program} {ops : Array Oper} {rest : List Oper} {o : Oper} {a : Act} {Q : Exit → Act → World → Prop} (hgd : o.guard = none) (ty : TypeId) (x y : Operand) (ho : o.op = .store ty x y) (w0 : World) (old new : Array Value) (t : TypeId)
    (hx : a.eval x = .pointer (some ⟨w0.heap.size, 0, none⟩)) (hy : a.eval y = .agg new) (hi : (P.info? ty).map (·.size) = some new.size) (hold : old.size = new.size) (h1 : new.all (·.oneCell') = true)
    (h : wpList P ops Q rest (a.put o.dst undef) (w0.alloc (.cells new t))) : wpList P ops Q (o :: rest) a (w0.alloc (.cells old t)) :=
  wpList_store_row hgd ty x y ho w0.heap.size new hx hy t old (heap_alloc_new w0 _) hi hold h1 (by rw [World.setRow_alloc_new]; exact h)

/-- A slice of bytes in a variable, at block t0; how much of it was taken, in a variable at block t1. -/
structure Tk (w : World) (t0 t1 : Nat) (A : Option Addr) (n c : Nat) (l : List UInt8) (a : Nat) : Prop where
  s0 : w.heap[t0]? = some (.cells #[.slice A n c] 27 (0, 0))
  s1 : w.heap[t1]? = some (.cells #[.int .i64 (a : Int)] 3 (0, 0))
  ne : t0 ≠ t1
  sl : Sl w 1 A n c (cells l)
  off : ∀ b o, 0 < n → A = some ⟨b, o, none⟩ → b ≠ t1
section
variable {w w' : World} {t0 t1 n c a : Nat} {A : Option Addr} {l : List UInt8}
theorem Tk.c0 (h : Tk w t0 t1 A n c l a) : w.cell? ⟨t0, 0, none⟩ = some (.slice A n c) := by rw [cell_of_row _ _ _ _ _ _ h.s0]; rfl
theorem Tk.c1 (h : Tk w t0 t1 A n c l a) : w.cell? ⟨t1, 0, none⟩ = some (.int .i64 (a : Int)) := by rw [cell_of_row _ _ _ _ _ _ h.s1]; rfl
theorem Tk.f1 (h : Tk w t0 t1 A n c l a) : w.frozen? ⟨t1, 0, none⟩ = false := frozen_of_row _ _ _ _ _ h.s1
theorem Tk.later (h : Tk w t0 t1 A n c l a) (hb : Below w.heap.size w w') : Tk w' t0 t1 A n c l a :=
  ⟨(hb.block _ (block_lt h.s0)).trans h.s0, (hb.block _ (block_lt h.s1)).trans h.s1, h.ne, h.sl.below hb (Nat.le_refl _), h.off⟩
theorem Tk.frNew {w0 : World} (h : Tk w t0 t1 A n c l a) (hk : ∀ k, k < w0.heap.size → w'.heap[k]? = w.heap[k]?) (h0 : t0 < w0.heap.size) (h1 : t1 < w0.heap.size) (hA : ∀ b o, 0 < n → A = some ⟨b, o, none⟩ → b < w0.heap.size) : Tk w' t0 t1 A n c l a :=
  ⟨(hk _ h0).trans h.s0, (hk _ h1).trans h.s1, h.ne, ⟨h.sl.len, h.sl.cap, h.sl.top, fun j u hu => by
    obtain ⟨b, o, e, hc⟩ := h.sl.cell j u hu
    have hn : 0 < n := by
      have h1 := h.sl.len
      have h2 := (List.getElem?_eq_some_iff.1 hu).1
      omega
    exact ⟨b, o, e, (World.cell?_of_block (w := w) (hk b (hA b o hn e))).trans hc⟩⟩, h.off⟩
theorem Fr.setRow {S : Nat → Prop} {a : World} (h : Fr S a w) {g : Nat} (hg : a.heap.size ≤ g) (cs : Array Value) : Fr S a (w.setRow g cs) :=
  ⟨h.os, h.tape, h.output, by simpa using h.size, fun k hk hs => (setRow_other _ _ _ _ (by omega)).trans (h.block k hk hs)⟩
theorem Tk.step (h : Tk w t0 t1 A n c l a) (k : Nat) : Tk (w.setCell ⟨t1, 0, none⟩ (.int .i64 ((a + k : Nat) : Int))) t0 t1 A n c l (a + k) ∧ Fr (fun b => b = t1) w (w.setCell ⟨t1, 0, none⟩ (.int .i64 ((a + k : Nat) : Int))) := by
  have hF : Fr (fun b => b = t1) w (w.setCell ⟨t1, 0, none⟩ (.int .i64 ((a + k : Nat) : Int))) := (Fr.refl (fun b => b = t1) _).setCell (p := ⟨t1, 0, none⟩) (.inr rfl) _
  exact ⟨⟨hF.row_some h.s0 h.ne, heap_setCell_same _ t1 0 _ _ _ h.s1, h.ne, h.sl.fr hF h.off, h.off⟩, hF⟩
end
set_option maxRecDepth 20000
set_option maxHeartbeats 800000
theorem tnumber_any (t0 t1 n c a m : Nat) (A : Option Addr) (l : List UInt8) (w : World) (h : Tk w t0 t1 A n c l a) (hn : n ≤ 100) (h1 : 1 ≤ m) (h8 : m ≤ 8) (ha : a + m ≤ n) :
    Calls Tryd.prog 31 #[.int .i64 (m : Int), .pointer (some ⟨t0, 0, none⟩), .pointer (some ⟨t1, 0, none⟩)] w fun e w' => e = .returned (.int .u64 (leVal ((l.drop a).take m) : Nat)) ∧ Tk w' t0 t1 A n c l (a + m) ∧ Fr (fun b => b = t1) w w' := by
  have c0 := h.c0
  have c1 := h.c1
  have f1 := h.f1
  have hg := get_ok A n c l a m w h.sl h1 h8 ha
  have hs := h.step m
  have e : ((a : Int) + (m : Int)) = ((a + m : Nat) : Int) := by omega
  have HS := Lib.hid hs
  have E := Lib.hid e
  clear hs h e
  go_enter Tryd.func31, Tryd.ntmps31
  go_wp2_with fail
  refine hg.mono ?_; clear hg; rintro e w' ⟨rfl, hw'⟩
  obtain rfl : w = w' := hw'
  go_wp2_with fail
  go_ret
  rw [E.out]
  exact ⟨rfl, HS.out.1, HS.out.2⟩
theorem taken44 (l : List UInt8) (a n : Nat) (hl : l.length = n) (ha : a + 44 ≤ n) : pad44 ((l.drop a).take 44) = (l.drop a).take 44 := pad44_eq (by rw [List.length_take, List.length_drop]; omega)
theorem tbody_any (t0 t1 n c a : Nat) (A : Option Addr) (l : List UInt8) (w : World) (h : Tk w t0 t1 A n c l a) (hn : n ≤ 100) (ha : a + 44 ≤ n) :
    Calls Tryd.prog 33 #[.pointer (some ⟨t0, 0, none⟩), .pointer (some ⟨t1, 0, none⟩)] w fun e w' => e = .returned (.agg (cells (pad44 ((l.drop a).take 44))).toArray) ∧ Tk w' t0 t1 A n c l (a + 44) ∧ Fr (fun b => b = t1) w w' := by
  have hln : l.length = n := by have := h.sl.len; rw [cells_length, Nat.mul_one] at this; exact this
  obtain ⟨b, o, rfl, hcell⟩ := h.sl.at_ (k := 0) (by omega)
  have hcap := h.sl.cap
  have htop := h.sl.top
  unfold maxLen at htop
  obtain ⟨X, hX⟩ : ∃ X, X = (l.drop a).take 44 := ⟨_, rfl⟩
  have hXl : X.length = 44 := by rw [hX, List.length_take, List.length_drop]; omega
  have hrg : w.rangeAt b (o + a) (cells (pad44 X)) := fun j v hv => by
    rw [pad44_eq hXl] at hv
    have hj : j < 44 := by
      rcases Nat.lt_or_ge j 44 with h' | h'
      · exact h'
      · rw [List.getElem?_eq_none (by rw [cells_length, hXl]; exact h')] at hv; cases hv
    rw [Nat.add_assoc]
    refine hcell (a + j) v ?_
    rw [← hv, hX, cells_take, cells_drop, List.getElem?_take_of_lt hj, List.getElem?_drop]
  rw [← hX]
  have hzv := zero_b44
  obtain ⟨w0, hw0⟩ : ∃ w0, w0 = w.alloc (.cells (cells (pad44 [])).toArray 24) := ⟨_, rfl⟩
  have hb0 : Below w.heap.size w w0 := by rw [hw0]; exact (Below.refl _ _).alloc (Nat.le_refl _) _
  have h0 := h.later hb0
  have c0 := h0.c0
  have c1 := h0.c1
  have hca : ¬ (c : Int) = (a : Int) := by omega
  have hca2 : ¬ c = a := by omega
  have ha1 : (a : Int) ≤ (n : Int) := by omega
  have hX44 : (cells (pad44 X)).toArray.size = 44 := by rw [List.size_toArray, cells_length, pad44_len]
  have hZ44 : (cells (pad44 [])).toArray.size = 44 := by rw [List.size_toArray, cells_length, pad44_len]
  have hone : (cells (pad44 X)).toArray.all (·.oneCell') = true := all_oneCell_toArray (cells_one _)
  have hsz : (Tryd.prog.info? 24).map (·.size) = some (cells (pad44 X)).toArray.size := by rw [List.size_toArray]; exact size_b44l X
  obtain ⟨w1, hw1⟩ : ∃ w1, w1 = w0.alloc (.cells (cells (pad44 X)).toArray 24) := ⟨_, rfl⟩
  have hb1 : Below w0.heap.size w0 w1 := by rw [hw1]; exact (Below.refl _ _).alloc (Nat.le_refl _) _
  have h1' := h0.later hb1
  have hst := h1'.step 44
  rw [show ((a + 44 : Nat) : Int) = (a : Int) + 44 from by omega] at hst
  have d1 := h1'.c1
  have e1 := h1'.f1
  have hbl := h.sl.lt (by decide) (by omega) rfl
  have HBL := Lib.hid hbl
  have hlt0 := block_lt h.s1
  have hlt0' := block_lt h.s0
  obtain ⟨w2, hw2⟩ : ∃ w2, w2 = w1.setCell ⟨t1, 0, none⟩ (.int .i64 ((a : Int) + 44)) := ⟨_, rfl⟩
  rw [← hw2] at hst
  have hz0 : w0.heap.size = w.heap.size + 1 := by rw [hw0]; simp
  have hg3 : w2.heap[w0.heap.size]? = some (.cells (cells (pad44 X)).toArray 24 (0, 0)) := hst.2.row_some (by rw [hw1]; exact heap_alloc_new w0 _) (by show ¬ w0.heap.size = t1; omega)
  have hg2 : w2.heap[w.heap.size]? = some (.cells (cells (pad44 [])).toArray 24 (0, 0)) := hst.2.row_some ((hb1.block _ (by omega)).trans (by rw [hw0]; exact heap_alloc_new w _)) (by show ¬ w.heap.size = t1; omega)
  have HG2 := Lib.hid hg2; have HG3 := Lib.hid hg3; have HW1 := Lib.hid hw1; have HW2 := Lib.hid hw2; have HST := Lib.hid hst; have HB1 := Lib.hid hb1
  have HX4 := Lib.hid hX44; have HZ4 := Lib.hid hZ44; have HON := Lib.hid hone; have HSZ := Lib.hid hsz; have HZ0 := Lib.hid hz0; have HLT := Lib.hid (And.intro hlt0 hlt0')
  clear hbl hg2 hg3 hw1 hw2 hst hb1 h1' hX44 hZ44 hone hsz hz0 hlt0 hlt0'
  have har := run_arrayAt (P := Tryd.prog) w0 24 5 44 (some ⟨b, o + a, none⟩) (n - a) (c - a) Tryd.underlying24 (by omega)
  have H0 := Lib.hid h0
  have HX := Lib.hid hX
  have HR := Lib.hid (show w0.rangeAt b (o + a) (cells (pad44 X)) from fun j v hv => (hb0.cell (World.block_lt_of_cell? w _ (hrg j v hv))).trans (hrg j v hv))
  have HB0 := Lib.hid hb0
  have Hw0 := Lib.hid hw0
  clear hX hrg hb0 h0 hw0 hcell h
  go_enter Tryd.func33, Tryd.ntmps33
  go_wp2_with (first
    | (rw [← Hw0.out])
    | (refine at_dst11 (d := 8) ?_; refine wpList_load_mid (op := ⟨some 8, _, _, _, _, _⟩) rfl 24 (.tmp 7) rfl b (o + a) rfl (cells (pad44 X)) _ HR.out Tryd.underlying24 rfl (size_b44l X) ?_)
    | (refine at_none11 ?_; refine wpList_store_new (o := ⟨none, _, _, _, _, _⟩) rfl 24 (.tmp 3) (.tmp 8) rfl w0 _ (cells (pad44 X)).toArray 24 rfl rfl HSZ.out (HZ4.out.trans HX4.out.symm) HON.out ?_; rw [← HW1.out])
    | (rw [← HW2.out])
    | (refine at_dst11 (d := 11) ?_; refine wpList_load_row (o := ⟨some 11, _, _, _, _, _⟩) rfl 24 (.tmp 3) rfl w0.heap.size rfl 24 (cells (pad44 X)).toArray (0, 0) _ HG3.out Tryd.underlying24 rfl HSZ.out ?_)
    | (refine at_none11 ?_; refine wpList_store_row (o := ⟨none, _, _, _, _, _⟩) rfl 24 (.tmp 2) (.tmp 11) rfl w.heap.size (cells (pad44 X)).toArray rfl rfl 24 _ HG2.out HSZ.out (HZ4.out.trans HX4.out.symm) HON.out ?_))
  have hF2 : Fr (fun b => b = t1) w w2 := (Fr.of_below HB0.out).trans ((Fr.of_below HB1.out).trans HST.out.2)
  refine bodyPost_ret (results_cell_row Tryd.results33 _ _ w.heap.size 24 _ (0, 0) _ rfl (setRow_heap _ _ _ _ _ _ HG2.out) Tryd.underlying24 rfl HSZ.out) rfl ⟨rfl, ?_, hF2.setRow (Nat.le_refl _) _⟩
  exact HST.out.1.frNew (w0 := w) (fun k hk => setRow_other _ _ _ _ (by omega)) HLT.out.2 HLT.out.1 (fun b' o' hn' he => by
    injection he with he
    injection he with he _
    subst he
    exact HBL.out)
end Go.Proofs.YtdhbgfnfbeapcaaDoor
