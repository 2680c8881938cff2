/-
  The document's drive (layer 9): contracts of its Rot, Write, Flush and Crash. No condition but bounds.
-/
import Derived.Test.YtmlmlmlbdjhfhaaDsf
import Derived.Test.YtmlmlmlbdjhfhaaDrr
import Derived.Deep.LoopGhost
namespace Go.Proofs.Ytmlmlmlbdjhfhaa
open Go.RowKit Go.Proofs
set_option linter.unusedVariables false

theorem builtE9 (i : Int) (A : Option Addr) (n c : Nat) : Try.prog.built 83 [(0, .int .i64 i), (1, .slice A n c)] = some #[.int .i64 i, .slice A n c, .int .i64 0, .int .u32 0] := by kernel_rfl
theorem step_buildE9 {ρ : Operand → Value} {o : Oper} {x y : Operand} {w : World} {i : Int} {A : Option Addr} {n c : Nat} (ho : o.op = .build 83 #[(0, x), (1, y)]) (hx : ρ x = .int .i64 i) (hy : ρ y = .slice A n c) : (execOp ρ o).run Try.prog w = .ok (.value (.agg #[.int .i64 i, .slice A n c, .int .i64 0, .int .u32 0])) w := by
  have h : (Instr.build 83 #[(0, .int .i64 i), (1, .slice A n c)]).run Try.prog w = _ := run_build w _ _ _ (builtE9 i A n c)
  unfold execOp
  simp [ho, hx, hy, h, Result.andThen]
theorem step_loadE9 {ρ : Operand → Value} {o : Oper} {x : Operand} {w : World} {b off : Nat} {v0 v1 v2 v3 : Value} (ho : o.op = .load 83 x) (hx : ρ x = .pointer (some ⟨b, off, none⟩)) (h : w.rangeAt b off [v0, v1, v2, v3]) : (execOp ρ o).run Try.prog w = .ok (.value (.agg #[v0, v1, v2, v3])) w := by
  unfold execOp
  simp only [ho, hx, Instr.loadAt, Instr.sureAddr, Sem.run_bind, Sem.run_pure, Result.andThen_ok, run_loadVar_mid w b off 83 _ _ h Try.underlying83 rfl (sizeE9 _ _ _ _)]
section
variable {w w1 w2 w' : World} {S T : Nat → Prop} {X k m c' : Nat} {x y : Dv} {AL AW A' : Option Addr} {cL cW : Nat} {ls ws : List Em} {ys : List Value}
/-- Behind an append onto what is stored, and the store of the new slice. -/
theorem Rg.pushL (h : Rg w S X k x AL cL ls AW cW ws) (hS : ∀ b, S b → b < w.heap.size) (hb : Below w.heap.size w w1) (hf : Fr (Bk AL) w1 w2) (hrn : Rn w2 A' 83 4 (ls.length + m) c' ys) (hor : A' = AL ∨ A' = some ⟨w1.heap.size, 0, none⟩) :
    Fr (Bk7 X AL) w (w2.setCell ⟨X, 1, none⟩ (.slice A' (ls.length + m) c')) ∧ (w2.setCell ⟨X, 1, none⟩ (.slice A' (ls.length + m) c')).heap[X]? = some (.cells #[.int .i64 (x.n : Int), .slice A' (ls.length + m) c', .slice AW ws.length cW, .bool x.gone] 57 (0, 0)) ∧ Rn (w2.setCell ⟨X, 1, none⟩ (.slice A' (ls.length + m) c')) A' 83 4 (ls.length + m) c' ys ∧ (A' = AL ∨ ∀ b, Bk A' b → w.heap.size ≤ b) ∧ w2.cell? ⟨X, 1, none⟩ = some (.slice AL ls.length cL) ∧ w2.frozen? ⟨X, 1, none⟩ = false := by
  have hXl : ¬ Bk AL X := h.el.rn.neX h.box (by decide)
  have hX := hS X h.own
  have hbx := hf.row_some (h.later hb).box hXl
  have hF : Fr (fun b => b = X) w2 (w2.setCell ⟨X, 1, none⟩ (.slice A' (ls.length + m) c')) := (Fr.refl (fun b => b = X) _).setCell (p := ⟨X, 1, none⟩) (.inr rfl) _
  have ho : A' = AL ∨ ∀ b, Bk A' b → w.heap.size ≤ b := hor.imp id (fun e b hk => by
    obtain ⟨o, hk⟩ := hk
    rw [e] at hk
    injection hk with hk
    injection hk with hk _
    have := hb.size
    omega)
  refine ⟨((Fr.of_below hb).trans (hf.mono fun b hb => .inr hb)).trans (hF.mono fun b hb => .inl hb), heap_setCell_same w2 X 1 _ _ _ hbx, hrn.fr hF (fun b hk e => ?_), ho, ?_, frozen_of_row _ _ _ _ _ hbx⟩
  · rcases ho with q | q
    · exact hXl (by rw [← q]; have e : b = X := e; rw [← e]; exact hk)
    · have := q b hk
      have e : b = X := e
      omega
  · rw [cell_of_row _ _ _ _ _ _ hbx]; rfl
theorem Rg.pushW (h : Rg w S X k x AL cL ls AW cW ws) (hS : ∀ b, S b → b < w.heap.size) (hb : Below w.heap.size w w1) (hf : Fr (Bk AW) w1 w2) (hrn : Rn w2 A' 83 4 (ws.length + m) c' ys) (hor : A' = AW ∨ A' = some ⟨w1.heap.size, 0, none⟩) :
    Fr (Bk7 X AW) w (w2.setCell ⟨X, 2, none⟩ (.slice A' (ws.length + m) c')) ∧ (w2.setCell ⟨X, 2, none⟩ (.slice A' (ws.length + m) c')).heap[X]? = some (.cells #[.int .i64 (x.n : Int), .slice AL ls.length cL, .slice A' (ws.length + m) c', .bool x.gone] 57 (0, 0)) ∧ Rn (w2.setCell ⟨X, 2, none⟩ (.slice A' (ws.length + m) c')) A' 83 4 (ws.length + m) c' ys ∧ (A' = AW ∨ ∀ b, Bk A' b → w.heap.size ≤ b) ∧ w2.cell? ⟨X, 2, none⟩ = some (.slice AW ws.length cW) ∧ w2.frozen? ⟨X, 2, none⟩ = false := by
  have hXl : ¬ Bk AW X := h.ew.rn.neX h.box (by decide)
  have hX := hS X h.own
  have hbx := hf.row_some (h.later hb).box hXl
  have hF : Fr (fun b => b = X) w2 (w2.setCell ⟨X, 2, none⟩ (.slice A' (ws.length + m) c')) := (Fr.refl (fun b => b = X) _).setCell (p := ⟨X, 2, none⟩) (.inr rfl) _
  have ho : A' = AW ∨ ∀ b, Bk A' b → w.heap.size ≤ b := hor.imp id (fun e b hk => by
    obtain ⟨o, hk⟩ := hk
    rw [e] at hk
    injection hk with hk
    injection hk with hk _
    have := hb.size
    omega)
  refine ⟨((Fr.of_below hb).trans (hf.mono fun b hb => .inr hb)).trans (hF.mono fun b hb => .inl hb), heap_setCell_same w2 X 2 _ _ _ hbx, hrn.fr hF (fun b hk e => ?_), ho, ?_, frozen_of_row _ _ _ _ _ hbx⟩
  · rcases ho with q | q
    · exact hXl (by rw [← q]; have e : b = X := e; rw [← e]; exact hk)
    · have := q b hk
      have e : b = X := e
      omega
  · rw [cell_of_row _ _ _ _ _ _ hbx]; rfl
theorem wroteR9 {i b8 c8 c7 : Nat} {l : List UInt8} {w8 : World} (h : Rg w S X k x AL cL ls AW cW ws) (hS : ∀ b, S b → b < w.heap.size) (hi : x.gone = false ∧ i < x.n) (hl : l.length = 64) (hF : Fr (Bk7 X AW) w w8)
    (hbx : w8.heap[X]? = some (.cells #[.int .i64 (x.n : Int), .slice AL ls.length cL, .slice A' (ws.length + 1) c7, .bool x.gone] 57 (0, 0)))
    (hrn : Rn w8 A' 83 4 (ws.length + 1) c7 (ws.flatMap emc ++ [.int .i64 (i : Int), .slice (some ⟨b8, 0, none⟩) 64 c8, .int .i64 0, .int .u32 0])) (ho : A' = AW ∨ ∀ b, Bk A' b → w.heap.size ≤ b)
    (hr8 : Rw w8 b8 5 1 64 c8 (cells l)) (hg8 : w.heap.size ≤ b8) : (Ending.returned (.int .i64 0) = Ending.returned (.int .i64 0)) ∧ MutR S X (k + 1) (x.write (i : Int) l) w w8 := by
  have hg := hi.1
  have hw := h.rel
  rw [hg] at hw
  have hr := hw.write hi.2 hl
  have hz : x.has (i : Int) := by unfold Dv.has; omega
  have hn : (x.write (i : Int) l).n = x.n := by rw [Dv.write_yes hg hz hl]; rfl
  have hg' : (x.write (i : Int) l).gone = x.gone := by rw [Dv.write_yes hg hz hl]
  have hrn' : Rn w8 A' 83 4 (ws.length + [(⟨⟨i, l, 0, 0⟩, some ⟨b8, 0, none⟩, c8⟩ : Em)].length) c7 (ws.flatMap emc ++ [(⟨⟨i, l, 0, 0⟩, some ⟨b8, 0, none⟩, c8⟩ : Em)].flatMap emc) := by
    have e : [(⟨⟨i, l, 0, 0⟩, some ⟨b8, 0, none⟩, c8⟩ : Em)].flatMap emc = [.int .i64 (i : Int), .slice (some ⟨b8, 0, none⟩) 64 c8, .int .i64 0, .int .u32 0] := by
      simp [emc, hl]
    rw [e]
    exact hrn
  refine ⟨rfl, h.moreW (ps := [⟨⟨i, l, 0, 0⟩, some ⟨b8, 0, none⟩, c8⟩]) hS hF hbx hrn' ho (fun m hm => ?_) hn hg' (by rw [List.map_append, hg]; exact hr)⟩
  have hm : m = ⟨⟨i, l, 0, 0⟩, some ⟨b8, 0, none⟩, c8⟩ := by simpa using hm
  subst hm
  refine ⟨.inr ⟨b8, rfl, by rw [hl]; exact hr8⟩, fun b hb => .inr ?_⟩
  obtain ⟨o, hb⟩ := hb
  injection hb with hb
  injection hb with hb _
  omega
/-- Nothing waits any more. -/
theorem Rg.calm {k' : Nat} (h : Rg w S X k x AL cL ls AW cW ws) (hS : ∀ b, S b → b < w.heap.size) (hk : ls.length ≤ k') : Rf (w.setCell ⟨X, 2, none⟩ (.slice none 0 0)) S X k' x.quiet ∧ Fr (fun b => b = X) w (w.setCell ⟨X, 2, none⟩ (.slice none 0 0)) := by
  have hF : Fr (fun b => b = X) w (w.setCell ⟨X, 2, none⟩ (.slice none 0 0)) := (Fr.refl (fun b => b = X) _).setCell (p := ⟨X, 2, none⟩) (.inr rfl) _
  refine ⟨⟨fun b hb => Nat.lt_of_lt_of_le (hS b hb) hF.size, AL, cL, ls, none, 0, [], heap_setCell_same w X 2 _ _ _ h.box, ⟨h.el.rn.fr hF (fun b hb e => h.el.rn.neX h.box (by decide) (by have e : b = X := e; rw [← e]; exact hb)), h.el.own, fun m hm => ⟨(h.el.b m hm).1.fr hF (fun b hb e => (h.el.b m hm).1.neX h.box (by decide) (by have e : b = X := e; rw [← e]; exact hb)), (h.el.b m hm).2⟩⟩, Evs.nil _ _, (fun b _ hb => by obtain ⟨o, hb⟩ := hb; cases hb), h.rel.quiet, by simpa using hk, h.own, h.n2⟩, hF⟩
theorem flushedR9 {c7 : Nat} {w8 : World} (h : Rg w S X k x AL cL ls AW cW ws) (hS : ∀ b, S b → b < w.heap.size) (hg : x.gone = false) (hF : Fr (Bk7 X AL) w w8)
    (hbx : w8.heap[X]? = some (.cells #[.int .i64 (x.n : Int), .slice A' (ls.length + ws.length) c7, .slice AW ws.length cW, .bool x.gone] 57 (0, 0)))
    (hrn : Rn w8 A' 83 4 (ls.length + ws.length) c7 (ls.flatMap emc ++ ws.flatMap emc)) (ho : A' = AL ∨ ∀ b, Bk A' b → w.heap.size ≤ b) :
    MutR S X k x.flush1 w (w8.setCell ⟨X, 2, none⟩ (.slice none 0 0)) := by
  have hr := h.rel
  rw [hg] at hr
  have hp := Rel.puts (ws.map Em.ev) hr hr.ws
  have hW := h.ew.fr7 h.box h.el.rn hF (fun b hb hb' => h.apart b hb' hb)
  have hn : (x.puts ((ws.map Em.ev).map Ev.wr)).n = x.n := Dv.puts_n _ _
  have hgo : (x.puts ((ws.map Em.ev).map Ev.wr)).gone = x.gone := Dv.puts_gone _ _
  obtain ⟨m1, m2, m3⟩ := h.moreL (y := x.puts ((ws.map Em.ev).map Ev.wr)) (ps := ws) hS hF hbx hrn ho (fun m hm => ⟨(hW.b m hm).1, fun b hb => .inl ((hW.b m hm).2 b hb)⟩) hn hgo (by rw [List.map_append, hg]; exact hp)
  obtain ⟨c1, c2⟩ := m2.calm (k' := k) m1 (by rw [List.length_append]; exact h.len)
  have hx : x.flush1 = (x.puts ((ws.map Em.ev).map Ev.wr)).quiet := by
    rw [Dv.flush1, if_neg (by rw [hg]; decide), ← hr.wait]
    rfl
  rw [hx]
  exact ⟨_, c1, m3.trans (c2.mono fun b hb => by rw [hb]; exact h.own), fun b hb => hb.1⟩
theorem kept_snoc {α : Type} (a : α) : ∀ (l : List α) (ks : List Bool), Dv.kept (l ++ [a]) ks = Dv.kept l ks ++ if ks.getD l.length false = true then [a] else []
  | [], ks => by
    rw [List.nil_append, Dv.kept_one]
    cases ks <;> rfl
  | b :: l, [] => rfl
  | b :: l, q :: ks => by
    show (if q = true then b :: Dv.kept (l ++ [a]) ks else Dv.kept (l ++ [a]) ks) = (if q = true then b :: Dv.kept l ks else Dv.kept l ks) ++ _
    rw [kept_snoc a l ks]
    show _ = _ ++ if (q :: ks).getD (l.length + 1) false = true then [a] else []
    rw [List.getD_cons_succ]
    split <;> rfl
theorem kept_stop {α : Type} : ∀ (l : List α) (ks : List Bool) (j : Nat), ks.length ≤ j → Dv.kept (l.take j) ks = Dv.kept l ks
  | [], ks, j, h => by rw [List.take_nil]
  | a :: l, [], j, h => by cases j <;> rfl
  | a :: l, q :: ks, 0, h => by simp at h
  | a :: l, q :: ks, j + 1, h => by
    show (if q = true then a :: Dv.kept (l.take j) ks else Dv.kept (l.take j) ks) = if q = true then a :: Dv.kept l ks else Dv.kept l ks
    rw [kept_stop l ks j (by simpa using h)]
theorem Fr.into {S Sj : Nat → Prop} {w wr w8 : World} (h : Fr S w wr) (m : Fr Sj wr w8) (hs : ∀ b, Sj b → S b ∨ w.heap.size ≤ b) : Fr S w w8 :=
  ⟨m.os.trans h.os, m.tape.trans h.tape, m.output.trans h.output, Nat.le_trans h.size m.size, fun b hb hn => (m.block b (Nat.lt_of_lt_of_le hb h.size) (fun hq => (hs b hq).elim hn (fun q => by omega))).trans (h.block b hb hn)⟩
/-- A crash that has come to the j-th write that waits. -/
structure Cj (w : World) (S : Nat → Prop) (X k : Nat) (x : Dv) (ks : List Bool) (AW : Option Addr) (cW : Nat) (ws : List Em) (wr : World) (j : Nat) (Sj : Nat → Prop) (Aj : Option Addr) (cj : Nat) (lj : List Em) : Prop where
  rg : Rg wr Sj X (k + j) (x.puts (Dv.kept (x.wait.take j) ks)) Aj cj lj AW cW ws
  lt : ∀ b, Sj b → b < wr.heap.size
  fr : Fr S w wr
  sub : ∀ b, Sj b → S b ∨ w.heap.size ≤ b
  len : lj.length + (ws.length - j) ≤ k
section
variable {ks : List Bool} {wr : World} {j cj c7 : Nat} {Sj : Nat → Prop} {Aj : Option Addr} {lj : List Em}
theorem Cj.start (h : Rg w S X k x AL cL ls AW cW ws) (hS : ∀ b, S b → b < w.heap.size) (ks : List Bool) : Cj w S X k x ks AW cW ws w 0 S AL cL ls := by
  have e : Dv.kept ([] : List (Nat × List UInt8)) ks = [] := by cases ks <;> rfl
  refine ⟨?_, hS, Fr.refl _ _, fun b hb => .inl hb, by have := h.len; omega⟩
  rw [List.take_zero, e]
  exact h
theorem take_wait {m : Em} (h : Rel x x.n (ls.map Em.ev) (ws.map Em.ev) x.gone) (hm : ws[j]? = some m) : x.wait.take (j + 1) = x.wait.take j ++ [m.ev.wr] := by
  rw [h.wait, List.take_add_one, List.getElem?_map, List.getElem?_map, hm]
  rfl
theorem Cj.skip {m : Em} (h : Cj w S X k x ks AW cW ws wr j Sj Aj cj lj) (h0 : Rel x x.n (ls.map Em.ev) (ws.map Em.ev) x.gone) (hm : ws[j]? = some m) (hk : ks.getD j false = false) : Cj w S X k x ks AW cW ws wr (j + 1) Sj Aj cj lj := by
  have hj := (List.getElem?_eq_some_iff.1 hm).1
  have hl : (x.wait.take j).length = j := by rw [List.length_take, h0.wait, List.length_map, List.length_map]; omega
  have e : x.puts (Dv.kept (x.wait.take (j + 1)) ks) = x.puts (Dv.kept (x.wait.take j) ks) := by rw [take_wait h0 hm, kept_snoc, hl, hk, if_neg (by decide), List.append_nil]
  refine ⟨?_, h.lt, h.fr, h.sub, by have := h.len; omega⟩
  rw [e]
  have g := h.rg
  exact ⟨g.box, g.el, g.ew, g.apart, g.rel, by have := g.len; omega, g.own, g.n2⟩
theorem Cj.step {m : Em} {w8 : World} (h : Cj w S X k x ks AW cW ws wr j Sj Aj cj lj) (h0 : (∀ b, S b → b < w.heap.size) ∧ Rel x x.n (ls.map Em.ev) (ws.map Em.ev) x.gone) (hm : ws[j]? = some m) (hk : ks.getD j false = true) (hg : x.gone = false) (hF : Fr (Bk7 X Aj) wr w8)
    (hbx : w8.heap[X]? = some (.cells #[.int .i64 ((x.puts (Dv.kept (x.wait.take j) ks)).n : Int), .slice A' (lj.length + 1) c7, .slice AW ws.length cW, .bool (x.puts (Dv.kept (x.wait.take j) ks)).gone] 57 (0, 0)))
    (hrn : Rn w8 A' 83 4 (lj.length + 1) c7 (lj.flatMap emc ++ emc m)) (ho : A' = Aj ∨ ∀ b, Bk A' b → wr.heap.size ≤ b) :
    Cj w S X k x ks AW cW ws w8 (j + 1) (Sn Sj wr w8) A' c7 (lj ++ [m]) := by
  have hj := (List.getElem?_eq_some_iff.1 hm).1
  have hl : (x.wait.take j).length = j := by rw [List.length_take, h0.2.wait, List.length_map, List.length_map]; omega
  obtain ⟨y, hy⟩ : ∃ y, y = x.puts (Dv.kept (x.wait.take j) ks) := ⟨_, rfl⟩
  have hyg : y.gone = false := by rw [hy, Dv.puts_gone]; exact hg
  have e : x.puts (Dv.kept (x.wait.take (j + 1)) ks) = y.put m.ev.wr := by rw [take_wait h0.2 hm, kept_snoc, hl, hk, if_pos rfl, Dv.puts_snoc, hy]
  have hr := h.rg
  rw [← hy] at hr hbx
  have hrel := hr.rel
  rw [hyg] at hrel
  have hmo := hrel.ws m.ev (List.mem_map.2 ⟨m, List.mem_of_getElem? hm, rfl⟩)
  have hp := hrel.put hmo.1 hmo.2
  have hn : (y.put m.ev.wr).n = y.n := Dv.put_n _
  have hW := hr.ew.fr7 hr.box hr.el.rn hF (fun b hb hb' => hr.apart b hb' hb)
  obtain ⟨m1, m2, m3⟩ := hr.moreL (y := y.put m.ev.wr) (ps := [m]) h.lt hF hbx (by rw [List.flatMap_singleton]; exact hrn) ho (fun m' hm' => by
    have : m' = m := by simpa using hm'
    subst this
    exact ⟨(hW.b m' (List.mem_of_getElem? hm)).1, fun b hb => .inl ((hW.b m' (List.mem_of_getElem? hm)).2 b hb)⟩) hn rfl (by rw [List.map_append, hyg]; exact hp)
  have hsz := h.fr.size
  refine ⟨?_, m1, h.fr.into m3 h.sub, fun b hb => ?_, by have := h.len; rw [List.length_append, List.length_singleton]; omega⟩
  · rw [e]; exact m2
  · rcases hb.1 with q | q
    · exact h.sub b q
    · exact .inr (by omega)
end
set_option maxRecDepth 100000
set_option maxHeartbeats 4000000
theorem rfwrite_any (z : Int) (A : Option Addr) (n c : Nat) (l : List UInt8) (h1 : -9223372036854775808 ≤ z) (h2 : z < 9223372036854775808) (hk : k ≤ 100000) (h : Rf w S X k x) (hs : Sl w 1 A n c (cells l)) :
    Calls Try.prog 32 #[.pointer (some ⟨X, 0, none⟩), .int .i64 z, .slice A n c] w fun e w' => e = .returned (.int .i64 (x.writeX z l)) ∧ MutR S X (k + 1) (x.write z l) w w' := by
  obtain ⟨hS, AL, cL, ls, AW, cW, ws, hg⟩ := h
  have hstay : MutR S X (k + 1) x w w := ⟨S, Rf.mono ⟨hS, AL, cL, ls, AW, cW, ws, hg⟩ (Nat.le_succ _), Fr.refl _ _, fun _ hb => .inl hb⟩
  have c3 := hg.c3
  have hhas := rfhas_any z h1 h2 hg
  have hln : l.length = n := by have := hs.len; rw [cells_length] at this; omega
  cases hgg : x.gone
  · rw [hgg] at c3
    by_cases hx : x.has z
    · rw [decide_eq_true hx] at hhas
      by_cases h64 : n = 64
      · rw [Dv.writeX_yes hgg hx (by omega)]
        subst h64
        have hz := hx
        unfold Dv.has at hz
        obtain ⟨i, rfl⟩ : ∃ i : Nat, z = (i : Int) := ⟨z.toNat, by omega⟩
        have hlen := hg.len
        have HG := Lib.hid hg
        have HS := Lib.hid hS
        have HSl := Lib.hid hs
        have HLen := Lib.hid hln
        have Hi := Lib.hid (show x.gone = false ∧ i < x.n from ⟨hgg, by omega⟩)
        obtain ⟨u0, hu0, hu1, hu2, hu3⟩ := info_parts info_u8
        have Hu0 := Lib.hid hu0
        have Hu1 := Lib.hid hu1
        have Hu2 := Lib.hid hu2
        have Hu3 := Lib.hid hu3
        obtain ⟨i0, hi0, hz0, hz1, hz2⟩ := info_parts infoE9
        clear hg hS hs hln hgg hx hz h1 h2 hu0 hu1 hu2 hu3 hstay
        go_enter Try.func32, Try.ntmps32
        go_wp2_with fail
        refine hhas.mono ?_; rintro e w1 ⟨rfl, hw1⟩
        obtain rfl : w = w1 := hw1.symm
        clear hhas
        go_wp2_with fail
        have BL0 := Lib.hid (show Below w.heap.size w w.drew from Below.drew (Below.refl _ _))
        refine wp_region_held_drew (S := fun w' => Fr (fun b => b = X ∨ Bk AW b ∨ w.heap.size ≤ b) w w') (by kernel_rfl) (Fr.drew (Fr.refl _ _)) (fun hHeld => ?_)
        clear hHeld
        have hHeld : Fr (fun b => b = X ∨ Bk AW b ∨ w.heap.size ≤ b) w w.drew := Fr.drew (Fr.refl _ _)
        have hz_0 : w.heap.size ≤ w.drew.heap.size := Nat.le_refl _
        obtain ⟨v_1, hw⟩ : ∃ v_1, v_1 = w.drew := ⟨_, rfl⟩
        rw [← hw] at hHeld hz_0 BL0 ⊢
        clear hw
        refine wpAnyH_take (i := 0) (oi := ⟨some 20, _, _, _, _, _⟩) (v := ?vg0_2) rfl (by kernel_rfl) (by kernel_rfl) (by kernel_rfl) (fun _ _ _ h => h) (Or.inl ⟨by rfl, ?yg0_2⟩) hHeld ?rg0_2
        case yg0_2 =>
          intro wq hSw
          (try dsimp only at hSw)
          first | (go_simp; done) | (go_simp; with_reducible rfl)
        try simp only [Act.put, List.setIfInBounds_toArray, List.set_cons_zero, List.set_cons_succ]
        refine wpAnyH_take (i := 1) (oi := ⟨some 21, _, _, _, _, _⟩) (v := ?vg1_3) rfl (by kernel_rfl) (by kernel_rfl) (by kernel_rfl) (fun _ _ _ h => h) (Or.inl ⟨by rfl, ?yg1_3⟩) hHeld ?rg1_3
        case yg1_3 =>
          intro wq hSw
          (try dsimp only at hSw)
          first | (go_simp; done) | (go_simp; with_reducible rfl)
        try simp only [Act.put, List.setIfInBounds_toArray, List.set_cons_zero, List.set_cons_succ]
        refine wpAnyH_take (i := 2) (oi := ⟨some 22, _, _, _, _, _⟩) (v := ?vg2_4) rfl (by kernel_rfl) (by kernel_rfl) (by kernel_rfl) (fun _ _ _ h => h) (Or.inl ⟨by rfl, ?yg2_4⟩) hHeld ?rg2_4
        case yg2_4 =>
          intro wq hSw
          (try dsimp only at hSw)
          first | (go_simp; done) | (go_simp; with_reducible rfl)
        try simp only [Act.put, List.setIfInBounds_toArray, List.set_cons_zero, List.set_cons_succ]
        refine wpAnyH_take (i := 3) (oi := ⟨some 23, _, _, _, _, _⟩) (v := ?vg3_5) rfl (by kernel_rfl) (by kernel_rfl) (by kernel_rfl) (fun _ _ _ h => h) (Or.inl ⟨by rfl, ?yg3_5⟩) hHeld ?rg3_5
        case yg3_5 =>
          intro wq hSw
          (try dsimp only at hSw)
          first | (go_simp; done) | (go_simp; with_reducible rfl)
        try simp only [Act.put, List.setIfInBounds_toArray, List.set_cons_zero, List.set_cons_succ]
        refine wpAnyH_take (i := 5) (oi := ⟨some 25, _, _, _, _, _⟩) (v := ?vg5_6) rfl (by kernel_rfl) (by kernel_rfl) (by kernel_rfl) (fun _ _ _ h => h) (Or.inl ⟨by rfl, ?yg5_6⟩) hHeld ?rg5_6
        case yg5_6 =>
          intro wq hSw
          (try dsimp only at hSw)
          first | (go_simp; done) | (go_simp; with_reducible rfl)
        try simp only [Act.put, List.setIfInBounds_toArray, List.set_cons_zero, List.set_cons_succ]
        refine wpAnyH_take (i := 7) (oi := ⟨some 27, _, _, _, _, _⟩) (v := ?vg7_7) rfl (by kernel_rfl) (by kernel_rfl) (by kernel_rfl) (fun _ _ _ h => h) (Or.inl ⟨by rfl, ?yg7_7⟩) hHeld ?rg7_7
        case yg7_7 =>
          intro wq hSw
          (try dsimp only at hSw)
          first | (go_simp; done) | (go_simp; with_reducible rfl)
        try simp only [Act.put, List.setIfInBounds_toArray, List.set_cons_zero, List.set_cons_succ]
        refine wpAnyH_ready (rs := [4, 6]) (by kernel_rfl) (by simp) ?_
        refine AllReadyH.cons (o := ⟨some 24, _, _, _, _, _⟩) rfl (fun K hK => ?_) (AllReadyH.cons (o := ⟨some 26, _, _, _, _, _⟩) rfl (fun K hK => ?_) (AllReadyH.nil))
        · have hq := (HG.out.later BL0.out).c2
          go_simp
          refine hK.out _ _ hHeld (fun _ => ?_)
          clear hK K
          try simp only [Act.put, List.setIfInBounds_toArray, List.set_cons_zero, List.set_cons_succ]
          refine wpAnyH_ready (rs := [6]) (by kernel_rfl) (by simp) ?_
          refine AllReadyH.cons (o := ⟨some 26, _, _, _, _, _⟩) rfl (fun K hK => ?_) (AllReadyH.nil)
          go_simp
          have hsl := Rw.new v_1 #[] 5 1 0 rfl (by decide)
          have hb := (Below.refl v_1.heap.size v_1).alloc (Nat.le_refl _) (.cells #[] 5)
          obtain ⟨v_8, hw⟩ : ∃ v, v = v_1.alloc (.cells #[] 5) := ⟨_, rfl⟩
          rw [← hw] at hb hsl ⊢
          clear hw
          have hfN := Fr.of_below (S := fun b => b = X ∨ Bk AW b ∨ w.heap.size ≤ b) hb
          have bl_9 := Lib.hid (BL0.out.trans (hb.mono BL0.out.size))
          have em_10 := Lib.hid hsl
          have ez_11 := Lib.hid (show w.heap.size ≤ v_1.heap.size from by omega)
          clear hsl hb
          have hHeld := hHeld.trans hfN
          have hz_12 := hfN.size
          refine hK.out _ _ hHeld (fun _ => ?_)
          clear hK K hfN
          try simp only [Act.put, List.setIfInBounds_toArray, List.set_cons_zero, List.set_cons_succ]
          refine wpAnyH_ready (rs := [8]) (by kernel_rfl) (by simp) ?_
          refine AllReadyH.cons (o := ⟨some 28, _, _, _, _, _⟩) rfl (fun K hK => ?_) (AllReadyH.nil)
          refine wp_append_rw (o := ⟨some 28, _, _, _, _, _⟩) (.tmp 26) (.tmp 27) 27 27 rfl u0 (.int .u8 0) 1 Try.underlying27 Hu0.out Hu1.out Hu2.out Hu3.out rfl (by decide) rfl (.inr ⟨v_1.heap.size, rfl, em_10.out⟩) (.slice A 64 c) 64 (cells l) rfl ((HSl.out.below bl_9.out (Nat.le_refl _)).src Try.underlying27 (by decide) (cells_one l)) (by decide) (by decide) (by decide) ?_
          intro b8 c8 v_13 hr8 hf8 ho8
          have hz8 := ez_11.out
          have hb : Below w.heap.size v_8 v_13 := hf8.below bl_9.out.size (fun k hk => by
            obtain ⟨o, hk⟩ := hk
            injection hk with hk
            injection hk with hk _
            omega)
          have hfN : Fr (fun b => b = X ∨ Bk AW b ∨ w.heap.size ≤ b) v_8 v_13 := Fr.of_belowAt hb (fun k hk => .inr (.inr hk))
          have bl_14 := Lib.hid (bl_9.out.trans hb)
          have G8 := Lib.hid (show w.heap.size ≤ b8 from by
            have := bl_9.out.size
            rcases ho8 with h | h
            · injection h with h
              injection h with h _
              omega
            · omega)
          have R8 := Lib.hid (show Rw v_13 b8 5 1 64 c8 (cells l) from hr8)
          clear hr8 hf8 ho8 hb hz8
          have hHeld := hHeld.trans hfN
          have hz_15 := hfN.size
          refine hK.out _ _ hHeld (fun _ => ?_)
          clear hK K hfN
          try simp only [Act.put, List.setIfInBounds_toArray, List.set_cons_zero, List.set_cons_succ]
          refine wpAnyH_take (i := 9) (oi := ⟨some 29, _, _, _, _, _⟩) (v := (.agg #[.int .i64 (i : Int), .slice (some ⟨b8, 0, none⟩) 64 c8, .int .i64 0, .int .u32 0])) rfl (by kernel_rfl) (by kernel_rfl) (by kernel_rfl) (fun _ _ _ h => h) (Or.inl ⟨by rfl, ?yg9_16⟩) hHeld ?rg9_16
          case yg9_16 =>
            intro wq hSw
            exact step_buildE9 (x := .tmp 25) (y := .tmp 28) rfl rfl rfl
          try simp only [Act.put, List.setIfInBounds_toArray, List.set_cons_zero, List.set_cons_succ]
          refine wpAnyH_ready (rs := [10]) (by kernel_rfl) (by simp) ?_
          refine AllReadyH.cons (o := ⟨some 30, _, _, _, _, _⟩) rfl (fun K hK => ?_) (AllReadyH.nil)
          refine wp_buildSlice (o := ⟨some 30, _, _, _, _, _⟩) 55 83 1 #[(0, .tmp 29)] rfl #[.int .i64 (i : Int), .slice (some ⟨b8, 0, none⟩) 64 c8, .int .i64 0, .int .u32 0] i0 (.agg #[.int .i64 0, .slice none 0 0, .int .i64 0, .int .u32 0]) Try.underlying55 hi0 hz0 (by rw [hz1]; decide) (by rw [hz1]; decide) (by rw [hz1]; exact fillE9a _ _ rfl) ?_
          have hsl := Sl.made v_13 #[.int .i64 (i : Int), .slice (some ⟨b8, 0, none⟩) 64 c8, .int .i64 0, .int .u32 0] 83 4 1 rfl (by decide)
          have hb := (Below.refl v_13.heap.size v_13).alloc (Nat.le_refl _) (.cells #[.int .i64 (i : Int), .slice (some ⟨b8, 0, none⟩) 64 c8, .int .i64 0, .int .u32 0] 83)
          obtain ⟨v_17, hw⟩ : ∃ v, v = v_13.alloc (.cells #[.int .i64 (i : Int), .slice (some ⟨b8, 0, none⟩) 64 c8, .int .i64 0, .int .u32 0] 83) := ⟨_, rfl⟩
          rw [← hw] at hb hsl ⊢
          clear hw
          have hfN := Fr.of_below (S := fun b => b = X ∨ Bk AW b ∨ w.heap.size ≤ b) hb
          have bl_18 := Lib.hid (bl_14.out.trans (hb.mono bl_14.out.size))
          have sb_19 := Lib.hid hsl
          have R8 := Lib.hid (R8.out.later hb)
          clear hsl hb
          have hHeld := hHeld.trans hfN
          have hz_20 := hfN.size
          refine hK.out _ _ hHeld (fun _ => ?_)
          clear hK K hfN
          try simp only [Act.put, List.setIfInBounds_toArray, List.set_cons_zero, List.set_cons_succ]
          refine wpAnyH_ready (rs := [11]) (by kernel_rfl) (by simp) ?_
          refine AllReadyH.cons (o := ⟨some 31, _, _, _, _, _⟩) rfl (fun K hK => ?_) (AllReadyH.nil)
          refine wp_append_rn (o := ⟨some 31, _, _, _, _, _⟩) (.tmp 24) (.tmp 30) 55 55 rfl i0 (.agg #[.int .i64 0, .slice none 0 0, .int .i64 0, .int .u32 0]) 48 Try.underlying55 hi0 hz0 hz1 hz2 rfl (by decide) rfl (HG.out.later bl_18.out).ew.rn (.slice (some ⟨v_13.heap.size, 0, none⟩) 1 1) 1 [.int .i64 (i : Int), .slice (some ⟨b8, 0, none⟩) 64 c8, .int .i64 0, .int .u32 0] rfl (sb_19.out.src Try.underlying55 (by decide) (fun u hu => by simp at hu; rcases hu with rfl | rfl | rfl | rfl <;> rfl)) (by unfold maxLen; omega) (by omega) ?_
          intro A7 c7 w7 hrn hfb hor
          have hfN : Fr (fun b => b = X ∨ Bk AW b ∨ w.heap.size ≤ b) v_17 w7 := hfb.mono (fun b hb => .inr (.inl hb))
          have HRN := Lib.hid hrn
          have HFB := Lib.hid hfb
          have HOR := Lib.hid hor
          have R8 := Lib.hid (R8.out.fr hfb (fun hk => (Rn.ne (.inr ⟨b8, rfl, R8.out⟩) (HG.out.later bl_18.out).ew.rn (by decide) ⟨0, rfl⟩) hk))
          clear hrn hfb hor
          have hHeld := hHeld.trans hfN
          have hz_21 := hfN.size
          refine hK.out _ _ hHeld (fun _ => ?_)
          clear hK K hfN
          try simp only [Act.put, List.setIfInBounds_toArray, List.set_cons_zero, List.set_cons_succ]
          refine wpAnyH_take (i := 12) (oi := ⟨some 32, _, _, _, _, _⟩) (v := ?vg12_22) rfl (by kernel_rfl) (by kernel_rfl) (by kernel_rfl) (fun _ _ _ h => h) (Or.inl ⟨by rfl, ?yg12_22⟩) hHeld ?rg12_22
          case yg12_22 =>
            intro wq hSw
            (try dsimp only at hSw)
            first | (go_simp; done) | (go_simp; with_reducible rfl)
          try simp only [Act.put, List.setIfInBounds_toArray, List.set_cons_zero, List.set_cons_succ]
          refine wpAnyH_take (i := 13) (oi := ⟨some 33, _, _, _, _, _⟩) (v := ?vg13_23) rfl (by kernel_rfl) (by kernel_rfl) (by kernel_rfl) (fun _ _ _ h => h) (Or.inl ⟨by rfl, ?yg13_23⟩) hHeld ?rg13_23
          case yg13_23 =>
            intro wq hSw
            (try dsimp only at hSw)
            first | (go_simp; done) | (go_simp; with_reducible rfl)
          try simp only [Act.put, List.setIfInBounds_toArray, List.set_cons_zero, List.set_cons_succ]
          refine wpAnyH_ready (rs := [14]) (by kernel_rfl) (by simp) ?_
          refine AllReadyH.cons (o := ⟨none, _, _, _, _, _⟩) rfl (fun K hK => ?_) (AllReadyH.nil)
          obtain ⟨hF8, hbx8, hrn8, hor8, q1, u1⟩ := Rg.pushW HG.out HS.out bl_18.out HFB.out HRN.out HOR.out
          go_simp
          clear q1 u1
          have hfN : Fr (fun b => b = X ∨ Bk AW b ∨ w.heap.size ≤ b) w7 (w7.setCell ⟨X, 2, none⟩ (.slice A7 (ws.length + 1) c7)) := (Fr.refl (fun b => b = X ∨ Bk AW b ∨ w.heap.size ≤ b) _).setCell (p := ⟨X, 2, none⟩) (.inr (.inl rfl)) _
          obtain ⟨w8, hw⟩ : ∃ v, v = w7.setCell ⟨X, 2, none⟩ (.slice A7 (ws.length + 1) c7) := ⟨_, rfl⟩
          have hR8 := R8.out.fr ((Fr.refl (fun b => b = X) _).setCell (p := ⟨X, 2, none⟩) (.inr rfl) (.slice A7 (ws.length + 1) c7)) (by show ¬ b8 = X; have := HS.out X HG.out.own; have := G8.out; omega)
          rw [← hw] at hR8 hfN hF8 hbx8 hrn8 ⊢
          clear hw
          have R8 := Lib.hid (show Rw w8 b8 5 1 64 c8 (cells l) from hR8)
          clear hR8
          have F8 := Lib.hid hF8
          have BX8 := Lib.hid hbx8
          have RN8 := Lib.hid hrn8
          have OR8 := Lib.hid hor8
          clear hF8 hbx8 hrn8 hor8
          have hHeld := hHeld.trans hfN
          have hz_24 := hfN.size
          refine hK.out _ _ hHeld (fun _ => ?_)
          clear hK K hfN
          try simp only [Act.put]
          refine wpAnyH_done (by kernel_rfl) ?_ _
          clear hHeld
          go_wp2_with fail
          go_ret
          exact wroteR9 HG.out HS.out Hi.out HLen.out F8.out BX8.out RN8.out OR8.out R8.out G8.out
        · go_simp
          have hsl := Rw.new v_1 #[] 5 1 0 rfl (by decide)
          have hb := (Below.refl v_1.heap.size v_1).alloc (Nat.le_refl _) (.cells #[] 5)
          obtain ⟨v_25, hw⟩ : ∃ v, v = v_1.alloc (.cells #[] 5) := ⟨_, rfl⟩
          rw [← hw] at hb hsl ⊢
          clear hw
          have hfN := Fr.of_below (S := fun b => b = X ∨ Bk AW b ∨ w.heap.size ≤ b) hb
          have bl_26 := Lib.hid (BL0.out.trans (hb.mono BL0.out.size))
          have em_27 := Lib.hid hsl
          have ez_28 := Lib.hid (show w.heap.size ≤ v_1.heap.size from by omega)
          clear hsl hb
          have hHeld := hHeld.trans hfN
          have hz_29 := hfN.size
          refine hK.out _ _ hHeld (fun _ => ?_)
          clear hK K hfN
          try simp only [Act.put, List.setIfInBounds_toArray, List.set_cons_zero, List.set_cons_succ]
          refine wpAnyH_ready (rs := [4, 8]) (by kernel_rfl) (by simp) ?_
          refine AllReadyH.cons (o := ⟨some 24, _, _, _, _, _⟩) rfl (fun K hK => ?_) (AllReadyH.cons (o := ⟨some 28, _, _, _, _, _⟩) rfl (fun K hK => ?_) (AllReadyH.nil))
          · have hq := (HG.out.later bl_26.out).c2
            go_simp
            refine hK.out _ _ hHeld (fun _ => ?_)
            clear hK K
            try simp only [Act.put, List.setIfInBounds_toArray, List.set_cons_zero, List.set_cons_succ]
            refine wpAnyH_ready (rs := [8]) (by kernel_rfl) (by simp) ?_
            refine AllReadyH.cons (o := ⟨some 28, _, _, _, _, _⟩) rfl (fun K hK => ?_) (AllReadyH.nil)
            refine wp_append_rw (o := ⟨some 28, _, _, _, _, _⟩) (.tmp 26) (.tmp 27) 27 27 rfl u0 (.int .u8 0) 1 Try.underlying27 Hu0.out Hu1.out Hu2.out Hu3.out rfl (by decide) rfl (.inr ⟨v_1.heap.size, rfl, em_27.out⟩) (.slice A 64 c) 64 (cells l) rfl ((HSl.out.below bl_26.out (Nat.le_refl _)).src Try.underlying27 (by decide) (cells_one l)) (by decide) (by decide) (by decide) ?_
            intro b8 c8 v_30 hr8 hf8 ho8
            have hz8 := ez_28.out
            have hb : Below w.heap.size v_25 v_30 := hf8.below bl_26.out.size (fun k hk => by
              obtain ⟨o, hk⟩ := hk
              injection hk with hk
              injection hk with hk _
              omega)
            have hfN : Fr (fun b => b = X ∨ Bk AW b ∨ w.heap.size ≤ b) v_25 v_30 := Fr.of_belowAt hb (fun k hk => .inr (.inr hk))
            have bl_31 := Lib.hid (bl_26.out.trans hb)
            have G8 := Lib.hid (show w.heap.size ≤ b8 from by
              have := bl_26.out.size
              rcases ho8 with h | h
              · injection h with h
                injection h with h _
                omega
              · omega)
            have R8 := Lib.hid (show Rw v_30 b8 5 1 64 c8 (cells l) from hr8)
            clear hr8 hf8 ho8 hb hz8
            have hHeld := hHeld.trans hfN
            have hz_32 := hfN.size
            refine hK.out _ _ hHeld (fun _ => ?_)
            clear hK K hfN
            try simp only [Act.put, List.setIfInBounds_toArray, List.set_cons_zero, List.set_cons_succ]
            refine wpAnyH_take (i := 9) (oi := ⟨some 29, _, _, _, _, _⟩) (v := (.agg #[.int .i64 (i : Int), .slice (some ⟨b8, 0, none⟩) 64 c8, .int .i64 0, .int .u32 0])) rfl (by kernel_rfl) (by kernel_rfl) (by kernel_rfl) (fun _ _ _ h => h) (Or.inl ⟨by rfl, ?yg9_33⟩) hHeld ?rg9_33
            case yg9_33 =>
              intro wq hSw
              exact step_buildE9 (x := .tmp 25) (y := .tmp 28) rfl rfl rfl
            try simp only [Act.put, List.setIfInBounds_toArray, List.set_cons_zero, List.set_cons_succ]
            refine wpAnyH_ready (rs := [10]) (by kernel_rfl) (by simp) ?_
            refine AllReadyH.cons (o := ⟨some 30, _, _, _, _, _⟩) rfl (fun K hK => ?_) (AllReadyH.nil)
            refine wp_buildSlice (o := ⟨some 30, _, _, _, _, _⟩) 55 83 1 #[(0, .tmp 29)] rfl #[.int .i64 (i : Int), .slice (some ⟨b8, 0, none⟩) 64 c8, .int .i64 0, .int .u32 0] i0 (.agg #[.int .i64 0, .slice none 0 0, .int .i64 0, .int .u32 0]) Try.underlying55 hi0 hz0 (by rw [hz1]; decide) (by rw [hz1]; decide) (by rw [hz1]; exact fillE9a _ _ rfl) ?_
            have hsl := Sl.made v_30 #[.int .i64 (i : Int), .slice (some ⟨b8, 0, none⟩) 64 c8, .int .i64 0, .int .u32 0] 83 4 1 rfl (by decide)
            have hb := (Below.refl v_30.heap.size v_30).alloc (Nat.le_refl _) (.cells #[.int .i64 (i : Int), .slice (some ⟨b8, 0, none⟩) 64 c8, .int .i64 0, .int .u32 0] 83)
            obtain ⟨v_34, hw⟩ : ∃ v, v = v_30.alloc (.cells #[.int .i64 (i : Int), .slice (some ⟨b8, 0, none⟩) 64 c8, .int .i64 0, .int .u32 0] 83) := ⟨_, rfl⟩
            rw [← hw] at hb hsl ⊢
            clear hw
            have hfN := Fr.of_below (S := fun b => b = X ∨ Bk AW b ∨ w.heap.size ≤ b) hb
            have bl_35 := Lib.hid (bl_31.out.trans (hb.mono bl_31.out.size))
            have sb_36 := Lib.hid hsl
            have R8 := Lib.hid (R8.out.later hb)
            clear hsl hb
            have hHeld := hHeld.trans hfN
            have hz_37 := hfN.size
            refine hK.out _ _ hHeld (fun _ => ?_)
            clear hK K hfN
            try simp only [Act.put, List.setIfInBounds_toArray, List.set_cons_zero, List.set_cons_succ]
            refine wpAnyH_ready (rs := [11]) (by kernel_rfl) (by simp) ?_
            refine AllReadyH.cons (o := ⟨some 31, _, _, _, _, _⟩) rfl (fun K hK => ?_) (AllReadyH.nil)
            refine wp_append_rn (o := ⟨some 31, _, _, _, _, _⟩) (.tmp 24) (.tmp 30) 55 55 rfl i0 (.agg #[.int .i64 0, .slice none 0 0, .int .i64 0, .int .u32 0]) 48 Try.underlying55 hi0 hz0 hz1 hz2 rfl (by decide) rfl (HG.out.later bl_35.out).ew.rn (.slice (some ⟨v_30.heap.size, 0, none⟩) 1 1) 1 [.int .i64 (i : Int), .slice (some ⟨b8, 0, none⟩) 64 c8, .int .i64 0, .int .u32 0] rfl (sb_36.out.src Try.underlying55 (by decide) (fun u hu => by simp at hu; rcases hu with rfl | rfl | rfl | rfl <;> rfl)) (by unfold maxLen; omega) (by omega) ?_
            intro A7 c7 w7 hrn hfb hor
            have hfN : Fr (fun b => b = X ∨ Bk AW b ∨ w.heap.size ≤ b) v_34 w7 := hfb.mono (fun b hb => .inr (.inl hb))
            have HRN := Lib.hid hrn
            have HFB := Lib.hid hfb
            have HOR := Lib.hid hor
            have R8 := Lib.hid (R8.out.fr hfb (fun hk => (Rn.ne (.inr ⟨b8, rfl, R8.out⟩) (HG.out.later bl_35.out).ew.rn (by decide) ⟨0, rfl⟩) hk))
            clear hrn hfb hor
            have hHeld := hHeld.trans hfN
            have hz_38 := hfN.size
            refine hK.out _ _ hHeld (fun _ => ?_)
            clear hK K hfN
            try simp only [Act.put, List.setIfInBounds_toArray, List.set_cons_zero, List.set_cons_succ]
            refine wpAnyH_take (i := 12) (oi := ⟨some 32, _, _, _, _, _⟩) (v := ?vg12_39) rfl (by kernel_rfl) (by kernel_rfl) (by kernel_rfl) (fun _ _ _ h => h) (Or.inl ⟨by rfl, ?yg12_39⟩) hHeld ?rg12_39
            case yg12_39 =>
              intro wq hSw
              (try dsimp only at hSw)
              first | (go_simp; done) | (go_simp; with_reducible rfl)
            try simp only [Act.put, List.setIfInBounds_toArray, List.set_cons_zero, List.set_cons_succ]
            refine wpAnyH_take (i := 13) (oi := ⟨some 33, _, _, _, _, _⟩) (v := ?vg13_40) rfl (by kernel_rfl) (by kernel_rfl) (by kernel_rfl) (fun _ _ _ h => h) (Or.inl ⟨by rfl, ?yg13_40⟩) hHeld ?rg13_40
            case yg13_40 =>
              intro wq hSw
              (try dsimp only at hSw)
              first | (go_simp; done) | (go_simp; with_reducible rfl)
            try simp only [Act.put, List.setIfInBounds_toArray, List.set_cons_zero, List.set_cons_succ]
            refine wpAnyH_ready (rs := [14]) (by kernel_rfl) (by simp) ?_
            refine AllReadyH.cons (o := ⟨none, _, _, _, _, _⟩) rfl (fun K hK => ?_) (AllReadyH.nil)
            obtain ⟨hF8, hbx8, hrn8, hor8, q1, u1⟩ := Rg.pushW HG.out HS.out bl_35.out HFB.out HRN.out HOR.out
            go_simp
            clear q1 u1
            have hfN : Fr (fun b => b = X ∨ Bk AW b ∨ w.heap.size ≤ b) w7 (w7.setCell ⟨X, 2, none⟩ (.slice A7 (ws.length + 1) c7)) := (Fr.refl (fun b => b = X ∨ Bk AW b ∨ w.heap.size ≤ b) _).setCell (p := ⟨X, 2, none⟩) (.inr (.inl rfl)) _
            obtain ⟨w8, hw⟩ : ∃ v, v = w7.setCell ⟨X, 2, none⟩ (.slice A7 (ws.length + 1) c7) := ⟨_, rfl⟩
            have hR8 := R8.out.fr ((Fr.refl (fun b => b = X) _).setCell (p := ⟨X, 2, none⟩) (.inr rfl) (.slice A7 (ws.length + 1) c7)) (by show ¬ b8 = X; have := HS.out X HG.out.own; have := G8.out; omega)
            rw [← hw] at hR8 hfN hF8 hbx8 hrn8 ⊢
            clear hw
            have R8 := Lib.hid (show Rw w8 b8 5 1 64 c8 (cells l) from hR8)
            clear hR8
            have F8 := Lib.hid hF8
            have BX8 := Lib.hid hbx8
            have RN8 := Lib.hid hrn8
            have OR8 := Lib.hid hor8
            clear hF8 hbx8 hrn8 hor8
            have hHeld := hHeld.trans hfN
            have hz_41 := hfN.size
            refine hK.out _ _ hHeld (fun _ => ?_)
            clear hK K hfN
            try simp only [Act.put]
            refine wpAnyH_done (by kernel_rfl) ?_ _
            clear hHeld
            go_wp2_with fail
            go_ret
            exact wroteR9 HG.out HS.out Hi.out HLen.out F8.out BX8.out RN8.out OR8.out R8.out G8.out
          · refine wp_append_rw (o := ⟨some 28, _, _, _, _, _⟩) (.tmp 26) (.tmp 27) 27 27 rfl u0 (.int .u8 0) 1 Try.underlying27 Hu0.out Hu1.out Hu2.out Hu3.out rfl (by decide) rfl (.inr ⟨v_1.heap.size, rfl, em_27.out⟩) (.slice A 64 c) 64 (cells l) rfl ((HSl.out.below bl_26.out (Nat.le_refl _)).src Try.underlying27 (by decide) (cells_one l)) (by decide) (by decide) (by decide) ?_
            intro b8 c8 v_42 hr8 hf8 ho8
            have hz8 := ez_28.out
            have hb : Below w.heap.size v_25 v_42 := hf8.below bl_26.out.size (fun k hk => by
              obtain ⟨o, hk⟩ := hk
              injection hk with hk
              injection hk with hk _
              omega)
            have hfN : Fr (fun b => b = X ∨ Bk AW b ∨ w.heap.size ≤ b) v_25 v_42 := Fr.of_belowAt hb (fun k hk => .inr (.inr hk))
            have bl_43 := Lib.hid (bl_26.out.trans hb)
            have G8 := Lib.hid (show w.heap.size ≤ b8 from by
              have := bl_26.out.size
              rcases ho8 with h | h
              · injection h with h
                injection h with h _
                omega
              · omega)
            have R8 := Lib.hid (show Rw v_42 b8 5 1 64 c8 (cells l) from hr8)
            clear hr8 hf8 ho8 hb hz8
            have hHeld := hHeld.trans hfN
            have hz_44 := hfN.size
            refine hK.out _ _ hHeld (fun _ => ?_)
            clear hK K hfN
            try simp only [Act.put, List.setIfInBounds_toArray, List.set_cons_zero, List.set_cons_succ]
            refine wpAnyH_take (i := 9) (oi := ⟨some 29, _, _, _, _, _⟩) (v := (.agg #[.int .i64 (i : Int), .slice (some ⟨b8, 0, none⟩) 64 c8, .int .i64 0, .int .u32 0])) rfl (by kernel_rfl) (by kernel_rfl) (by kernel_rfl) (fun _ _ _ h => h) (Or.inl ⟨by rfl, ?yg9_45⟩) hHeld ?rg9_45
            case yg9_45 =>
              intro wq hSw
              exact step_buildE9 (x := .tmp 25) (y := .tmp 28) rfl rfl rfl
            try simp only [Act.put, List.setIfInBounds_toArray, List.set_cons_zero, List.set_cons_succ]
            refine wpAnyH_ready (rs := [4, 10]) (by kernel_rfl) (by simp) ?_
            refine AllReadyH.cons (o := ⟨some 24, _, _, _, _, _⟩) rfl (fun K hK => ?_) (AllReadyH.cons (o := ⟨some 30, _, _, _, _, _⟩) rfl (fun K hK => ?_) (AllReadyH.nil))
            · have hq := (HG.out.later bl_43.out).c2
              go_simp
              refine hK.out _ _ hHeld (fun _ => ?_)
              clear hK K
              try simp only [Act.put, List.setIfInBounds_toArray, List.set_cons_zero, List.set_cons_succ]
              refine wpAnyH_ready (rs := [10]) (by kernel_rfl) (by simp) ?_
              refine AllReadyH.cons (o := ⟨some 30, _, _, _, _, _⟩) rfl (fun K hK => ?_) (AllReadyH.nil)
              refine wp_buildSlice (o := ⟨some 30, _, _, _, _, _⟩) 55 83 1 #[(0, .tmp 29)] rfl #[.int .i64 (i : Int), .slice (some ⟨b8, 0, none⟩) 64 c8, .int .i64 0, .int .u32 0] i0 (.agg #[.int .i64 0, .slice none 0 0, .int .i64 0, .int .u32 0]) Try.underlying55 hi0 hz0 (by rw [hz1]; decide) (by rw [hz1]; decide) (by rw [hz1]; exact fillE9a _ _ rfl) ?_
              have hsl := Sl.made v_42 #[.int .i64 (i : Int), .slice (some ⟨b8, 0, none⟩) 64 c8, .int .i64 0, .int .u32 0] 83 4 1 rfl (by decide)
              have hb := (Below.refl v_42.heap.size v_42).alloc (Nat.le_refl _) (.cells #[.int .i64 (i : Int), .slice (some ⟨b8, 0, none⟩) 64 c8, .int .i64 0, .int .u32 0] 83)
              obtain ⟨v_46, hw⟩ : ∃ v, v = v_42.alloc (.cells #[.int .i64 (i : Int), .slice (some ⟨b8, 0, none⟩) 64 c8, .int .i64 0, .int .u32 0] 83) := ⟨_, rfl⟩
              rw [← hw] at hb hsl ⊢
              clear hw
              have hfN := Fr.of_below (S := fun b => b = X ∨ Bk AW b ∨ w.heap.size ≤ b) hb
              have bl_47 := Lib.hid (bl_43.out.trans (hb.mono bl_43.out.size))
              have sb_48 := Lib.hid hsl
              have R8 := Lib.hid (R8.out.later hb)
              clear hsl hb
              have hHeld := hHeld.trans hfN
              have hz_49 := hfN.size
              refine hK.out _ _ hHeld (fun _ => ?_)
              clear hK K hfN
              try simp only [Act.put, List.setIfInBounds_toArray, List.set_cons_zero, List.set_cons_succ]
              refine wpAnyH_ready (rs := [11]) (by kernel_rfl) (by simp) ?_
              refine AllReadyH.cons (o := ⟨some 31, _, _, _, _, _⟩) rfl (fun K hK => ?_) (AllReadyH.nil)
              refine wp_append_rn (o := ⟨some 31, _, _, _, _, _⟩) (.tmp 24) (.tmp 30) 55 55 rfl i0 (.agg #[.int .i64 0, .slice none 0 0, .int .i64 0, .int .u32 0]) 48 Try.underlying55 hi0 hz0 hz1 hz2 rfl (by decide) rfl (HG.out.later bl_47.out).ew.rn (.slice (some ⟨v_42.heap.size, 0, none⟩) 1 1) 1 [.int .i64 (i : Int), .slice (some ⟨b8, 0, none⟩) 64 c8, .int .i64 0, .int .u32 0] rfl (sb_48.out.src Try.underlying55 (by decide) (fun u hu => by simp at hu; rcases hu with rfl | rfl | rfl | rfl <;> rfl)) (by unfold maxLen; omega) (by omega) ?_
              intro A7 c7 w7 hrn hfb hor
              have hfN : Fr (fun b => b = X ∨ Bk AW b ∨ w.heap.size ≤ b) v_46 w7 := hfb.mono (fun b hb => .inr (.inl hb))
              have HRN := Lib.hid hrn
              have HFB := Lib.hid hfb
              have HOR := Lib.hid hor
              have R8 := Lib.hid (R8.out.fr hfb (fun hk => (Rn.ne (.inr ⟨b8, rfl, R8.out⟩) (HG.out.later bl_47.out).ew.rn (by decide) ⟨0, rfl⟩) hk))
              clear hrn hfb hor
              have hHeld := hHeld.trans hfN
              have hz_50 := hfN.size
              refine hK.out _ _ hHeld (fun _ => ?_)
              clear hK K hfN
              try simp only [Act.put, List.setIfInBounds_toArray, List.set_cons_zero, List.set_cons_succ]
              refine wpAnyH_take (i := 12) (oi := ⟨some 32, _, _, _, _, _⟩) (v := ?vg12_51) rfl (by kernel_rfl) (by kernel_rfl) (by kernel_rfl) (fun _ _ _ h => h) (Or.inl ⟨by rfl, ?yg12_51⟩) hHeld ?rg12_51
              case yg12_51 =>
                intro wq hSw
                (try dsimp only at hSw)
                first | (go_simp; done) | (go_simp; with_reducible rfl)
              try simp only [Act.put, List.setIfInBounds_toArray, List.set_cons_zero, List.set_cons_succ]
              refine wpAnyH_take (i := 13) (oi := ⟨some 33, _, _, _, _, _⟩) (v := ?vg13_52) rfl (by kernel_rfl) (by kernel_rfl) (by kernel_rfl) (fun _ _ _ h => h) (Or.inl ⟨by rfl, ?yg13_52⟩) hHeld ?rg13_52
              case yg13_52 =>
                intro wq hSw
                (try dsimp only at hSw)
                first | (go_simp; done) | (go_simp; with_reducible rfl)
              try simp only [Act.put, List.setIfInBounds_toArray, List.set_cons_zero, List.set_cons_succ]
              refine wpAnyH_ready (rs := [14]) (by kernel_rfl) (by simp) ?_
              refine AllReadyH.cons (o := ⟨none, _, _, _, _, _⟩) rfl (fun K hK => ?_) (AllReadyH.nil)
              obtain ⟨hF8, hbx8, hrn8, hor8, q1, u1⟩ := Rg.pushW HG.out HS.out bl_47.out HFB.out HRN.out HOR.out
              go_simp
              clear q1 u1
              have hfN : Fr (fun b => b = X ∨ Bk AW b ∨ w.heap.size ≤ b) w7 (w7.setCell ⟨X, 2, none⟩ (.slice A7 (ws.length + 1) c7)) := (Fr.refl (fun b => b = X ∨ Bk AW b ∨ w.heap.size ≤ b) _).setCell (p := ⟨X, 2, none⟩) (.inr (.inl rfl)) _
              obtain ⟨w8, hw⟩ : ∃ v, v = w7.setCell ⟨X, 2, none⟩ (.slice A7 (ws.length + 1) c7) := ⟨_, rfl⟩
              have hR8 := R8.out.fr ((Fr.refl (fun b => b = X) _).setCell (p := ⟨X, 2, none⟩) (.inr rfl) (.slice A7 (ws.length + 1) c7)) (by show ¬ b8 = X; have := HS.out X HG.out.own; have := G8.out; omega)
              rw [← hw] at hR8 hfN hF8 hbx8 hrn8 ⊢
              clear hw
              have R8 := Lib.hid (show Rw w8 b8 5 1 64 c8 (cells l) from hR8)
              clear hR8
              have F8 := Lib.hid hF8
              have BX8 := Lib.hid hbx8
              have RN8 := Lib.hid hrn8
              have OR8 := Lib.hid hor8
              clear hF8 hbx8 hrn8 hor8
              have hHeld := hHeld.trans hfN
              have hz_53 := hfN.size
              refine hK.out _ _ hHeld (fun _ => ?_)
              clear hK K hfN
              try simp only [Act.put]
              refine wpAnyH_done (by kernel_rfl) ?_ _
              clear hHeld
              go_wp2_with fail
              go_ret
              exact wroteR9 HG.out HS.out Hi.out HLen.out F8.out BX8.out RN8.out OR8.out R8.out G8.out
            · refine wp_buildSlice (o := ⟨some 30, _, _, _, _, _⟩) 55 83 1 #[(0, .tmp 29)] rfl #[.int .i64 (i : Int), .slice (some ⟨b8, 0, none⟩) 64 c8, .int .i64 0, .int .u32 0] i0 (.agg #[.int .i64 0, .slice none 0 0, .int .i64 0, .int .u32 0]) Try.underlying55 hi0 hz0 (by rw [hz1]; decide) (by rw [hz1]; decide) (by rw [hz1]; exact fillE9a _ _ rfl) ?_
              have hsl := Sl.made v_42 #[.int .i64 (i : Int), .slice (some ⟨b8, 0, none⟩) 64 c8, .int .i64 0, .int .u32 0] 83 4 1 rfl (by decide)
              have hb := (Below.refl v_42.heap.size v_42).alloc (Nat.le_refl _) (.cells #[.int .i64 (i : Int), .slice (some ⟨b8, 0, none⟩) 64 c8, .int .i64 0, .int .u32 0] 83)
              obtain ⟨v_54, hw⟩ : ∃ v, v = v_42.alloc (.cells #[.int .i64 (i : Int), .slice (some ⟨b8, 0, none⟩) 64 c8, .int .i64 0, .int .u32 0] 83) := ⟨_, rfl⟩
              rw [← hw] at hb hsl ⊢
              clear hw
              have hfN := Fr.of_below (S := fun b => b = X ∨ Bk AW b ∨ w.heap.size ≤ b) hb
              have bl_55 := Lib.hid (bl_43.out.trans (hb.mono bl_43.out.size))
              have sb_56 := Lib.hid hsl
              have R8 := Lib.hid (R8.out.later hb)
              clear hsl hb
              have hHeld := hHeld.trans hfN
              have hz_57 := hfN.size
              refine hK.out _ _ hHeld (fun _ => ?_)
              clear hK K hfN
              try simp only [Act.put, List.setIfInBounds_toArray, List.set_cons_zero, List.set_cons_succ]
              refine wpAnyH_ready (rs := [4]) (by kernel_rfl) (by simp) ?_
              refine AllReadyH.cons (o := ⟨some 24, _, _, _, _, _⟩) rfl (fun K hK => ?_) (AllReadyH.nil)
              have hq := (HG.out.later bl_55.out).c2
              go_simp
              refine hK.out _ _ hHeld (fun _ => ?_)
              clear hK K
              try simp only [Act.put, List.setIfInBounds_toArray, List.set_cons_zero, List.set_cons_succ]
              refine wpAnyH_ready (rs := [11]) (by kernel_rfl) (by simp) ?_
              refine AllReadyH.cons (o := ⟨some 31, _, _, _, _, _⟩) rfl (fun K hK => ?_) (AllReadyH.nil)
              refine wp_append_rn (o := ⟨some 31, _, _, _, _, _⟩) (.tmp 24) (.tmp 30) 55 55 rfl i0 (.agg #[.int .i64 0, .slice none 0 0, .int .i64 0, .int .u32 0]) 48 Try.underlying55 hi0 hz0 hz1 hz2 rfl (by decide) rfl (HG.out.later bl_55.out).ew.rn (.slice (some ⟨v_42.heap.size, 0, none⟩) 1 1) 1 [.int .i64 (i : Int), .slice (some ⟨b8, 0, none⟩) 64 c8, .int .i64 0, .int .u32 0] rfl (sb_56.out.src Try.underlying55 (by decide) (fun u hu => by simp at hu; rcases hu with rfl | rfl | rfl | rfl <;> rfl)) (by unfold maxLen; omega) (by omega) ?_
              intro A7 c7 w7 hrn hfb hor
              have hfN : Fr (fun b => b = X ∨ Bk AW b ∨ w.heap.size ≤ b) v_54 w7 := hfb.mono (fun b hb => .inr (.inl hb))
              have HRN := Lib.hid hrn
              have HFB := Lib.hid hfb
              have HOR := Lib.hid hor
              have R8 := Lib.hid (R8.out.fr hfb (fun hk => (Rn.ne (.inr ⟨b8, rfl, R8.out⟩) (HG.out.later bl_55.out).ew.rn (by decide) ⟨0, rfl⟩) hk))
              clear hrn hfb hor
              have hHeld := hHeld.trans hfN
              have hz_58 := hfN.size
              refine hK.out _ _ hHeld (fun _ => ?_)
              clear hK K hfN
              try simp only [Act.put, List.setIfInBounds_toArray, List.set_cons_zero, List.set_cons_succ]
              refine wpAnyH_take (i := 12) (oi := ⟨some 32, _, _, _, _, _⟩) (v := ?vg12_59) rfl (by kernel_rfl) (by kernel_rfl) (by kernel_rfl) (fun _ _ _ h => h) (Or.inl ⟨by rfl, ?yg12_59⟩) hHeld ?rg12_59
              case yg12_59 =>
                intro wq hSw
                (try dsimp only at hSw)
                first | (go_simp; done) | (go_simp; with_reducible rfl)
              try simp only [Act.put, List.setIfInBounds_toArray, List.set_cons_zero, List.set_cons_succ]
              refine wpAnyH_take (i := 13) (oi := ⟨some 33, _, _, _, _, _⟩) (v := ?vg13_60) rfl (by kernel_rfl) (by kernel_rfl) (by kernel_rfl) (fun _ _ _ h => h) (Or.inl ⟨by rfl, ?yg13_60⟩) hHeld ?rg13_60
              case yg13_60 =>
                intro wq hSw
                (try dsimp only at hSw)
                first | (go_simp; done) | (go_simp; with_reducible rfl)
              try simp only [Act.put, List.setIfInBounds_toArray, List.set_cons_zero, List.set_cons_succ]
              refine wpAnyH_ready (rs := [14]) (by kernel_rfl) (by simp) ?_
              refine AllReadyH.cons (o := ⟨none, _, _, _, _, _⟩) rfl (fun K hK => ?_) (AllReadyH.nil)
              obtain ⟨hF8, hbx8, hrn8, hor8, q1, u1⟩ := Rg.pushW HG.out HS.out bl_55.out HFB.out HRN.out HOR.out
              go_simp
              clear q1 u1
              have hfN : Fr (fun b => b = X ∨ Bk AW b ∨ w.heap.size ≤ b) w7 (w7.setCell ⟨X, 2, none⟩ (.slice A7 (ws.length + 1) c7)) := (Fr.refl (fun b => b = X ∨ Bk AW b ∨ w.heap.size ≤ b) _).setCell (p := ⟨X, 2, none⟩) (.inr (.inl rfl)) _
              obtain ⟨w8, hw⟩ : ∃ v, v = w7.setCell ⟨X, 2, none⟩ (.slice A7 (ws.length + 1) c7) := ⟨_, rfl⟩
              have hR8 := R8.out.fr ((Fr.refl (fun b => b = X) _).setCell (p := ⟨X, 2, none⟩) (.inr rfl) (.slice A7 (ws.length + 1) c7)) (by show ¬ b8 = X; have := HS.out X HG.out.own; have := G8.out; omega)
              rw [← hw] at hR8 hfN hF8 hbx8 hrn8 ⊢
              clear hw
              have R8 := Lib.hid (show Rw w8 b8 5 1 64 c8 (cells l) from hR8)
              clear hR8
              have F8 := Lib.hid hF8
              have BX8 := Lib.hid hbx8
              have RN8 := Lib.hid hrn8
              have OR8 := Lib.hid hor8
              clear hF8 hbx8 hrn8 hor8
              have hHeld := hHeld.trans hfN
              have hz_61 := hfN.size
              refine hK.out _ _ hHeld (fun _ => ?_)
              clear hK K hfN
              try simp only [Act.put]
              refine wpAnyH_done (by kernel_rfl) ?_ _
              clear hHeld
              go_wp2_with fail
              go_ret
              exact wroteR9 HG.out HS.out Hi.out HLen.out F8.out BX8.out RN8.out OR8.out R8.out G8.out
      · have e1 : x.writeX z l = 2 := by rw [Dv.writeX, if_neg (by rw [hgg]; decide), if_neg (fun hh => h64 (by omega))]
        have e2 : x.write z l = x := by rw [Dv.write, if_neg (by rw [hgg]; decide), if_neg (fun hh => h64 (by omega))]
        rw [e1, e2]
        have hni : ¬ (n : Int) = 64 := by omega
        have HM := Lib.hid hstay
        clear e1 e2 hstay
        go_enter Try.func32, Try.ntmps32
        go_wp2_with fail
        refine hhas.mono ?_; rintro e w1 ⟨rfl, hw1⟩
        obtain rfl : w = w1 := hw1.symm
        go_wp2_with fail
        go_ret
        exact ⟨rfl, HM.out⟩
    · rw [decide_eq_false hx] at hhas
      have e1 : x.writeX z l = 2 := by rw [Dv.writeX, if_neg (by rw [hgg]; decide), if_neg (fun hh => hx hh.1)]
      have e2 : x.write z l = x := by rw [Dv.write, if_neg (by rw [hgg]; decide), if_neg (fun hh => hx hh.1)]
      rw [e1, e2]
      have HM := Lib.hid hstay
      clear e1 e2 hstay
      go_enter Try.func32, Try.ntmps32
      go_wp2_with fail
      refine hhas.mono ?_; rintro e w1 ⟨rfl, hw1⟩
      obtain rfl : w = w1 := hw1.symm
      go_wp2_with fail
      go_ret
      exact ⟨rfl, HM.out⟩
  · rw [hgg] at c3
    have e1 : x.writeX z l = 90 := by rw [Dv.writeX, if_pos hgg]
    have e2 : x.write z l = x := by rw [Dv.write, if_pos hgg]
    rw [e1, e2]
    have HM := Lib.hid hstay
    clear e1 e2 hstay hhas
    go_enter Try.func32, Try.ntmps32
    go_wp2_with fail
    go_ret
    exact ⟨rfl, HM.out⟩
theorem rfflush_any (hk : k ≤ 100000) (h : Rf w S X k x) : Calls Try.prog 33 #[.pointer (some ⟨X, 0, none⟩)] w fun e w' => e = .returned (.int .i64 x.flushX) ∧ MutR S X k x.flush1 w w' := by
  obtain ⟨hS, AL, cL, ls, AW, cW, ws, hg⟩ := h
  have hstay : MutR S X k x w w := ⟨S, ⟨hS, AL, cL, ls, AW, cW, ws, hg⟩, Fr.refl _ _, fun _ hb => .inl hb⟩
  have c3 := hg.c3
  cases hgg : x.gone
  · rw [hgg] at c3
    have e1 : x.flushX = 0 := by rw [Dv.flushX, hgg]; rfl
    rw [e1]
    have hlen := hg.len
    have HG := Lib.hid hg
    have HS := Lib.hid hS
    have Hgg := Lib.hid hgg
    obtain ⟨i0, hi0, hz0, hz1, hz2⟩ := info_parts infoE9
    clear hg hS hgg hstay e1
    go_enter Try.func33, Try.ntmps33
    go_wp2_with fail
    have BL0 := Lib.hid (show Below w.heap.size w w.drew from Below.drew (Below.refl _ _))
    refine wp_region_held_drew (S := fun w' => Fr (fun b => b = X ∨ Bk AL b ∨ w.heap.size ≤ b) w w') (by kernel_rfl) (Fr.drew (Fr.refl _ _)) (fun hHeld => ?_)
    clear hHeld
    have hHeld : Fr (fun b => b = X ∨ Bk AL b ∨ w.heap.size ≤ b) w w.drew := Fr.drew (Fr.refl _ _)
    have hz_0 : w.heap.size ≤ w.drew.heap.size := Nat.le_refl _
    obtain ⟨v_1, hw⟩ : ∃ v_1, v_1 = w.drew := ⟨_, rfl⟩
    rw [← hw] at hHeld hz_0 BL0 ⊢
    clear hw
    refine wpAnyH_take (i := 0) (oi := ⟨some 7, _, _, _, _, _⟩) (v := ?vg0_2) rfl (by kernel_rfl) (by kernel_rfl) (by kernel_rfl) (fun _ _ _ h => h) (Or.inl ⟨by rfl, ?yg0_2⟩) hHeld ?rg0_2
    case yg0_2 =>
      intro wq hSw
      (try dsimp only at hSw)
      first | (go_simp; done) | (go_simp; with_reducible rfl)
    try simp only [Act.put, List.setIfInBounds_toArray, List.set_cons_zero, List.set_cons_succ]
    refine wpAnyH_take (i := 1) (oi := ⟨some 8, _, _, _, _, _⟩) (v := ?vg1_3) rfl (by kernel_rfl) (by kernel_rfl) (by kernel_rfl) (fun _ _ _ h => h) (Or.inl ⟨by rfl, ?yg1_3⟩) hHeld ?rg1_3
    case yg1_3 =>
      intro wq hSw
      (try dsimp only at hSw)
      first | (go_simp; done) | (go_simp; with_reducible rfl)
    try simp only [Act.put, List.setIfInBounds_toArray, List.set_cons_zero, List.set_cons_succ]
    refine wpAnyH_take (i := 2) (oi := ⟨some 9, _, _, _, _, _⟩) (v := ?vg2_4) rfl (by kernel_rfl) (by kernel_rfl) (by kernel_rfl) (fun _ _ _ h => h) (Or.inl ⟨by rfl, ?yg2_4⟩) hHeld ?rg2_4
    case yg2_4 =>
      intro wq hSw
      (try dsimp only at hSw)
      first | (go_simp; done) | (go_simp; with_reducible rfl)
    try simp only [Act.put, List.setIfInBounds_toArray, List.set_cons_zero, List.set_cons_succ]
    refine wpAnyH_take (i := 3) (oi := ⟨some 10, _, _, _, _, _⟩) (v := ?vg3_5) rfl (by kernel_rfl) (by kernel_rfl) (by kernel_rfl) (fun _ _ _ h => h) (Or.inl ⟨by rfl, ?yg3_5⟩) hHeld ?rg3_5
    case yg3_5 =>
      intro wq hSw
      (try dsimp only at hSw)
      first | (go_simp; done) | (go_simp; with_reducible rfl)
    try simp only [Act.put, List.setIfInBounds_toArray, List.set_cons_zero, List.set_cons_succ]
    refine wpAnyH_take (i := 5) (oi := ⟨some 12, _, _, _, _, _⟩) (v := ?vg5_6) rfl (by kernel_rfl) (by kernel_rfl) (by kernel_rfl) (fun _ _ _ h => h) (Or.inl ⟨by rfl, ?yg5_6⟩) hHeld ?rg5_6
    case yg5_6 =>
      intro wq hSw
      (try dsimp only at hSw)
      first | (go_simp; done) | (go_simp; with_reducible rfl)
    try simp only [Act.put, List.setIfInBounds_toArray, List.set_cons_zero, List.set_cons_succ]
    refine wpAnyH_take (i := 6) (oi := ⟨some 13, _, _, _, _, _⟩) (v := ?vg6_7) rfl (by kernel_rfl) (by kernel_rfl) (by kernel_rfl) (fun _ _ _ h => h) (Or.inl ⟨by rfl, ?yg6_7⟩) hHeld ?rg6_7
    case yg6_7 =>
      intro wq hSw
      (try dsimp only at hSw)
      first | (go_simp; done) | (go_simp; with_reducible rfl)
    try simp only [Act.put, List.setIfInBounds_toArray, List.set_cons_zero, List.set_cons_succ]
    refine wpAnyH_take (i := 7) (oi := ⟨some 14, _, _, _, _, _⟩) (v := ?vg7_8) rfl (by kernel_rfl) (by kernel_rfl) (by kernel_rfl) (fun _ _ _ h => h) (Or.inl ⟨by rfl, ?yg7_8⟩) hHeld ?rg7_8
    case yg7_8 =>
      intro wq hSw
      (try dsimp only at hSw)
      first | (go_simp; done) | (go_simp; with_reducible rfl)
    try simp only [Act.put, List.setIfInBounds_toArray, List.set_cons_zero, List.set_cons_succ]
    refine wpAnyH_ready (rs := [4, 8]) (by kernel_rfl) (by simp) ?_
    refine AllReadyH.cons (o := ⟨some 11, _, _, _, _, _⟩) rfl (fun K hK => ?_) (AllReadyH.cons (o := ⟨some 15, _, _, _, _, _⟩) rfl (fun K hK => ?_) (AllReadyH.nil))
    · have hq := (HG.out.later BL0.out).c1
      go_simp
      refine hK.out _ _ hHeld (fun _ => ?_)
      clear hK K
      try simp only [Act.put, List.setIfInBounds_toArray, List.set_cons_zero, List.set_cons_succ]
      refine wpAnyH_ready (rs := [8]) (by kernel_rfl) (by simp) ?_
      refine AllReadyH.cons (o := ⟨some 15, _, _, _, _, _⟩) rfl (fun K hK => ?_) (AllReadyH.nil)
      have hq := (HG.out.later BL0.out).c2
      go_simp
      refine hK.out _ _ hHeld (fun _ => ?_)
      clear hK K
      try simp only [Act.put, List.setIfInBounds_toArray, List.set_cons_zero, List.set_cons_succ]
      refine wpAnyH_ready (rs := [9]) (by kernel_rfl) (by simp) ?_
      refine AllReadyH.cons (o := ⟨some 16, _, _, _, _, _⟩) rfl (fun K hK => ?_) (AllReadyH.nil)
      refine wp_append_rn (o := ⟨some 16, _, _, _, _, _⟩) (.tmp 11) (.tmp 15) 55 55 rfl i0 (.agg #[.int .i64 0, .slice none 0 0, .int .i64 0, .int .u32 0]) 48 Try.underlying55 hi0 hz0 hz1 hz2 rfl (by decide) rfl (HG.out.later BL0.out).el.rn (.slice AW ws.length cW) ws.length (ws.flatMap emc) rfl ((HG.out.later BL0.out).ew.rn.sl.src Try.underlying55 (by decide) (flat_one emc_one ws)) (by unfold maxLen; omega) (by omega) ?_
      intro A7 c7 w7 hrn hfb hor
      have hfN : Fr (fun b => b = X ∨ Bk AL b ∨ w.heap.size ≤ b) v_1 w7 := hfb.mono (fun b hb => .inr (.inl hb))
      have HRN := Lib.hid hrn
      have HFB := Lib.hid hfb
      have HOR := Lib.hid hor
      clear hrn hfb hor
      have hHeld := hHeld.trans hfN
      have hz_9 := hfN.size
      refine hK.out _ _ hHeld (fun _ => ?_)
      clear hK K hfN
      try simp only [Act.put, List.setIfInBounds_toArray, List.set_cons_zero, List.set_cons_succ]
      refine wpAnyH_take (i := 10) (oi := ⟨some 17, _, _, _, _, _⟩) (v := ?vg10_10) rfl (by kernel_rfl) (by kernel_rfl) (by kernel_rfl) (fun _ _ _ h => h) (Or.inl ⟨by rfl, ?yg10_10⟩) hHeld ?rg10_10
      case yg10_10 =>
        intro wq hSw
        (try dsimp only at hSw)
        first | (go_simp; done) | (go_simp; with_reducible rfl)
      try simp only [Act.put, List.setIfInBounds_toArray, List.set_cons_zero, List.set_cons_succ]
      refine wpAnyH_take (i := 11) (oi := ⟨some 18, _, _, _, _, _⟩) (v := ?vg11_11) rfl (by kernel_rfl) (by kernel_rfl) (by kernel_rfl) (fun _ _ _ h => h) (Or.inl ⟨by rfl, ?yg11_11⟩) hHeld ?rg11_11
      case yg11_11 =>
        intro wq hSw
        (try dsimp only at hSw)
        first | (go_simp; done) | (go_simp; with_reducible rfl)
      try simp only [Act.put, List.setIfInBounds_toArray, List.set_cons_zero, List.set_cons_succ]
      refine wpAnyH_ready (rs := [12]) (by kernel_rfl) (by simp) ?_
      refine AllReadyH.cons (o := ⟨none, _, _, _, _, _⟩) rfl (fun K hK => ?_) (AllReadyH.nil)
      obtain ⟨hF8, hbx8, hrn8, hor8, q1, u1⟩ := Rg.pushL HG.out HS.out BL0.out HFB.out HRN.out HOR.out
      go_simp
      clear q1 u1
      have hfN : Fr (fun b => b = X ∨ Bk AL b ∨ w.heap.size ≤ b) w7 (w7.setCell ⟨X, 1, none⟩ (.slice A7 (ls.length + ws.length) c7)) := (Fr.refl (fun b => b = X ∨ Bk AL b ∨ w.heap.size ≤ b) _).setCell (p := ⟨X, 1, none⟩) (.inr (.inl rfl)) _
      obtain ⟨w8, hw⟩ : ∃ v, v = w7.setCell ⟨X, 1, none⟩ (.slice A7 (ls.length + ws.length) c7) := ⟨_, rfl⟩
      rw [← hw] at hfN hF8 hbx8 hrn8 ⊢
      clear hw
      have F8 := Lib.hid hF8
      have BX8 := Lib.hid hbx8
      have RN8 := Lib.hid hrn8
      have OR8 := Lib.hid hor8
      clear hF8 hbx8 hrn8 hor8
      have hHeld := hHeld.trans hfN
      have hz_12 := hfN.size
      refine hK.out _ _ hHeld (fun _ => ?_)
      clear hK K hfN
      try simp only [Act.put]
      refine wpAnyH_done (by kernel_rfl) ?_ _
      clear hHeld
      have q2 : w8.cell? ⟨X, 2, none⟩ = some (.slice AW ws.length cW) := by rw [cell_of_row _ _ _ _ _ _ BX8.out]; rfl
      have u2 : w8.frozen? ⟨X, 2, none⟩ = false := frozen_of_row _ _ _ _ _ BX8.out
      go_wp2_with fail
      go_ret
      exact ⟨rfl, flushedR9 HG.out HS.out Hgg.out F8.out BX8.out RN8.out OR8.out⟩
    · have hq := (HG.out.later BL0.out).c2
      go_simp
      refine hK.out _ _ hHeld (fun _ => ?_)
      clear hK K
      try simp only [Act.put, List.setIfInBounds_toArray, List.set_cons_zero, List.set_cons_succ]
      refine wpAnyH_ready (rs := [4]) (by kernel_rfl) (by simp) ?_
      refine AllReadyH.cons (o := ⟨some 11, _, _, _, _, _⟩) rfl (fun K hK => ?_) (AllReadyH.nil)
      have hq := (HG.out.later BL0.out).c1
      go_simp
      refine hK.out _ _ hHeld (fun _ => ?_)
      clear hK K
      try simp only [Act.put, List.setIfInBounds_toArray, List.set_cons_zero, List.set_cons_succ]
      refine wpAnyH_ready (rs := [9]) (by kernel_rfl) (by simp) ?_
      refine AllReadyH.cons (o := ⟨some 16, _, _, _, _, _⟩) rfl (fun K hK => ?_) (AllReadyH.nil)
      refine wp_append_rn (o := ⟨some 16, _, _, _, _, _⟩) (.tmp 11) (.tmp 15) 55 55 rfl i0 (.agg #[.int .i64 0, .slice none 0 0, .int .i64 0, .int .u32 0]) 48 Try.underlying55 hi0 hz0 hz1 hz2 rfl (by decide) rfl (HG.out.later BL0.out).el.rn (.slice AW ws.length cW) ws.length (ws.flatMap emc) rfl ((HG.out.later BL0.out).ew.rn.sl.src Try.underlying55 (by decide) (flat_one emc_one ws)) (by unfold maxLen; omega) (by omega) ?_
      intro A7 c7 w7 hrn hfb hor
      have hfN : Fr (fun b => b = X ∨ Bk AL b ∨ w.heap.size ≤ b) v_1 w7 := hfb.mono (fun b hb => .inr (.inl hb))
      have HRN := Lib.hid hrn
      have HFB := Lib.hid hfb
      have HOR := Lib.hid hor
      clear hrn hfb hor
      have hHeld := hHeld.trans hfN
      have hz_13 := hfN.size
      refine hK.out _ _ hHeld (fun _ => ?_)
      clear hK K hfN
      try simp only [Act.put, List.setIfInBounds_toArray, List.set_cons_zero, List.set_cons_succ]
      refine wpAnyH_take (i := 10) (oi := ⟨some 17, _, _, _, _, _⟩) (v := ?vg10_14) rfl (by kernel_rfl) (by kernel_rfl) (by kernel_rfl) (fun _ _ _ h => h) (Or.inl ⟨by rfl, ?yg10_14⟩) hHeld ?rg10_14
      case yg10_14 =>
        intro wq hSw
        (try dsimp only at hSw)
        first | (go_simp; done) | (go_simp; with_reducible rfl)
      try simp only [Act.put, List.setIfInBounds_toArray, List.set_cons_zero, List.set_cons_succ]
      refine wpAnyH_take (i := 11) (oi := ⟨some 18, _, _, _, _, _⟩) (v := ?vg11_15) rfl (by kernel_rfl) (by kernel_rfl) (by kernel_rfl) (fun _ _ _ h => h) (Or.inl ⟨by rfl, ?yg11_15⟩) hHeld ?rg11_15
      case yg11_15 =>
        intro wq hSw
        (try dsimp only at hSw)
        first | (go_simp; done) | (go_simp; with_reducible rfl)
      try simp only [Act.put, List.setIfInBounds_toArray, List.set_cons_zero, List.set_cons_succ]
      refine wpAnyH_ready (rs := [12]) (by kernel_rfl) (by simp) ?_
      refine AllReadyH.cons (o := ⟨none, _, _, _, _, _⟩) rfl (fun K hK => ?_) (AllReadyH.nil)
      obtain ⟨hF8, hbx8, hrn8, hor8, q1, u1⟩ := Rg.pushL HG.out HS.out BL0.out HFB.out HRN.out HOR.out
      go_simp
      clear q1 u1
      have hfN : Fr (fun b => b = X ∨ Bk AL b ∨ w.heap.size ≤ b) w7 (w7.setCell ⟨X, 1, none⟩ (.slice A7 (ls.length + ws.length) c7)) := (Fr.refl (fun b => b = X ∨ Bk AL b ∨ w.heap.size ≤ b) _).setCell (p := ⟨X, 1, none⟩) (.inr (.inl rfl)) _
      obtain ⟨w8, hw⟩ : ∃ v, v = w7.setCell ⟨X, 1, none⟩ (.slice A7 (ls.length + ws.length) c7) := ⟨_, rfl⟩
      rw [← hw] at hfN hF8 hbx8 hrn8 ⊢
      clear hw
      have F8 := Lib.hid hF8
      have BX8 := Lib.hid hbx8
      have RN8 := Lib.hid hrn8
      have OR8 := Lib.hid hor8
      clear hF8 hbx8 hrn8 hor8
      have hHeld := hHeld.trans hfN
      have hz_16 := hfN.size
      refine hK.out _ _ hHeld (fun _ => ?_)
      clear hK K hfN
      try simp only [Act.put]
      refine wpAnyH_done (by kernel_rfl) ?_ _
      clear hHeld
      have q2 : w8.cell? ⟨X, 2, none⟩ = some (.slice AW ws.length cW) := by rw [cell_of_row _ _ _ _ _ _ BX8.out]; rfl
      have u2 : w8.frozen? ⟨X, 2, none⟩ = false := frozen_of_row _ _ _ _ _ BX8.out
      go_wp2_with fail
      go_ret
      exact ⟨rfl, flushedR9 HG.out HS.out Hgg.out F8.out BX8.out RN8.out OR8.out⟩
  · rw [hgg] at c3
    have e1 : x.flushX = 90 := by rw [Dv.flushX, hgg]; rfl
    have e2 : x.flush1 = x := by rw [Dv.flush1, hgg]; rfl
    rw [e1, e2]
    have HM := Lib.hid hstay
    clear e1 e2 hstay
    go_enter Try.func33, Try.ntmps33
    go_wp2_with fail
    go_ret
    exact ⟨rfl, HM.out⟩
theorem rfcrash_any (B : Option Addr) (nk cb : Nat) (ks : List Bool) (hk : k ≤ 100000) (h : Rf w S X k x) (hs : Sl w 1 B nk cb (bcells ks)) (hB : ∀ b o, 0 < nk → B = some ⟨b, o, none⟩ → ¬ S b) :
    Calls Try.prog 34 #[.pointer (some ⟨X, 0, none⟩), .slice B nk cb] w fun e w' => e = .returned (.tuple #[]) ∧ MutR S X k (x.crash ks) w w' := by
  obtain ⟨hS, AL, cL, ls, AW, cW, ws, hg⟩ := h
  have hnk : ks.length = nk := by have := hs.len; rw [bcells_length] at this; omega
  have hlen := hg.len
  obtain ⟨nw, hnw⟩ : ∃ nw, nw = ws.length := ⟨_, rfl⟩
  have hwl : x.wait.length = nw := by rw [hg.rel.wait, List.length_map, List.length_map, hnw]
  have HN := Lib.hid hnw
  have HW := Lib.hid hwl
  have HK := Lib.hid hnk
  have HKs := Lib.hid hs
  have HB := Lib.hid hB
  have HG0 := Lib.hid hg
  have HS0 := Lib.hid (show (∀ b, S b → b < w.heap.size) ∧ Rel x x.n (ls.map Em.ev) (ws.map Em.ev) x.gone from ⟨hS, hg.rel⟩)
  have HC0 := Lib.hid (Cj.start hg hS ks)
  obtain ⟨i0, hi0, hz0, hz1, hz2⟩ := info_parts infoE9
  rw [← hnw] at hlen
  clear hg hS hs hB hnk hnw hwl
  go_enter Try.func34, Try.ntmps34
  go_wp2_with fail
  go_loopw [4] (fun i wr => ∃ (j : Nat) (Sj : Nat → Prop) (Aj : Option Addr) (cj : Nat) (lj : List Em), j ≤ nw ∧ j ≤ nk ∧ i = .int .i64 (j : Int) ∧ Cj w S X k x ks AW cW ws wr j Sj Aj cj lj) (fun i _ => nw - (intOf i).toNat)
  case atStart => exact ⟨0, S, AL, cL, ls, by omega, by omega, rfl, HC0.out⟩
  case round =>
    obtain ⟨j, Sj, Aj, cj, lj, hjw, hjk, rfl, hC⟩ := hrel
    have HC := Lib.hid hC
    have HG := Lib.hid hC.rg
    have HS := Lib.hid hC.lt
    have c2 := hC.rg.c2
    rw [← HN.out] at c2
    have hljl := hC.len
    rw [← HN.out] at hljl
    clear hC
    by_cases hlt : j < nw
    · have hji : (j : Int) < (nw : Int) := by omega
      by_cases hkl : j < nk
      · have hki : (j : Int) < (nk : Int) := by omega
        obtain ⟨em, hm⟩ : ∃ m, ws[j]? = some m := ⟨_, List.getElem?_eq_getElem (by rw [← HN.out]; exact hlt)⟩
        have hB' := HB.out
        obtain ⟨bk, ok, rfl, hck⟩ := HKs.out.at_ hkl
        have hck2 := HC.out.fr.cell_some (hck j (.bool (ks.getD j false)) (by
          have : j < ks.length := by have := HK.out; omega
          simp [bcells, this])) (hB' bk ok (by omega) rfl)
        have Hm := Lib.hid hm
        clear hB' hck
        cases hkj : ks.getD j false
        · rw [hkj] at hck2
          have Hkj := Lib.hid hkj
          clear hkj
          go_wp2_with fail
          go_roundw
          case rel => exact ⟨j + 1, Sj, Aj, cj, lj, by omega, by omega, by go_num, HC.out.skip HS0.out.2 Hm.out Hkj.out⟩
          case measure => simp [intOf]; omega
        · rw [hkj] at hck2
          have Hkj := Lib.hid hkj
          have hgn : x.gone = false := by
            cases hgg : x.gone
            · rfl
            · have h0 := HS0.out.2
              rw [hgg] at h0
              have := h0.dead
              have hl := congrArg List.length this
              rw [List.length_map] at hl
              have := HN.out
              simp at hl
              rw [hl] at this
              simp at this
              omega
          have Hjn := Lib.hid hgn
          have hwc := HG.out.ew.cell hm
          clear hkj hgn
          obtain ⟨ga, hga, -, -, -, -, hrg⟩ := hwc
          have NGa := Lib.hid (show ¬ (ga = X ∨ Bk Aj ga ∨ wr.heap.size ≤ ga) from by
            have hbk : Bk AW ga := ⟨0, hga⟩
            rintro (q | q | q)
            · exact HG.out.ew.rn.neX HG.out.box (by decide) (by rw [← q]; exact hbk)
            · exact HG.out.apart ga q hbk
            · have := HG.out.ew.rn.lt hbk
              omega)
          subst hga
          obtain ⟨ev, Ae, ce⟩ := em
          obtain ⟨at_, eb, off, mask⟩ := ev
          have HRg := Lib.hid (show wr.rangeAt ga (j * 4) [.int .i64 (at_ : Int), .slice Ae eb.length ce, .int .i64 (off : Int), .int .u32 (mask : Int)] from hrg)
          have hnwl : nw = ws.length := HN.out
          clear hm hrg
          go_wp2_with fail
          have BL0 := Lib.hid (show Below wr.heap.size wr wr.drew from Below.drew (Below.refl _ _))
          refine wp_region_held_drew (S := fun w' => Fr (fun b => b = X ∨ Bk Aj b ∨ wr.heap.size ≤ b) wr w') (by kernel_rfl) (Fr.drew (Fr.refl _ _)) (fun hHeld => ?_)
          clear hHeld
          have hHeld : Fr (fun b => b = X ∨ Bk Aj b ∨ wr.heap.size ≤ b) wr wr.drew := Fr.drew (Fr.refl _ _)
          have hz_0 : wr.heap.size ≤ wr.drew.heap.size := Nat.le_refl _
          obtain ⟨v_1, hw⟩ : ∃ v_1, v_1 = wr.drew := ⟨_, rfl⟩
          rw [← hw] at hHeld hz_0 BL0 ⊢
          clear hw
          refine wpAnyH_take (i := 0) (oi := ⟨some 24, _, _, _, _, _⟩) (v := ?vg0_2) rfl (by kernel_rfl) (by kernel_rfl) (by kernel_rfl) (fun _ _ _ h => h) (Or.inl ⟨by rfl, ?yg0_2⟩) hHeld ?rg0_2
          case yg0_2 =>
            intro wq hSw
            (try dsimp only at hSw)
            first | (go_simp; done) | (go_simp; with_reducible rfl)
          try simp only [Act.put, List.setIfInBounds_toArray, List.set_cons_zero, List.set_cons_succ]
          refine wpAnyH_take (i := 1) (oi := ⟨some 25, _, _, _, _, _⟩) (v := ?vg1_3) rfl (by kernel_rfl) (by kernel_rfl) (by kernel_rfl) (fun _ _ _ h => h) (Or.inl ⟨by rfl, ?yg1_3⟩) hHeld ?rg1_3
          case yg1_3 =>
            intro wq hSw
            (try dsimp only at hSw)
            first | (go_simp; done) | (go_simp; with_reducible rfl)
          try simp only [Act.put, List.setIfInBounds_toArray, List.set_cons_zero, List.set_cons_succ]
          refine wpAnyH_take (i := 2) (oi := ⟨some 26, _, _, _, _, _⟩) (v := ?vg2_4) rfl (by kernel_rfl) (by kernel_rfl) (by kernel_rfl) (fun _ _ _ h => h) (Or.inl ⟨by rfl, ?yg2_4⟩) hHeld ?rg2_4
          case yg2_4 =>
            intro wq hSw
            (try dsimp only at hSw)
            first | (go_simp; done) | (go_simp; with_reducible rfl)
          try simp only [Act.put, List.setIfInBounds_toArray, List.set_cons_zero, List.set_cons_succ]
          refine wpAnyH_take (i := 3) (oi := ⟨some 27, _, _, _, _, _⟩) (v := ?vg3_5) rfl (by kernel_rfl) (by kernel_rfl) (by kernel_rfl) (fun _ _ _ h => h) (Or.inl ⟨by rfl, ?yg3_5⟩) hHeld ?rg3_5
          case yg3_5 =>
            intro wq hSw
            (try dsimp only at hSw)
            first | (go_simp; done) | (go_simp; with_reducible rfl)
          try simp only [Act.put, List.setIfInBounds_toArray, List.set_cons_zero, List.set_cons_succ]
          refine wpAnyH_take (i := 5) (oi := ⟨some 29, _, _, _, _, _⟩) (v := ?vg5_6) rfl (by kernel_rfl) (by kernel_rfl) (by kernel_rfl) (fun _ _ _ h => h) (Or.inl ⟨by rfl, ?yg5_6⟩) hHeld ?rg5_6
          case yg5_6 =>
            intro wq hSw
            (try dsimp only at hSw)
            first | (go_simp; done) | (go_simp; with_reducible rfl)
          try simp only [Act.put, List.setIfInBounds_toArray, List.set_cons_zero, List.set_cons_succ]
          refine wpAnyH_take (i := 6) (oi := ⟨some 30, _, _, _, _, _⟩) (v := ?vg6_7) rfl (by kernel_rfl) (by kernel_rfl) (by kernel_rfl) (fun _ _ _ h => h) (Or.inl ⟨by rfl, ?yg6_7⟩) hHeld ?rg6_7
          case yg6_7 =>
            intro wq hSw
            (try dsimp only at hSw)
            first | (go_simp; done) | (go_simp; with_reducible rfl)
          try simp only [Act.put, List.setIfInBounds_toArray, List.set_cons_zero, List.set_cons_succ]
          refine wpAnyH_take (i := 7) (oi := ⟨some 31, _, _, _, _, _⟩) (v := ?vg7_8) rfl (by kernel_rfl) (by kernel_rfl) (by kernel_rfl) (fun _ _ _ h => h) (Or.inl ⟨by rfl, ?yg7_8⟩) hHeld ?rg7_8
          case yg7_8 =>
            intro wq hSw
            (try dsimp only at hSw)
            first | (go_simp; done) | (go_simp; with_reducible rfl)
          try simp only [Act.put, List.setIfInBounds_toArray, List.set_cons_zero, List.set_cons_succ]
          refine wpAnyH_take (i := 9) (oi := ⟨some 33, _, _, _, _, _⟩) (v := ?vg9_9) rfl (by kernel_rfl) (by kernel_rfl) (by kernel_rfl) (fun _ _ _ h => h) (Or.inl ⟨by rfl, ?yg9_9⟩) hHeld ?rg9_9
          case yg9_9 =>
            intro wq hSw
            (try dsimp only at hSw)
            first | (go_simp; done) | (go_simp; with_reducible rfl)
          try simp only [Act.put, List.setIfInBounds_toArray, List.set_cons_zero, List.set_cons_succ]
          refine wpAnyH_ready (rs := [4, 8]) (by kernel_rfl) (by simp) ?_
          refine AllReadyH.cons (o := ⟨some 28, _, _, _, _, _⟩) rfl (fun K hK => ?_) (AllReadyH.cons (o := ⟨some 32, _, _, _, _, _⟩) rfl (fun K hK => ?_) (AllReadyH.nil))
          · have hq := (HG.out.later BL0.out).c1
            go_simp
            refine hK.out _ _ hHeld (fun _ => ?_)
            clear hK K
            try simp only [Act.put, List.setIfInBounds_toArray, List.set_cons_zero, List.set_cons_succ]
            refine wpAnyH_ready (rs := [8]) (by kernel_rfl) (by simp) ?_
            refine AllReadyH.cons (o := ⟨some 32, _, _, _, _, _⟩) rfl (fun K hK => ?_) (AllReadyH.nil)
            have hq := (HG.out.later BL0.out).c2
            go_simp
            refine hK.out _ _ hHeld (fun _ => ?_)
            clear hK K
            try simp only [Act.put, List.setIfInBounds_toArray, List.set_cons_zero, List.set_cons_succ]
            refine wpAnyH_take (i := 10) (oi := ⟨some 34, _, _, _, _, _⟩) (v := ?vg10_10) rfl (by kernel_rfl) (by kernel_rfl) (by kernel_rfl) (fun _ _ _ h => h) (Or.inl ⟨by rfl, ?yg10_10⟩) hHeld ?rg10_10
            case yg10_10 =>
              intro wq hSw
              (try dsimp only at hSw)
              first | (go_simp; done) | (go_simp; with_reducible rfl)
            try simp only [Act.put, List.setIfInBounds_toArray, List.set_cons_zero, List.set_cons_succ]
            refine wpAnyH_take (i := 11) (oi := ⟨some 35, _, _, _, _, _⟩) (v := (.agg #[.int .i64 (at_ : Int), .slice Ae eb.length ce, .int .i64 (off : Int), .int .u32 (mask : Int)])) rfl (by kernel_rfl) (by kernel_rfl) (by kernel_rfl) (fun _ _ _ h => h) (Or.inl ⟨by rfl, ?yg11_11⟩) hHeld ?rg11_11
            case yg11_11 =>
              intro wq hSw
              exact step_loadE9 (x := .tmp 34) (b := ga) (off := j * 4) rfl rfl (fun q v hv => hSw.cell_some (HRg.out q v hv) NGa.out)
            try simp only [Act.put, List.setIfInBounds_toArray, List.set_cons_zero, List.set_cons_succ]
            refine wpAnyH_ready (rs := [12]) (by kernel_rfl) (by simp) ?_
            refine AllReadyH.cons (o := ⟨some 36, _, _, _, _, _⟩) rfl (fun K hK => ?_) (AllReadyH.nil)
            refine wp_buildSlice (o := ⟨some 36, _, _, _, _, _⟩) 55 83 1 #[(0, .tmp 35)] rfl #[.int .i64 (at_ : Int), .slice Ae eb.length ce, .int .i64 (off : Int), .int .u32 (mask : Int)] i0 (.agg #[.int .i64 0, .slice none 0 0, .int .i64 0, .int .u32 0]) Try.underlying55 hi0 hz0 (by rw [hz1]; decide) (by rw [hz1]; decide) (by rw [hz1]; exact fillE9a _ _ rfl) ?_
            have hsl := Sl.made v_1 #[.int .i64 (at_ : Int), .slice Ae eb.length ce, .int .i64 (off : Int), .int .u32 (mask : Int)] 83 4 1 rfl (by decide)
            have hb := (Below.refl v_1.heap.size v_1).alloc (Nat.le_refl _) (.cells #[.int .i64 (at_ : Int), .slice Ae eb.length ce, .int .i64 (off : Int), .int .u32 (mask : Int)] 83)
            obtain ⟨v_12, hw⟩ : ∃ v, v = v_1.alloc (.cells #[.int .i64 (at_ : Int), .slice Ae eb.length ce, .int .i64 (off : Int), .int .u32 (mask : Int)] 83) := ⟨_, rfl⟩
            rw [← hw] at hb hsl ⊢
            clear hw
            have hfN := Fr.of_below (S := fun b => b = X ∨ Bk Aj b ∨ wr.heap.size ≤ b) hb
            have bl_13 := Lib.hid (BL0.out.trans (hb.mono BL0.out.size))
            have sb_14 := Lib.hid hsl
            clear hsl hb
            have hHeld := hHeld.trans hfN
            have hz_15 := hfN.size
            refine hK.out _ _ hHeld (fun _ => ?_)
            clear hK K hfN
            try simp only [Act.put, List.setIfInBounds_toArray, List.set_cons_zero, List.set_cons_succ]
            refine wpAnyH_ready (rs := [13]) (by kernel_rfl) (by simp) ?_
            refine AllReadyH.cons (o := ⟨some 37, _, _, _, _, _⟩) rfl (fun K hK => ?_) (AllReadyH.nil)
            refine wp_append_rn (o := ⟨some 37, _, _, _, _, _⟩) (.tmp 28) (.tmp 36) 55 55 rfl i0 (.agg #[.int .i64 0, .slice none 0 0, .int .i64 0, .int .u32 0]) 48 Try.underlying55 hi0 hz0 hz1 hz2 rfl (by decide) rfl (HG.out.later bl_13.out).el.rn (.slice (some ⟨v_1.heap.size, 0, none⟩) 1 1) 1 [.int .i64 (at_ : Int), .slice Ae eb.length ce, .int .i64 (off : Int), .int .u32 (mask : Int)] rfl (sb_14.out.src Try.underlying55 (by decide) (fun u hu => by simp at hu; rcases hu with rfl | rfl | rfl | rfl <;> rfl)) (by unfold maxLen; omega) (by omega) ?_
            intro A7 c7 w7 hrn hfb hor
            have hfN : Fr (fun b => b = X ∨ Bk Aj b ∨ wr.heap.size ≤ b) v_12 w7 := hfb.mono (fun b hb => .inr (.inl hb))
            have HRN := Lib.hid hrn
            have HFB := Lib.hid hfb
            have HOR := Lib.hid hor
            clear hrn hfb hor
            have hHeld := hHeld.trans hfN
            have hz_16 := hfN.size
            refine hK.out _ _ hHeld (fun _ => ?_)
            clear hK K hfN
            try simp only [Act.put, List.setIfInBounds_toArray, List.set_cons_zero, List.set_cons_succ]
            refine wpAnyH_take (i := 14) (oi := ⟨some 38, _, _, _, _, _⟩) (v := ?vg14_17) rfl (by kernel_rfl) (by kernel_rfl) (by kernel_rfl) (fun _ _ _ h => h) (Or.inl ⟨by rfl, ?yg14_17⟩) hHeld ?rg14_17
            case yg14_17 =>
              intro wq hSw
              (try dsimp only at hSw)
              first | (go_simp; done) | (go_simp; with_reducible rfl)
            try simp only [Act.put, List.setIfInBounds_toArray, List.set_cons_zero, List.set_cons_succ]
            refine wpAnyH_take (i := 15) (oi := ⟨some 39, _, _, _, _, _⟩) (v := ?vg15_18) rfl (by kernel_rfl) (by kernel_rfl) (by kernel_rfl) (fun _ _ _ h => h) (Or.inl ⟨by rfl, ?yg15_18⟩) hHeld ?rg15_18
            case yg15_18 =>
              intro wq hSw
              (try dsimp only at hSw)
              first | (go_simp; done) | (go_simp; with_reducible rfl)
            try simp only [Act.put, List.setIfInBounds_toArray, List.set_cons_zero, List.set_cons_succ]
            refine wpAnyH_ready (rs := [16]) (by kernel_rfl) (by simp) ?_
            refine AllReadyH.cons (o := ⟨none, _, _, _, _, _⟩) rfl (fun K hK => ?_) (AllReadyH.nil)
            obtain ⟨hF8, hbx8, hrn8, hor8, q1, u1⟩ := Rg.pushL HG.out HS.out bl_13.out HFB.out HRN.out HOR.out
            go_simp
            clear q1 u1
            have hfN : Fr (fun b => b = X ∨ Bk Aj b ∨ wr.heap.size ≤ b) w7 (w7.setCell ⟨X, 1, none⟩ (.slice A7 (lj.length + 1) c7)) := (Fr.refl (fun b => b = X ∨ Bk Aj b ∨ wr.heap.size ≤ b) _).setCell (p := ⟨X, 1, none⟩) (.inr (.inl rfl)) _
            obtain ⟨w8, hw⟩ : ∃ v, v = w7.setCell ⟨X, 1, none⟩ (.slice A7 (lj.length + 1) c7) := ⟨_, rfl⟩
            rw [← hw] at hfN hF8 hbx8 hrn8 ⊢
            clear hw
            have F8 := Lib.hid hF8
            have BX8 := Lib.hid hbx8
            have RN8 := Lib.hid hrn8
            have OR8 := Lib.hid hor8
            clear hF8 hbx8 hrn8 hor8
            have hHeld := hHeld.trans hfN
            have hz_19 := hfN.size
            refine hK.out _ _ hHeld (fun _ => ?_)
            clear hK K hfN
            try simp only [Act.put]
            refine wpAnyH_done (by kernel_rfl) ?_ _
            clear hHeld
            go_wp2_with fail
            go_roundw
            case rel => exact ⟨j + 1, Sn Sj wr w8, A7, c7, _, by omega, by omega, by go_num, HC.out.step HS0.out Hm.out Hkj.out Hjn.out F8.out BX8.out RN8.out OR8.out⟩
            case measure => simp [intOf]; omega
          · have hq := (HG.out.later BL0.out).c2
            go_simp
            refine hK.out _ _ hHeld (fun _ => ?_)
            clear hK K
            try simp only [Act.put, List.setIfInBounds_toArray, List.set_cons_zero, List.set_cons_succ]
            refine wpAnyH_take (i := 10) (oi := ⟨some 34, _, _, _, _, _⟩) (v := ?vg10_20) rfl (by kernel_rfl) (by kernel_rfl) (by kernel_rfl) (fun _ _ _ h => h) (Or.inl ⟨by rfl, ?yg10_20⟩) hHeld ?rg10_20
            case yg10_20 =>
              intro wq hSw
              (try dsimp only at hSw)
              first | (go_simp; done) | (go_simp; with_reducible rfl)
            try simp only [Act.put, List.setIfInBounds_toArray, List.set_cons_zero, List.set_cons_succ]
            refine wpAnyH_take (i := 11) (oi := ⟨some 35, _, _, _, _, _⟩) (v := (.agg #[.int .i64 (at_ : Int), .slice Ae eb.length ce, .int .i64 (off : Int), .int .u32 (mask : Int)])) rfl (by kernel_rfl) (by kernel_rfl) (by kernel_rfl) (fun _ _ _ h => h) (Or.inl ⟨by rfl, ?yg11_21⟩) hHeld ?rg11_21
            case yg11_21 =>
              intro wq hSw
              exact step_loadE9 (x := .tmp 34) (b := ga) (off := j * 4) rfl rfl (fun q v hv => hSw.cell_some (HRg.out q v hv) NGa.out)
            try simp only [Act.put, List.setIfInBounds_toArray, List.set_cons_zero, List.set_cons_succ]
            refine wpAnyH_ready (rs := [4, 12]) (by kernel_rfl) (by simp) ?_
            refine AllReadyH.cons (o := ⟨some 28, _, _, _, _, _⟩) rfl (fun K hK => ?_) (AllReadyH.cons (o := ⟨some 36, _, _, _, _, _⟩) rfl (fun K hK => ?_) (AllReadyH.nil))
            · have hq := (HG.out.later BL0.out).c1
              go_simp
              refine hK.out _ _ hHeld (fun _ => ?_)
              clear hK K
              try simp only [Act.put, List.setIfInBounds_toArray, List.set_cons_zero, List.set_cons_succ]
              refine wpAnyH_ready (rs := [12]) (by kernel_rfl) (by simp) ?_
              refine AllReadyH.cons (o := ⟨some 36, _, _, _, _, _⟩) rfl (fun K hK => ?_) (AllReadyH.nil)
              refine wp_buildSlice (o := ⟨some 36, _, _, _, _, _⟩) 55 83 1 #[(0, .tmp 35)] rfl #[.int .i64 (at_ : Int), .slice Ae eb.length ce, .int .i64 (off : Int), .int .u32 (mask : Int)] i0 (.agg #[.int .i64 0, .slice none 0 0, .int .i64 0, .int .u32 0]) Try.underlying55 hi0 hz0 (by rw [hz1]; decide) (by rw [hz1]; decide) (by rw [hz1]; exact fillE9a _ _ rfl) ?_
              have hsl := Sl.made v_1 #[.int .i64 (at_ : Int), .slice Ae eb.length ce, .int .i64 (off : Int), .int .u32 (mask : Int)] 83 4 1 rfl (by decide)
              have hb := (Below.refl v_1.heap.size v_1).alloc (Nat.le_refl _) (.cells #[.int .i64 (at_ : Int), .slice Ae eb.length ce, .int .i64 (off : Int), .int .u32 (mask : Int)] 83)
              obtain ⟨v_22, hw⟩ : ∃ v, v = v_1.alloc (.cells #[.int .i64 (at_ : Int), .slice Ae eb.length ce, .int .i64 (off : Int), .int .u32 (mask : Int)] 83) := ⟨_, rfl⟩
              rw [← hw] at hb hsl ⊢
              clear hw
              have hfN := Fr.of_below (S := fun b => b = X ∨ Bk Aj b ∨ wr.heap.size ≤ b) hb
              have bl_23 := Lib.hid (BL0.out.trans (hb.mono BL0.out.size))
              have sb_24 := Lib.hid hsl
              clear hsl hb
              have hHeld := hHeld.trans hfN
              have hz_25 := hfN.size
              refine hK.out _ _ hHeld (fun _ => ?_)
              clear hK K hfN
              try simp only [Act.put, List.setIfInBounds_toArray, List.set_cons_zero, List.set_cons_succ]
              refine wpAnyH_ready (rs := [13]) (by kernel_rfl) (by simp) ?_
              refine AllReadyH.cons (o := ⟨some 37, _, _, _, _, _⟩) rfl (fun K hK => ?_) (AllReadyH.nil)
              refine wp_append_rn (o := ⟨some 37, _, _, _, _, _⟩) (.tmp 28) (.tmp 36) 55 55 rfl i0 (.agg #[.int .i64 0, .slice none 0 0, .int .i64 0, .int .u32 0]) 48 Try.underlying55 hi0 hz0 hz1 hz2 rfl (by decide) rfl (HG.out.later bl_23.out).el.rn (.slice (some ⟨v_1.heap.size, 0, none⟩) 1 1) 1 [.int .i64 (at_ : Int), .slice Ae eb.length ce, .int .i64 (off : Int), .int .u32 (mask : Int)] rfl (sb_24.out.src Try.underlying55 (by decide) (fun u hu => by simp at hu; rcases hu with rfl | rfl | rfl | rfl <;> rfl)) (by unfold maxLen; omega) (by omega) ?_
              intro A7 c7 w7 hrn hfb hor
              have hfN : Fr (fun b => b = X ∨ Bk Aj b ∨ wr.heap.size ≤ b) v_22 w7 := hfb.mono (fun b hb => .inr (.inl hb))
              have HRN := Lib.hid hrn
              have HFB := Lib.hid hfb
              have HOR := Lib.hid hor
              clear hrn hfb hor
              have hHeld := hHeld.trans hfN
              have hz_26 := hfN.size
              refine hK.out _ _ hHeld (fun _ => ?_)
              clear hK K hfN
              try simp only [Act.put, List.setIfInBounds_toArray, List.set_cons_zero, List.set_cons_succ]
              refine wpAnyH_take (i := 14) (oi := ⟨some 38, _, _, _, _, _⟩) (v := ?vg14_27) rfl (by kernel_rfl) (by kernel_rfl) (by kernel_rfl) (fun _ _ _ h => h) (Or.inl ⟨by rfl, ?yg14_27⟩) hHeld ?rg14_27
              case yg14_27 =>
                intro wq hSw
                (try dsimp only at hSw)
                first | (go_simp; done) | (go_simp; with_reducible rfl)
              try simp only [Act.put, List.setIfInBounds_toArray, List.set_cons_zero, List.set_cons_succ]
              refine wpAnyH_take (i := 15) (oi := ⟨some 39, _, _, _, _, _⟩) (v := ?vg15_28) rfl (by kernel_rfl) (by kernel_rfl) (by kernel_rfl) (fun _ _ _ h => h) (Or.inl ⟨by rfl, ?yg15_28⟩) hHeld ?rg15_28
              case yg15_28 =>
                intro wq hSw
                (try dsimp only at hSw)
                first | (go_simp; done) | (go_simp; with_reducible rfl)
              try simp only [Act.put, List.setIfInBounds_toArray, List.set_cons_zero, List.set_cons_succ]
              refine wpAnyH_ready (rs := [16]) (by kernel_rfl) (by simp) ?_
              refine AllReadyH.cons (o := ⟨none, _, _, _, _, _⟩) rfl (fun K hK => ?_) (AllReadyH.nil)
              obtain ⟨hF8, hbx8, hrn8, hor8, q1, u1⟩ := Rg.pushL HG.out HS.out bl_23.out HFB.out HRN.out HOR.out
              go_simp
              clear q1 u1
              have hfN : Fr (fun b => b = X ∨ Bk Aj b ∨ wr.heap.size ≤ b) w7 (w7.setCell ⟨X, 1, none⟩ (.slice A7 (lj.length + 1) c7)) := (Fr.refl (fun b => b = X ∨ Bk Aj b ∨ wr.heap.size ≤ b) _).setCell (p := ⟨X, 1, none⟩) (.inr (.inl rfl)) _
              obtain ⟨w8, hw⟩ : ∃ v, v = w7.setCell ⟨X, 1, none⟩ (.slice A7 (lj.length + 1) c7) := ⟨_, rfl⟩
              rw [← hw] at hfN hF8 hbx8 hrn8 ⊢
              clear hw
              have F8 := Lib.hid hF8
              have BX8 := Lib.hid hbx8
              have RN8 := Lib.hid hrn8
              have OR8 := Lib.hid hor8
              clear hF8 hbx8 hrn8 hor8
              have hHeld := hHeld.trans hfN
              have hz_29 := hfN.size
              refine hK.out _ _ hHeld (fun _ => ?_)
              clear hK K hfN
              try simp only [Act.put]
              refine wpAnyH_done (by kernel_rfl) ?_ _
              clear hHeld
              go_wp2_with fail
              go_roundw
              case rel => exact ⟨j + 1, Sn Sj wr w8, A7, c7, _, by omega, by omega, by go_num, HC.out.step HS0.out Hm.out Hkj.out Hjn.out F8.out BX8.out RN8.out OR8.out⟩
              case measure => simp [intOf]; omega
            · refine wp_buildSlice (o := ⟨some 36, _, _, _, _, _⟩) 55 83 1 #[(0, .tmp 35)] rfl #[.int .i64 (at_ : Int), .slice Ae eb.length ce, .int .i64 (off : Int), .int .u32 (mask : Int)] i0 (.agg #[.int .i64 0, .slice none 0 0, .int .i64 0, .int .u32 0]) Try.underlying55 hi0 hz0 (by rw [hz1]; decide) (by rw [hz1]; decide) (by rw [hz1]; exact fillE9a _ _ rfl) ?_
              have hsl := Sl.made v_1 #[.int .i64 (at_ : Int), .slice Ae eb.length ce, .int .i64 (off : Int), .int .u32 (mask : Int)] 83 4 1 rfl (by decide)
              have hb := (Below.refl v_1.heap.size v_1).alloc (Nat.le_refl _) (.cells #[.int .i64 (at_ : Int), .slice Ae eb.length ce, .int .i64 (off : Int), .int .u32 (mask : Int)] 83)
              obtain ⟨v_30, hw⟩ : ∃ v, v = v_1.alloc (.cells #[.int .i64 (at_ : Int), .slice Ae eb.length ce, .int .i64 (off : Int), .int .u32 (mask : Int)] 83) := ⟨_, rfl⟩
              rw [← hw] at hb hsl ⊢
              clear hw
              have hfN := Fr.of_below (S := fun b => b = X ∨ Bk Aj b ∨ wr.heap.size ≤ b) hb
              have bl_31 := Lib.hid (BL0.out.trans (hb.mono BL0.out.size))
              have sb_32 := Lib.hid hsl
              clear hsl hb
              have hHeld := hHeld.trans hfN
              have hz_33 := hfN.size
              refine hK.out _ _ hHeld (fun _ => ?_)
              clear hK K hfN
              try simp only [Act.put, List.setIfInBounds_toArray, List.set_cons_zero, List.set_cons_succ]
              refine wpAnyH_ready (rs := [4]) (by kernel_rfl) (by simp) ?_
              refine AllReadyH.cons (o := ⟨some 28, _, _, _, _, _⟩) rfl (fun K hK => ?_) (AllReadyH.nil)
              have hq := (HG.out.later bl_31.out).c1
              go_simp
              refine hK.out _ _ hHeld (fun _ => ?_)
              clear hK K
              try simp only [Act.put, List.setIfInBounds_toArray, List.set_cons_zero, List.set_cons_succ]
              refine wpAnyH_ready (rs := [13]) (by kernel_rfl) (by simp) ?_
              refine AllReadyH.cons (o := ⟨some 37, _, _, _, _, _⟩) rfl (fun K hK => ?_) (AllReadyH.nil)
              refine wp_append_rn (o := ⟨some 37, _, _, _, _, _⟩) (.tmp 28) (.tmp 36) 55 55 rfl i0 (.agg #[.int .i64 0, .slice none 0 0, .int .i64 0, .int .u32 0]) 48 Try.underlying55 hi0 hz0 hz1 hz2 rfl (by decide) rfl (HG.out.later bl_31.out).el.rn (.slice (some ⟨v_1.heap.size, 0, none⟩) 1 1) 1 [.int .i64 (at_ : Int), .slice Ae eb.length ce, .int .i64 (off : Int), .int .u32 (mask : Int)] rfl (sb_32.out.src Try.underlying55 (by decide) (fun u hu => by simp at hu; rcases hu with rfl | rfl | rfl | rfl <;> rfl)) (by unfold maxLen; omega) (by omega) ?_
              intro A7 c7 w7 hrn hfb hor
              have hfN : Fr (fun b => b = X ∨ Bk Aj b ∨ wr.heap.size ≤ b) v_30 w7 := hfb.mono (fun b hb => .inr (.inl hb))
              have HRN := Lib.hid hrn
              have HFB := Lib.hid hfb
              have HOR := Lib.hid hor
              clear hrn hfb hor
              have hHeld := hHeld.trans hfN
              have hz_34 := hfN.size
              refine hK.out _ _ hHeld (fun _ => ?_)
              clear hK K hfN
              try simp only [Act.put, List.setIfInBounds_toArray, List.set_cons_zero, List.set_cons_succ]
              refine wpAnyH_take (i := 14) (oi := ⟨some 38, _, _, _, _, _⟩) (v := ?vg14_35) rfl (by kernel_rfl) (by kernel_rfl) (by kernel_rfl) (fun _ _ _ h => h) (Or.inl ⟨by rfl, ?yg14_35⟩) hHeld ?rg14_35
              case yg14_35 =>
                intro wq hSw
                (try dsimp only at hSw)
                first | (go_simp; done) | (go_simp; with_reducible rfl)
              try simp only [Act.put, List.setIfInBounds_toArray, List.set_cons_zero, List.set_cons_succ]
              refine wpAnyH_take (i := 15) (oi := ⟨some 39, _, _, _, _, _⟩) (v := ?vg15_36) rfl (by kernel_rfl) (by kernel_rfl) (by kernel_rfl) (fun _ _ _ h => h) (Or.inl ⟨by rfl, ?yg15_36⟩) hHeld ?rg15_36
              case yg15_36 =>
                intro wq hSw
                (try dsimp only at hSw)
                first | (go_simp; done) | (go_simp; with_reducible rfl)
              try simp only [Act.put, List.setIfInBounds_toArray, List.set_cons_zero, List.set_cons_succ]
              refine wpAnyH_ready (rs := [16]) (by kernel_rfl) (by simp) ?_
              refine AllReadyH.cons (o := ⟨none, _, _, _, _, _⟩) rfl (fun K hK => ?_) (AllReadyH.nil)
              obtain ⟨hF8, hbx8, hrn8, hor8, q1, u1⟩ := Rg.pushL HG.out HS.out bl_31.out HFB.out HRN.out HOR.out
              go_simp
              clear q1 u1
              have hfN : Fr (fun b => b = X ∨ Bk Aj b ∨ wr.heap.size ≤ b) w7 (w7.setCell ⟨X, 1, none⟩ (.slice A7 (lj.length + 1) c7)) := (Fr.refl (fun b => b = X ∨ Bk Aj b ∨ wr.heap.size ≤ b) _).setCell (p := ⟨X, 1, none⟩) (.inr (.inl rfl)) _
              obtain ⟨w8, hw⟩ : ∃ v, v = w7.setCell ⟨X, 1, none⟩ (.slice A7 (lj.length + 1) c7) := ⟨_, rfl⟩
              rw [← hw] at hfN hF8 hbx8 hrn8 ⊢
              clear hw
              have F8 := Lib.hid hF8
              have BX8 := Lib.hid hbx8
              have RN8 := Lib.hid hrn8
              have OR8 := Lib.hid hor8
              clear hF8 hbx8 hrn8 hor8
              have hHeld := hHeld.trans hfN
              have hz_37 := hfN.size
              refine hK.out _ _ hHeld (fun _ => ?_)
              clear hK K hfN
              try simp only [Act.put]
              refine wpAnyH_done (by kernel_rfl) ?_ _
              clear hHeld
              go_wp2_with fail
              go_roundw
              case rel => exact ⟨j + 1, Sn Sj wr w8, A7, c7, _, by omega, by omega, by go_num, HC.out.step HS0.out Hm.out Hkj.out Hjn.out F8.out BX8.out RN8.out OR8.out⟩
              case measure => simp [intOf]; omega
      · have hki : ¬ (j : Int) < (nk : Int) := by omega
        have hx : x.crash ks = (x.puts (Dv.kept (x.wait.take j) ks)).quiet := by
          rw [kept_stop x.wait ks j (by have := HK.out; omega)]; rfl
        have Hx := Lib.hid hx
        have kf := HG.out.free 2
        clear hx
        go_wp2_with fail
        go_end0
        obtain ⟨q1, q2⟩ := HG.out.calm (k' := k) HS.out (by omega)
        rw [Hx.out]
        exact ⟨rfl, Sj, q1, HC.out.fr.into (q2.mono fun b hb => by rw [hb]; exact HG.out.own) HC.out.sub, HC.out.sub⟩
    · have hji : ¬ (j : Int) < (nw : Int) := by omega
      have hx : x.crash ks = (x.puts (Dv.kept (x.wait.take j) ks)).quiet := by
        rw [List.take_of_length_le (by have := HW.out; omega)]; rfl
      have Hx := Lib.hid hx
      have kf := HG.out.free 2
      clear hx
      go_wp2_with fail
      go_end0
      obtain ⟨q1, q2⟩ := HG.out.calm (k' := k) HS.out (by omega)
      rw [Hx.out]
      exact ⟨rfl, Sj, q1, HC.out.fr.into (q2.mono fun b hb => by rw [hb]; exact HG.out.own) HC.out.sub, HC.out.sub⟩
end
end Go.Proofs.Ytmlmlmlbdjhfhaa
