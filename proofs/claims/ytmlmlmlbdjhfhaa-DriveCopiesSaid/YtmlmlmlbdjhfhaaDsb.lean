/-
  Where the document's drive lies in memory (layer 9): its box, its events, what waits ('Rg', 'Rf'); contracts of its New, has, Fail, Replace and Rotten. No condition but bounds.
-/
import Derived.Test.YtmlmlmlbdjhfhaaDsa
import Derived.Test.YtmlmlmlbdjhfhaaApf
namespace Go.Proofs.Ytmlmlmlbdjhfhaa
open Go.RowKit Go.Proofs
set_option linter.unusedVariables false

/-- An event in memory. -/
structure Em where
  ev : Ev
  A : Option Addr
  c : Nat
def emc (m : Em) : List Value := [.int .i64 (m.ev.at_ : Int), .slice m.A m.ev.b.length m.c, .int .i64 (m.ev.off : Int), .int .u32 (m.ev.mask : Int)]
theorem emc_len (m : Em) : (emc m).length = 4 := rfl
theorem emc_one (m : Em) : ∀ v ∈ emc m, v.oneCell' = true := by
  intro v hv
  simp only [emc, List.mem_cons, List.not_mem_nil, or_false] at hv
  rcases hv with rfl | rfl | rfl | rfl <;> rfl
theorem Rn.ne {w : World} {A A' : Option Addr} {T T' : TypeId} {k k' n n' c c' : Nat} {xs ys : List Value} (h : Rn w A T k n c xs) (h' : Rn w A' T' k' n' c' ys) (hT : T ≠ T') {b : Nat} (hb : Bk A b) : ¬ Bk A' b := by
  intro hb'
  obtain ⟨o, ho⟩ := hb
  obtain ⟨o', ho'⟩ := hb'
  rcases h with ⟨_, hA, _⟩ | ⟨g, hA, hr⟩
  · rw [hA] at ho; cases ho
  · rcases h' with ⟨_, hA', _⟩ | ⟨g', hA', hr'⟩
    · rw [hA'] at ho'; cases ho'
    · rw [hA] at ho
      rw [hA'] at ho'
      injection ho with ho
      injection ho with ho _
      injection ho' with ho'
      injection ho' with ho' _
      obtain ⟨cur, h1, _⟩ := hr.ex
      obtain ⟨cur', h2, _⟩ := hr'.ex
      rw [ho] at h1
      rw [ho', h1] at h2
      injection h2 with h2
      injection h2 with _ h2
      exact hT h2
/-- Events in memory; S: blocks of the drive's own. -/
structure Evs (w : World) (S : Nat → Prop) (A : Option Addr) (c : Nat) (ms : List Em) : Prop where
  rn : Rn w A 83 4 ms.length c (ms.flatMap emc)
  own : ∀ b, Bk A b → S b
  b : ∀ m ∈ ms, Rn w m.A 5 1 m.ev.b.length m.c (cells m.ev.b) ∧ ∀ b, Bk m.A b → S b
section
variable {w w' : World} {S S' T : Nat → Prop} {A : Option Addr} {c : Nat} {ms : List Em}
theorem Evs.fr (h : Evs w S A c ms) (hf : Fr T w w') (hT : ∀ b, S b → ¬ T b) : Evs w' S A c ms :=
  ⟨h.rn.fr hf (fun b hb => hT b (h.own b hb)), h.own, fun m hm => ⟨(h.b m hm).1.fr hf (fun b hb => hT b ((h.b m hm).2 b hb)), (h.b m hm).2⟩⟩
theorem Evs.wid (h : Evs w S A c ms) (hS : ∀ b, S b → S' b) : Evs w S' A c ms := ⟨h.rn, fun b hb => hS b (h.own b hb), fun m hm => ⟨(h.b m hm).1, fun b hb => hS b ((h.b m hm).2 b hb)⟩⟩
theorem Evs.nil (w : World) (S : Nat → Prop) : Evs w S none 0 [] := ⟨.inl ⟨rfl, rfl, rfl, rfl⟩, (fun b hb => by obtain ⟨o, hb⟩ := hb; cases hb), (fun m hm => by cases hm)⟩
/-- Other blocks have turned: of those of events' type at most those of another slice. -/
theorem Evs.frB (h : Evs w S A c ms) {A' : Option Addr} {c' n' : Nat} {xs : List Value} (h' : Rn w A' 83 4 n' c' xs) (hf : Fr (Bk A') w w') (hA : ∀ b, Bk A b → ¬ Bk A' b) : Evs w' S A c ms :=
  ⟨h.rn.fr hf hA, h.own, fun m hm => ⟨(h.b m hm).1.fr hf (fun b hb => (h.b m hm).1.ne h' (by decide) hb), (h.b m hm).2⟩⟩
/-- The bytes of events, behind an append onto their own slice. -/
theorem Evs.bytes (h : Evs w S A c ms) (hf : Fr (Bk A) w w') : ∀ m ∈ ms, Rn w' m.A 5 1 m.ev.b.length m.c (cells m.ev.b) ∧ ∀ b, Bk m.A b → S b := fun m hm =>
  ⟨(h.b m hm).1.fr hf (fun b hb => (h.b m hm).1.ne h.rn (by decide) hb), (h.b m hm).2⟩
end

/-- Where the document's drive lies. -/
structure Rg (w : World) (S : Nat → Prop) (X k : Nat) (x : Dv) (AL : Option Addr) (cL : Nat) (ls : List Em) (AW : Option Addr) (cW : Nat) (ws : List Em) : Prop where
  box : w.heap[X]? = some (.cells #[.int .i64 (x.n : Int), .slice AL ls.length cL, .slice AW ws.length cW, .bool x.gone] 57 (0, 0))
  el : Evs w S AL cL ls
  ew : Evs w S AW cW ws
  apart : ∀ b, Bk AL b → ¬ Bk AW b
  rel : Rel x x.n (ls.map Em.ev) (ws.map Em.ev) x.gone
  len : ls.length + ws.length ≤ k
  own : S X
  n2 : x.n ≤ 600
/-- A document's drive that reads as x, with at most k events; S: its own blocks. -/
def Rf (w : World) (S : Nat → Prop) (X k : Nat) (x : Dv) : Prop := (∀ b, S b → b < w.heap.size) ∧ ∃ AL cL ls AW cW ws, Rg w S X k x AL cL ls AW cW ws
def MutR (S : Nat → Prop) (X k : Nat) (y : Dv) (w w' : World) : Prop := ∃ S', Rf w' S' X k y ∧ Fr S w w' ∧ ∀ b, S' b → S b ∨ w.heap.size ≤ b
section
variable {w w' : World} {S T : Nat → Prop} {X k : Nat} {x y : Dv} {AL AW : Option Addr} {cL cW : Nat} {ls ws : List Em}
theorem Rg.fr (h : Rg w S X k x AL cL ls AW cW ws) (hf : Fr T w w') (hT : ∀ b, S b → ¬ T b) : Rg w' S X k x AL cL ls AW cW ws :=
  ⟨hf.row_some h.box (hT X h.own), h.el.fr hf hT, h.ew.fr hf hT, h.apart, h.rel, h.len, h.own, h.n2⟩
theorem Rf.fr (h : Rf w S X k x) (hf : Fr T w w') (hT : ∀ b, S b → ¬ T b) : Rf w' S X k x := by
  obtain ⟨hS, AL, cL, ls, AW, cW, ws, hg⟩ := h
  exact ⟨fun b hb => Nat.lt_of_lt_of_le (hS b hb) hf.size, AL, cL, ls, AW, cW, ws, hg.fr hf hT⟩
theorem Rg.later (h : Rg w S X k x AL cL ls AW cW ws) (hb : Below w.heap.size w w') : Rg w' S X k x AL cL ls AW cW ws := h.fr (Fr.of_below hb : Fr (fun _ => False) _ _) (fun _ _ h => h)
theorem Rf.mono (h : Rf w S X k x) {k' : Nat} (hk : k ≤ k') : Rf w S X k' x := by
  obtain ⟨hS, AL, cL, ls, AW, cW, ws, hg⟩ := h
  exact ⟨hS, AL, cL, ls, AW, cW, ws, hg.box, hg.el, hg.ew, hg.apart, hg.rel, Nat.le_trans hg.len hk, hg.own, hg.n2⟩
theorem Rg.c0 (h : Rg w S X k x AL cL ls AW cW ws) : w.cell? ⟨X, 0, none⟩ = some (.int .i64 (x.n : Int)) := by rw [cell_of_row _ _ _ _ _ _ h.box]; rfl
theorem Rg.c1 (h : Rg w S X k x AL cL ls AW cW ws) : w.cell? ⟨X, 1, none⟩ = some (.slice AL ls.length cL) := by rw [cell_of_row _ _ _ _ _ _ h.box]; rfl
theorem Rg.c2 (h : Rg w S X k x AL cL ls AW cW ws) : w.cell? ⟨X, 2, none⟩ = some (.slice AW ws.length cW) := by rw [cell_of_row _ _ _ _ _ _ h.box]; rfl
theorem Rg.c3 (h : Rg w S X k x AL cL ls AW cW ws) : w.cell? ⟨X, 3, none⟩ = some (.bool x.gone) := by rw [cell_of_row _ _ _ _ _ _ h.box]; rfl
theorem Rg.free (h : Rg w S X k x AL cL ls AW cW ws) (j : Nat) : w.frozen? ⟨X, j, none⟩ = false := frozen_of_row _ _ _ _ _ h.box
/-- The box is no events' block, and no bytes' block. -/
theorem Rn.neX {A : Option Addr} {T : TypeId} {q n c : Nat} {xs : List Value} {cs : Array Value} (h : Rn w A T q n c xs) (hb : w.heap[X]? = some (.cells cs 57 (0, 0))) (hT : T ≠ 57) : ¬ Bk A X := by
  intro ⟨o, ho⟩
  rcases h with ⟨_, hA, _⟩ | ⟨g, hA, hr⟩
  · rw [hA] at ho; cases ho
  · rw [hA] at ho
    injection ho with ho
    injection ho with ho _
    obtain ⟨cur, h1, _⟩ := hr.ex
    rw [ho, hb] at h1
    injection h1 with h1
    injection h1 with _ h1
    exact hT h1.symm
/-- A cell of an event. -/
theorem Evs.cell {A : Option Addr} {c i : Nat} {ms : List Em} {m : Em} (h : Evs w S A c ms) (hm : ms[i]? = some m) : ∃ g, A = some ⟨g, 0, none⟩ ∧ w.cell? ⟨g, i * 4, none⟩ = some (.int .i64 (m.ev.at_ : Int)) ∧ w.cell? ⟨g, i * 4 + 1, none⟩ = some (.slice m.A m.ev.b.length m.c) ∧ w.cell? ⟨g, i * 4 + 2, none⟩ = some (.int .i64 (m.ev.off : Int)) ∧ w.cell? ⟨g, i * 4 + 3, none⟩ = some (.int .u32 (m.ev.mask : Int)) ∧ w.rangeAt g (i * 4) (emc m) := by
  have hi := (List.getElem?_eq_some_iff.1 hm).1
  rcases h.rn with ⟨h0, _⟩ | ⟨g, hA, hr⟩
  · omega
  · have hx : ∀ j, j < 4 → (ms.flatMap emc)[i * 4 + j]? = (emc m)[j]? := fun j hj => flat_get emc_len hm j hj
    exact ⟨g, hA, hr.cell (hx 0 (by decide)), hr.cell (hx 1 (by decide)), hr.cell (hx 2 (by decide)), hr.cell (hx 3 (by decide)), hr.range (fun j hj => hx j hj)⟩

set_option maxRecDepth 20000
set_option maxHeartbeats 800000
/-- What the document's New answers. -/
def RetNewR (n : Nat) (w : World) (e : Ending) (w' : World) : Prop := ∃ X S, e = .returned (.pointer (some ⟨X, 0, none⟩)) ∧ Rf w' S X 0 (Dv.new n) ∧ Below w.heap.size w w' ∧ ∀ b, S b → w.heap.size ≤ b
theorem rfnew_yes (n : Nat) (w : World) (h1 : 1 ≤ n) (h2 : n ≤ 600) : Calls Try.prog 21 #[.int .i64 (n : Int)] w (RetNewR n w) := by
  have q1 : ¬ (n : Int) < 1 := by omega
  have q2 : ¬ (600 : Int) < (n : Int) := by omega
  go_enter Try.func21, Try.ntmps21
  go_wp2_with fail
  go_ret
  refine ⟨w.heap.size, fun b => b = w.heap.size, rfl, ⟨fun b hb => by rw [hb]; simp, none, 0, [], none, 0, [], ?_, Evs.nil _ _, Evs.nil _ _, (fun b hb => by obtain ⟨o, hb⟩ := hb; cases hb), ?_, Nat.le_refl _, rfl, by rw [Dv.new_n]; exact h2⟩, (Below.refl _ _).alloc (Nat.le_refl _) _, fun b hb => by rw [hb]; exact Nat.le_refl _⟩
  · rw [Dv.new_n]
    exact heap_alloc_new w _
  · rw [Dv.new_n]
    exact Rel.new n
theorem rfhas_any (z : Int) (h1 : -9223372036854775808 ≤ z) (h2 : z < 9223372036854775808) (h : Rg w S X k x AL cL ls AW cW ws) : Calls Try.prog 45 #[.pointer (some ⟨X, 0, none⟩), .int .i64 z] w fun e w' => e = .returned (.bool (decide (x.has z))) ∧ w' = w := by
  have c0 := h.c0
  by_cases q1 : z < 0
  · rw [decide_eq_false (fun hh => by unfold Dv.has at hh; omega)]
    go_enter Try.func45, Try.ntmps45
    go_wp2_with fail
    go_ret
    exact ⟨rfl, rfl⟩
  · have q0 : 0 ≤ z := by omega
    by_cases q2 : z < (x.n : Int)
    · rw [decide_eq_true (by unfold Dv.has; omega)]
      obtain ⟨n, hxn⟩ : ∃ n, n = x.n := ⟨_, rfl⟩
      rw [← hxn] at c0 q2
      clear hxn q1
      go_enter Try.func45, Try.ntmps45
      go_wp2_with fail
      go_ret
      exact ⟨rfl, rfl⟩
    · rw [decide_eq_false (fun hh => by unfold Dv.has at hh; omega)]
      obtain ⟨n, hxn⟩ : ∃ n, n = x.n := ⟨_, rfl⟩
      rw [← hxn] at c0 q2
      clear hxn q1
      go_enter Try.func45, Try.ntmps45
      go_wp2_with fail
      go_ret
      exact ⟨rfl, rfl⟩
/-- Fail and Replace: what was there is gone. -/
theorem Rg.anew {w' : World} (h : Rg w S X k x AL cL ls AW cW ws) (hS : ∀ b, S b → b < w.heap.size) (hb : w'.heap[X]? = some (.cells #[.int .i64 (y.n : Int), .slice none 0 0, .slice none 0 0, .bool y.gone] 57 (0, 0))) (hf : Fr (fun b => b = X) w w') (hr : Rel y y.n [] [] y.gone) (hn : y.n = x.n) : MutR S X k y w w' :=
  ⟨S, ⟨fun b hb => Nat.lt_of_lt_of_le (hS b hb) hf.size, none, 0, [], none, 0, [], hb, Evs.nil _ _, Evs.nil _ _, (fun b hb => by obtain ⟨o, hb⟩ := hb; cases hb), hr, Nat.zero_le _, h.own, by rw [hn]; exact h.n2⟩, hf.mono fun b hb => by rw [hb]; exact h.own, fun b hb => .inl hb⟩
theorem rffail_any (h : Rf w S X k x) : Calls Try.prog 35 #[.pointer (some ⟨X, 0, none⟩)] w fun e w' => e = .returned (.tuple #[]) ∧ MutR S X k x.fail w w' := by
  obtain ⟨hS, AL, cL, ls, AW, cW, ws, hg⟩ := h
  have c1 := hg.c1
  have c2 := hg.c2
  have c3 := hg.c3
  have f1 := hg.free 1
  have f2 := hg.free 2
  have f3 := hg.free 3
  have HG := Lib.hid hg
  have HS := Lib.hid hS
  clear hg hS
  go_enter Try.func35, Try.ntmps35
  go_wp2_with fail
  go_end0
  have hn : x.fail.n = x.n := by simp [Dv.fail, Dv.n]
  refine ⟨rfl, HG.out.anew HS.out ?_ ((((Fr.refl (fun b => b = X) _).setCell (p := ⟨X, 3, none⟩) (.inr rfl) _).setCell (p := ⟨X, 1, none⟩) (.inr rfl) _).setCell (p := ⟨X, 2, none⟩) (.inr rfl) _) (by rw [hn]; exact HG.out.rel.fail) hn⟩
  rw [hn]
  exact heap_setCell_same _ X 2 _ _ _ (heap_setCell_same _ X 1 _ _ _ (heap_setCell_same w X 3 _ _ _ HG.out.box))
theorem rfreplace_any (h : Rf w S X k x) : Calls Try.prog 36 #[.pointer (some ⟨X, 0, none⟩)] w fun e w' => e = .returned (.tuple #[]) ∧ MutR S X k x.replace w w' := by
  obtain ⟨hS, AL, cL, ls, AW, cW, ws, hg⟩ := h
  have c1 := hg.c1
  have c2 := hg.c2
  have c3 := hg.c3
  have f1 := hg.free 1
  have f2 := hg.free 2
  have f3 := hg.free 3
  have HG := Lib.hid hg
  have HS := Lib.hid hS
  clear hg hS
  go_enter Try.func36, Try.ntmps36
  go_wp2_with fail
  go_end0
  have hn : x.replace.n = x.n := Dv.new_n _
  refine ⟨rfl, HG.out.anew HS.out ?_ ((((Fr.refl (fun b => b = X) _).setCell (p := ⟨X, 3, none⟩) (.inr rfl) _).setCell (p := ⟨X, 1, none⟩) (.inr rfl) _).setCell (p := ⟨X, 2, none⟩) (.inr rfl) _) (by rw [hn]; exact HG.out.rel.replace) hn⟩
  rw [hn]
  exact heap_setCell_same _ X 2 _ _ _ (heap_setCell_same _ X 1 _ _ _ (heap_setCell_same w X 3 _ _ _ HG.out.box))
end
end Go.Proofs.Ytmlmlmlbdjhfhaa
