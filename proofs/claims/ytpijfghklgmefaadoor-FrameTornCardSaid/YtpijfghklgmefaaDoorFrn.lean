/-
  Contracts of the functions that GetRecord hands in, of the functions that make takers, and of a reading's end; what GetRecord answers as plain data. Conditions: bounds.
-/
import Derived.Test.YtpijfghklgmefaaDoorFrm
namespace Go.Proofs.YtpijfghklgmefaaDoor
open Go.RowKit Go.Proofs
set_option linter.unusedVariables false
set_option maxRecDepth 20000
set_option maxHeartbeats 1600000

theorem any64_any (x : Int) (w : World) : Calls Tryd.prog 30 #[.int .u64 x] w fun e w' => e = .returned (.bool true) ∧ w' = w := by
  go_enter Tryd.func30, Tryd.ntmps30
  go_wp2_with fail
  go_ret
  exact ⟨rfl, rfl⟩
theorem rec1_any (x : Nat) (w : World) : Calls Tryd.prog 31 #[.int .u64 (x : Int)] w fun e w' => e = .returned (.bool (decide (x ≤ 16))) ∧ w' = w := by
  by_cases h : x ≤ 16
  · have hi : (x : Int) ≤ 16 := by omega
    rw [decide_eq_true h]
    clear h
    go_enter Tryd.func31, Tryd.ntmps31
    go_wp2_with fail
    go_ret
    exact ⟨rfl, rfl⟩
  · have hi : ¬ (x : Int) ≤ 16 := by omega
    rw [decide_eq_false h]
    clear h
    go_enter Tryd.func31, Tryd.ntmps31
    go_wp2_with fail
    go_ret
    exact ⟨rfl, rfl⟩
theorem rec3_any (x : Nat) (w : World) : Calls Tryd.prog 36 #[.int .u64 (x : Int)] w fun e w' => e = .returned (.bool (decide (x ≤ 1))) ∧ w' = w := by
  by_cases h : x ≤ 1
  · have hi : (x : Int) ≤ 1 := by omega
    rw [decide_eq_true h]
    clear h
    go_enter Tryd.func36, Tryd.ntmps36
    go_wp2_with fail
    go_ret
    exact ⟨rfl, rfl⟩
  · have hi : ¬ (x : Int) ≤ 1 := by omega
    rw [decide_eq_false h]
    clear h
    go_enter Tryd.func36, Tryd.ntmps36
    go_wp2_with fail
    go_ret
    exact ⟨rfl, rfl⟩
theorem rec2_any (k a : ByteArray) (B : Nat) (w : World) (h : Cel w B (.string a)) : Calls Tryd.prog 34 #[.string k, .pointer (some ⟨B, 0, none⟩)] w fun e w' => e = .returned (.bool (gtK k a)) ∧ w' = w := by
  have hc := h.cell
  obtain ⟨y, hy⟩ : ∃ y, y = (Op.bytesLess k.toList a.toList || k.toList == a.toList) := ⟨_, rfl⟩
  have hg : gtK k a = !y := by rw [hy]; rfl
  have hy2 := hy.symm
  rw [hg]
  clear h hy hg
  cases y
  all_goals
    go_enter Tryd.func34, Tryd.ntmps34
    go_wp2_with fail
    go_ret
    exact ⟨rfl, rfl⟩
/-- What getKey and getFate answer. -/
def gKey (l : List UInt8) (a : Nat) : ByteArray × Nat × Nat := (bstr (longR l a 16).1, (longR l a 16).2.1, (longR l a 16).2.2)
def gFate (l : List UInt8) (a : Nat) : Nat × Nat × Nat := ((getN16 l a 1).1, a + 1, (getN16 l a 1).2)
theorem getKey_any (A : Option Addr) (n c : Nat) (l : List UInt8) (a : Nat) (w : World) (h : Sl w 1 A n c (cells l)) :
    Calls Tryd.prog 33 #[.slice A n c, .int .i64 (a : Int)] w fun e w' => e = .returned (.tuple #[.string (gKey l a).1, .int .i64 ((gKey l a).2.1 : Int), .int .i64 ((gKey l a).2.2 : Int)]) ∧ w' = w := by
  have ht := text_any A n c l (a : Int) 16 w h (by decide) (by decide)
  unfold gKey
  obtain ⟨x, hx⟩ : ∃ x, x = longR l (a : Int) 16 := ⟨_, rfl⟩
  rw [← hx] at ht ⊢
  clear h hx
  go_enter Tryd.func33, Tryd.ntmps33
  go_wp2_with fail
  refine ht.mono ?_; clear ht; rintro e w' ⟨rfl, hw⟩
  obtain rfl : w = w' := hw
  go_wp2_with fail
  go_ret3
  exact ⟨rfl, rfl⟩
theorem getFate_any (A : Option Addr) (n c : Nat) (l : List UInt8) (a : Nat) (ha : a ≤ 1000000000000) (w : World) (h : Sl w 1 A n c (cells l)) :
    Calls Tryd.prog 35 #[.slice A n c, .int .i64 (a : Int)] w fun e w' => e = .returned (.tuple #[.int .u64 ((gFate l a).1 : Int), .int .i64 ((gFate l a).2.1 : Int), .int .i64 ((gFate l a).2.2 : Int)]) ∧ w' = w := by
  have ht := get_any16 A n c l (a : Int) 1 w h
  unfold gFate
  obtain ⟨x, hx⟩ : ∃ x, x = getN16 l (a : Int) 1 := ⟨_, rfl⟩
  rw [← hx] at ht ⊢
  clear h hx
  go_enter Tryd.func35, Tryd.ntmps35
  go_wp2_with fail
  refine ht.mono ?_; clear ht; rintro e w' ⟨rfl, hw⟩
  obtain rfl : w = w' := hw
  go_wp2_with fail
  go_ret3
  exact ⟨rfl, rfl⟩
/-- What a function that makes a taker answers. -/
def RetTk17 (f : Nat) (R : Nat) (G P : Value) (w : World) (e : Ending) (w' : World) : Prop :=
  ∃ t g p, e = .returned (.func (.func f) #[] #[.pointer (some ⟨t, 0, none⟩), .pointer (some ⟨g, 0, none⟩), .pointer (some ⟨p, 0, none⟩)]) ∧ Tk3 w' t g p R G P ∧ Below w.heap.size w w' ∧ w.heap.size ≤ t ∧ w.heap.size ≤ g ∧ w.heap.size ≤ p
theorem tk3_new (w : World) (R : Nat) (G P : Value) (t1 t2 t3 : TypeId) (hR : R < w.heap.size) : Tk3 (((w.alloc (.cells #[.pointer (some ⟨R, 0, none⟩)] t1)).alloc (.cells #[G] t2)).alloc (.cells #[P] t3)) w.heap.size (w.heap.size + 1) (w.heap.size + 1 + 1) R G P := by
  have x0 := Cel.new w (.pointer (some ⟨R, 0, none⟩)) t1
  obtain ⟨w1, hw1⟩ : ∃ x, x = w.alloc (.cells #[.pointer (some ⟨R, 0, none⟩)] t1) := ⟨_, rfl⟩
  have z1 : w1.heap.size = w.heap.size + 1 := by rw [hw1]; simp
  rw [← hw1] at x0 ⊢
  have x1 := Cel.new w1 G t2
  have b1 : Below w1.heap.size w1 (w1.alloc (.cells #[G] t2)) := (Below.refl _ _).alloc (Nat.le_refl _) _
  have x0 := x0.later b1
  obtain ⟨w2, hw2⟩ : ∃ x, x = w1.alloc (.cells #[G] t2) := ⟨_, rfl⟩
  have z2 : w2.heap.size = w1.heap.size + 1 := by rw [hw2]; simp
  rw [← hw2] at x0 x1 ⊢
  have x2 := Cel.new w2 P t3
  have b2 : Below w2.heap.size w2 (w2.alloc (.cells #[P] t3)) := (Below.refl _ _).alloc (Nat.le_refl _) _
  rw [z2, z1] at x2
  rw [z1] at x1
  exact ⟨by omega, x0.later b2, x1.later b2, x2⟩
theorem below_three (w : World) (a b c : Obj) : Below w.heap.size w (((w.alloc a).alloc b).alloc c) := (((Below.refl _ _).alloc (Nat.le_refl _) _).alloc (by simp) _).alloc (by simp; omega) _
theorem taker64_any (R f g : Nat) (w : World) (hR : R < w.heap.size) : Calls Tryd.prog 28 #[.pointer (some ⟨R, 0, none⟩), .func (.func f) #[] #[], .func (.func g) #[] #[]] w (RetTk17 57 R (.func (.func f) #[] #[]) (.func (.func g) #[] #[]) w) := by
  have H := Lib.hid hR
  clear hR
  go_enter Tryd.func28, Tryd.ntmps28
  go_wp2_with fail
  go_ret
  exact ⟨_, _, _, rfl, tk3_new w R _ _ _ _ _ H.out, below_three w _ _ _, by omega, by omega, by omega⟩
theorem takerS_any (R f g : Nat) (v : Value) (w : World) (hR : R < w.heap.size) : Calls Tryd.prog 32 #[.pointer (some ⟨R, 0, none⟩), .func (.func f) #[] #[], .func (.func g) #[] #[v]] w (RetTk17 59 R (.func (.func f) #[] #[]) (.func (.func g) #[] #[v]) w) := by
  have H := Lib.hid hR
  clear hR
  go_enter Tryd.func32, Tryd.ntmps32
  go_wp2_with fail
  go_ret
  exact ⟨_, _, _, rfl, tk3_new w R _ _ _ _ _ H.out, below_three w _ _ _, by omega, by omega, by omega⟩
theorem takerB_any (R f g : Nat) (w : World) (hR : R < w.heap.size) : Calls Tryd.prog 37 #[.pointer (some ⟨R, 0, none⟩), .func (.func f) #[] #[], .func (.func g) #[] #[]] w (RetTk17 61 R (.func (.func f) #[] #[]) (.func (.func g) #[] #[]) w) := by
  have H := Lib.hid hR
  clear hR
  go_enter Tryd.func37, Tryd.ntmps37
  go_wp2_with fail
  go_ret
  exact ⟨_, _, _, rfl, tk3_new w R _ _ _ _ _ H.out, below_three w _ _ _, by omega, by omega, by omega⟩
/-- A reading's end. -/
def endE (l : List UInt8) (s : Nat × Nat) : Nat := if s.2 = 0 ∧ s.1 < l.length then 3 else s.2
theorem rend_any (R : Nat) (A : Option Addr) (n c : Nat) (l : List UInt8) (s : Nat × Nat) (w : World) (h : Rdg w R A n c l s) :
    Calls Tryd.prog 40 #[.pointer (some ⟨R, 0, none⟩)] w fun e w' => e = .returned (.int .i64 (endE l s : Int)) ∧ Below w.heap.size w w' := by
  have hl := h.sl.len
  rw [cells_length, Nat.mul_one] at hl
  have hlim := h.sl.lim
  unfold maxLen at hlim
  obtain ⟨a, f⟩ := s
  have c0 : ∀ k, (w.drewN k).cell? ⟨R, 0, none⟩ = some (.slice A n c) := fun k => h.c0
  have c1 : ∀ k, (w.drewN k).cell? ⟨R, 1, none⟩ = some (.int .i64 (a : Int)) := fun k => h.c1
  have c2 : ∀ k, (w.drewN k).cell? ⟨R, 2, none⟩ = some (.int .i64 (f : Int)) := fun k => h.c2
  have d0 := h.c0
  have d1 := h.c1
  have d2 := h.c2
  unfold endE
  rw [hl]
  dsimp only at d1 d2 ⊢
  clear h hl
  by_cases hf : f = 0
  · subst hf
    by_cases ha : a < n
    · rw [if_pos ⟨rfl, ha⟩]
      have hai : (a : Int) < (n : Int) := by omega
      go_enter Tryd.func40, Tryd.ntmps40
      go_wp2_with fail
      go_quiet (fail)
      go_wp2_with fail
      go_ret
      exact ⟨rfl, below_drewN (Below.refl _ _) _⟩
    · rw [if_neg (fun h => ha h.2)]
      have hai : ¬ (a : Int) < (n : Int) := by omega
      go_enter Tryd.func40, Tryd.ntmps40
      go_wp2_with fail
      go_quiet (fail)
      go_wp2_with fail
      go_ret
      exact ⟨rfl, below_drewN (Below.refl _ _) _⟩
  · rw [if_neg (fun h => hf h.1)]
    have hfi : ¬ (f : Int) = 0 := by omega
    go_enter Tryd.func40, Tryd.ntmps40
    go_wp2_with fail
    go_quiet (fail)
    go_wp2_with fail
    go_ret
    exact ⟨rfl, below_drewN (Below.refl _ _) _⟩
end Go.Proofs.YtpijfghklgmefaaDoor
