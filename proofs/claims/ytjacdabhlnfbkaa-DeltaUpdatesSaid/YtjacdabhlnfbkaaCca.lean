/-
  The statements' own examples of layer 5 ('codes') answer true. No condition.
-/
import Derived.Test.YtjacdabhlnfbkaaCbc
import Derived.Test.YtjacdabhlnfbkaaCbd
import Derived.Test.YtjacdabhlnfbkaaCbb
namespace Go.Proofs.Ytjacdabhlnfbkaa
open Go.RowKit Go.Proofs
set_option linter.unusedVariables false

theorem cnew_at (F T : Nat) (k m : Int) (K M : Nat) (hk : k = (K : Int)) (hm : m = (M : Int)) (h : 1 ≤ K ∧ 1 ≤ M ∧ K + M ≤ 255) (w : World) (hf : Fld w F T) :
    Calls Try.prog 7 #[.pointer (some ⟨F, 0, none⟩), .int .i64 k, .int .i64 m] w fun e w' => ∃ C, e = .returned (.pointer (some ⟨C, 0, none⟩)) ∧ Cod w' C K M F T ∧ Fr (Ft T) w w' := by
  refine (cnew_any F T k m (by omega) (by omega) w hf).mono ?_; rintro e w' ⟨hR, _, hr⟩
  rcases hR with ⟨hno, _⟩ | ⟨K', M', C, h1, h2, he, hC⟩
  · rw [mayB_t (by omega)] at hno
    cases hno
  · obtain rfl : K' = K := by omega
    obtain rfl : M' = M := by omega
    exact ⟨C, he, hC, hr⟩
theorem cnew_no (F T : Nat) (k m : Int) (hk : -9223372036854775808 ≤ k ∧ k < 9223372036854775808) (hm : -9223372036854775808 ≤ m ∧ m < 9223372036854775808) (h : mayB k m = false) (w : World) (hf : Fld w F T) :
    Calls Try.prog 7 #[.pointer (some ⟨F, 0, none⟩), .int .i64 k, .int .i64 m] w fun e w' => e = .returned (.pointer none) ∧ Fld1 w' F T ∧ Fr (Ft T) w w' := by
  refine (cnew_any F T k m hk hm w hf).mono ?_; rintro e w' ⟨hR, h1, hr⟩
  rcases hR with ⟨_, he⟩ | ⟨K', M', C, e1, e2, _, hC⟩
  · exact ⟨he, h1, hr⟩
  · rw [mayB_t (by have := hC.k1; have := hC.m1; have := hC.n255; omega)] at h
    cases h

theorem sl_blk {w : World} {g : Nat} {cs : Array Value} {l : List UInt8} (hg : w.heap[g]? = some (.cells cs 5 (0, 0))) (hc : cs.toList = cells l) (hl : l.length ≤ maxLen) : Sl w 1 (some ⟨g, 0, none⟩) l.length l.length (cells l) :=
  ⟨by rw [cells_length, Nat.mul_one], Nat.le_refl _, hl, fun j u hu => ⟨g, 0, rfl, by rw [cell_of_row _ _ _ _ _ _ hg, Nat.zero_add]; rw [← hc] at hu; simpa using hu⟩⟩
theorem gr_lit1 (w : World) (cs : Array Value) (l : List UInt8) (hc : cs.toList = cells l) (hl : l.length ≤ maxLen) : Gr ((w.alloc (.cells cs 5)).alloc (.cells #[.slice (some ⟨w.heap.size, 0, none⟩) l.length l.length] 22)) (some ⟨w.heap.size + 1, 0, none⟩) 1 1 [l] := by
  have h1 := sl_blk (heap_alloc_new w (.cells cs 5)) hc hl
  have h2 := heap_alloc_new (w.alloc (.cells cs 5)) (.cells #[.slice (some ⟨w.heap.size, 0, none⟩) l.length l.length] 22)
  rw [show (w.alloc (.cells cs 5)).heap.size = w.heap.size + 1 from by simp] at h2
  exact Gr.one h2 (h1.alloc _)
theorem gr_lit2 (w : World) (cs cs2 : Array Value) (l l2 : List UInt8) (hc : cs.toList = cells l) (hc2 : cs2.toList = cells l2) (hl : l.length ≤ maxLen) (hl2 : l2.length ≤ maxLen) :
    Gr (((w.alloc (.cells cs 5)).alloc (.cells cs2 5)).alloc (.cells #[.slice (some ⟨w.heap.size, 0, none⟩) l.length l.length, .slice (some ⟨w.heap.size + 1, 0, none⟩) l2.length l2.length] 22)) (some ⟨w.heap.size + 1 + 1, 0, none⟩) 2 2 [l, l2] := by
  have h1 := sl_blk (heap_alloc_new w (.cells cs 5)) hc hl
  have h2 := sl_blk (heap_alloc_new (w.alloc (.cells cs 5)) (.cells cs2 5)) hc2 hl2
  have h3 := heap_alloc_new ((w.alloc (.cells cs 5)).alloc (.cells cs2 5)) (.cells #[.slice (some ⟨w.heap.size, 0, none⟩) l.length l.length, .slice (some ⟨w.heap.size + 1, 0, none⟩) l2.length l2.length] 22)
  rw [show (w.alloc (.cells cs 5)).heap.size = w.heap.size + 1 from by simp] at h2
  rw [show ((w.alloc (.cells cs 5)).alloc (.cells cs2 5)).heap.size = w.heap.size + 1 + 1 from by simp] at h3
  refine ⟨⟨[.slice (some ⟨w.heap.size, 0, none⟩) l.length l.length, .slice (some ⟨w.heap.size + 1, 0, none⟩) l2.length l2.length], ⟨rfl, Nat.le_refl _, by decide, fun j u hu => ⟨w.heap.size + 1 + 1, 0, rfl, ?_⟩⟩, fun i r hi => ?_⟩, rfl⟩
  · rw [cell_of_row _ _ _ _ _ _ h3, Nat.zero_add]
    simpa using hu
  · rcases i with _ | i
    · simp at hi
      subst hi
      exact ⟨_, _, rfl, (h1.alloc _).alloc _⟩
    · rcases i with _ | i
      · simp at hi
        subst hi
        exact ⟨_, _, rfl, h2.alloc _⟩
      · simp at hi

theorem par_11 : parL 1 [[7, 9]] 1 = [[7, 9]] := by decide +kernel
theorem par_21 : parL 2 [[1], [1]] 1 = [[122]] := by decide +kernel
theorem row_11 : rowC 1 1 = [1] := by decide +kernel

/-- In a law's call that began in w0: a field at F, T of its own, whose tables are made. -/
structure Lw (w0 : World) (F T : Nat) (w : World) : Prop where
  bel : Below w0.heap.size w0 w
  fld : Fld1 w F T
  new : w0.heap.size ≤ T
theorem Lw.later {w0 w w' : World} {F T : Nat} (h : Lw w0 F T w) (hb : Below w.heap.size w w') : Lw w0 F T w' := ⟨h.bel.trans (hb.mono h.bel.size), h.fld.later hb, h.new⟩
theorem Lw.of {w0 w1 w2 : World} {F T : Nat} (hb : Below w0.heap.size w0 w1) (hT : w0.heap.size ≤ T) (hr : Fr (Ft T) w1 w2) (hf : Fld1 w2 F T) : Lw w0 F T w2 := ⟨hb.trans (hr.below hb.size (by rintro k rfl; exact hT)), hf, hT⟩

end Go.Proofs.Ytjacdabhlnfbkaa
