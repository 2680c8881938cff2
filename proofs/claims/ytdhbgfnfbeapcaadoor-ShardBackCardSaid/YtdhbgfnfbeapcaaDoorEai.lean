/-
  Package shard's takers; a shard in a variable is given its body. No condition.
-/
import Derived.Test.YtdhbgfnfbeapcaaDoorEah
namespace Go.Proofs.YtdhbgfnfbeapcaaDoor
open Go.RowKit Go.Proofs
set_option linter.unusedVariables false

set_option maxRecDepth 20000
set_option maxHeartbeats 800000
theorem takers_any (A : Option Addr) (n c : Nat) (w : World) : Calls Tryd.prog 23 #[.slice A n c] w fun e w' => e = .returned (.tuple #[.func (.func 31) #[] #[.pointer (some ⟨w.heap.size, 0, none⟩), .pointer (some ⟨w.heap.size + 1, 0, none⟩)], .func (.func 33) #[] #[.pointer (some ⟨w.heap.size, 0, none⟩), .pointer (some ⟨w.heap.size + 1, 0, none⟩)]]) ∧ w' = (w.alloc (.cells #[.slice A n c] 27)).alloc (.cells #[.int .i64 0] 3) := by
  go_enter Tryd.func23, Tryd.ntmps23
  go_wp2_with fail
  go_ret2
  exact ⟨rfl, rfl⟩
theorem Tk.new (w : World) (A : Option Addr) (n c : Nat) (l : List UInt8) (h : Sl w 1 A n c (cells l)) : Tk ((w.alloc (.cells #[.slice A n c] 27)).alloc (.cells #[.int .i64 0] 3)) w.heap.size (w.heap.size + 1) A n c l 0 := by
  refine ⟨(Below.heap_alloc _ _ _ (by simp)).trans (heap_alloc_new w _), ?_, by omega, (h.alloc _).alloc _, fun b o hn hA => ?_⟩
  · have := heap_alloc_new (w.alloc (.cells #[.slice A n c] 27)) (.cells #[.int .i64 0] 3)
    simpa using this
  · have := h.lt (by decide) hn hA
    omega
theorem Tk.fr {w w' : World} {t0 t1 n c a : Nat} {A : Option Addr} {l : List UInt8} {S : Nat → Prop} (h : Tk w t0 t1 A n c l a) (hf : Fr S w w') (h0 : ¬ S t0) (h1 : ¬ S t1) (hA : ∀ b o, 0 < n → A = some ⟨b, o, none⟩ → ¬ S b) : Tk w' t0 t1 A n c l a :=
  ⟨hf.row_some h.s0 h0, hf.row_some h.s1 h1, h.ne, h.sl.fr hf hA, h.off⟩
/-- The body is put into a shard in a variable. -/
theorem ShB.setBody {w : World} {b : Nat} {s : Sh} (h : ShB w b s) (X : List UInt8) : ShB (w.setCells b 5 (cells (pad44 X))) b ⟨s.kind, s.idx, s.place, s.gen, s.size, X⟩ ∧ Fr (fun x => x = b) w (w.setCells b 5 (cells (pad44 X))) := by
  have hF : Fr (fun x => x = b) w (w.setCells b 5 (cells (pad44 X))) := by
    rw [setCells_row (P := default) h (by rw [List.size_toArray, Sh.cs_len, cells_length, pad44_len]; decide) (cells_one _)]
    exact ⟨rfl, rfl, rfl, by simp, fun k hk hs => setRow_other _ _ _ _ hs⟩
  refine ⟨?_, hF⟩
  unfold ShB
  rw [setCells_row (P := default) h (by rw [List.size_toArray, Sh.cs_len, cells_length, pad44_len]; decide) (cells_one _), setRow_heap _ _ _ _ _ _ h]
  congr 3
theorem ShB.there {w : World} {b : Nat} {s : Sh} (h : ShB w b s) : w.there b 5 44 := fun j hj => ⟨by rw [h.byte hj]; rfl, h.free _⟩
end Go.Proofs.YtdhbgfnfbeapcaaDoor
