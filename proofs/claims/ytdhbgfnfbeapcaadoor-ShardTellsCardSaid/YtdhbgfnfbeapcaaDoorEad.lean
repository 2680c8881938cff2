/-
  Contracts of package shard's Is and of the document's Is. No condition but bounds. (Written by gen_ead.py.)
-/
import Derived.Test.YtdhbgfnfbeapcaaDoorEac
namespace Go.Proofs.YtdhbgfnfbeapcaaDoor
open Go.RowKit Go.Proofs
set_option linter.unusedVariables false

set_option maxRecDepth 20000
set_option maxHeartbeats 800000
theorem isB_eq (s : Sh) (k : UInt8) (p : Int) (g : Nat) (i : Int) : isB s k p g i = (((s.kind.toNat : Int) == (k.toNat : Int)) && (((s.place : Int) == p) && (((s.gen : Int) == (g : Int)) && ((s.idx.toNat : Int) == i)))) := by
  rw [bs_u8, beq_dec, bs_nat, beq_dec, isB]
  by_cases h1 : s.kind = k <;> by_cases h2 : (s.place : Int) = p <;> by_cases h3 : s.gen = g <;> by_cases h4 : (s.idx.toNat : Int) = i <;> simp [h1, h2, h3, h4]
theorem is_any (s : Sh) (hs : s.Ok) (k : UInt8) (p : Int) (g : Nat) (i : Int) (w : World) :
    Calls Tryd.prog 10 #[.agg s.cs.toArray, .agg #[.int .u8 (k.toNat : Int), .int .i64 p, .int .u64 (g : Int)], .int .i64 i] w fun e w' => e = .returned (.bool (isB s k p g i)) ∧ Below w.heap.size w w' := by
  have hk := s.kind.toNat_lt
  have hp := hs.place
  have hi := s.idx.toNat_lt
  have hb : Below w.heap.size w ((w.alloc (.cells s.cs.toArray 26)).alloc (.cells #[.int .u8 (k.toNat : Int), .int .i64 p, .int .u64 (g : Int)] 29)) := ((Below.refl _ _).alloc (Nat.le_refl _) _).alloc (by simp) _
  have hS : ShB ((w.alloc (.cells s.cs.toArray 26)).alloc (.cells #[.int .u8 (k.toNat : Int), .int .i64 p, .int .u64 (g : Int)] 29)) w.heap.size s := (ShB.new w s).later ((Below.refl _ _).alloc (Nat.le_refl _) _)
  have ck := hS.k; have ci := hS.i; have cp := hS.p; have cg := hS.g
  have e := isB_eq s k p g i
  have Hb := Lib.hid hb
  clear hS hs hb
  cases h1 : (s.kind.toNat : Int) == (k.toNat : Int)
  · rw [h1, Bool.false_and] at e
    rw [e]
    clear e
    go_enter Tryd.func10, Tryd.ntmps10
    go_wp2_with fail
    go_ret
    exact ⟨rfl, Hb.out⟩
  rw [h1, Bool.true_and] at e
  cases h2 : (s.place : Int) == p
  · rw [h2, Bool.false_and] at e
    rw [e]
    clear e
    go_enter Tryd.func10, Tryd.ntmps10
    go_wp2_with fail
    go_ret
    exact ⟨rfl, Hb.out⟩
  rw [h2, Bool.true_and] at e
  cases h3 : (s.gen : Int) == (g : Int)
  · rw [h3, Bool.false_and] at e
    rw [e]
    clear e
    go_enter Tryd.func10, Tryd.ntmps10
    go_wp2_with fail
    go_ret
    exact ⟨rfl, Hb.out⟩
  rw [h3, Bool.true_and] at e
  rw [e]
  clear e
  go_enter Tryd.func10, Tryd.ntmps10
  go_wp2_with fail
  go_ret
  exact ⟨rfl, Hb.out⟩
theorem ris_any (s : Sh) (hs : s.Ok) (k : UInt8) (p : Int) (g : Nat) (i : Int) (w : World) :
    Calls Tryd.prog 11 #[.agg s.cs.toArray, .agg #[.int .u8 (k.toNat : Int), .int .i64 p, .int .u64 (g : Int)], .int .i64 i] w fun e w' => e = .returned (.bool (isB s k p g i)) ∧ Below w.heap.size w w' := by
  have hk := s.kind.toNat_lt
  have hp := hs.place
  have hi := s.idx.toNat_lt
  have hb : Below w.heap.size w ((w.alloc (.cells s.cs.toArray 26)).alloc (.cells #[.int .u8 (k.toNat : Int), .int .i64 p, .int .u64 (g : Int)] 29)) := ((Below.refl _ _).alloc (Nat.le_refl _) _).alloc (by simp) _
  have hS : ShB ((w.alloc (.cells s.cs.toArray 26)).alloc (.cells #[.int .u8 (k.toNat : Int), .int .i64 p, .int .u64 (g : Int)] 29)) w.heap.size s := (ShB.new w s).later ((Below.refl _ _).alloc (Nat.le_refl _) _)
  have ck := hS.k; have ci := hS.i; have cp := hS.p; have cg := hS.g
  have e := isB_eq s k p g i
  have Hb := Lib.hid hb
  clear hS hs hb
  cases h1 : (s.kind.toNat : Int) == (k.toNat : Int)
  · rw [h1, Bool.false_and] at e
    rw [e]
    clear e
    go_enter Tryd.func11, Tryd.ntmps11
    go_wp2_with fail
    go_ret
    exact ⟨rfl, Hb.out⟩
  rw [h1, Bool.true_and] at e
  cases h2 : (s.place : Int) == p
  · rw [h2, Bool.false_and] at e
    rw [e]
    clear e
    go_enter Tryd.func11, Tryd.ntmps11
    go_wp2_with fail
    go_ret
    exact ⟨rfl, Hb.out⟩
  rw [h2, Bool.true_and] at e
  cases h3 : (s.gen : Int) == (g : Int)
  · rw [h3, Bool.false_and] at e
    rw [e]
    clear e
    go_enter Tryd.func11, Tryd.ntmps11
    go_wp2_with fail
    go_ret
    exact ⟨rfl, Hb.out⟩
  rw [h3, Bool.true_and] at e
  rw [e]
  clear e
  go_enter Tryd.func11, Tryd.ntmps11
  go_wp2_with fail
  go_ret
  exact ⟨rfl, Hb.out⟩
end Go.Proofs.YtdhbgfnfbeapcaaDoor
