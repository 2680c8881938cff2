/-
  What the statements of layer 11 ask at any rate: the page's examples, and a shard. Condition: the table reads as the row lists it ('Nt'). And what goes with it below the laws of layer 13. No condition but what each theorem says.
-/
import Derived.Test.YthmneinejfbheaaGreatDoorLb
set_option linter.unusedVariables false
set_option maxRecDepth 20000
set_option maxHeartbeats 1600000
namespace Go.Proofs.YthmneinejfbheaaGreatDoor
section
open Go.RowKit Go.Proofs
theorem wpList_store_shard {ops : Array Oper} {rest : List Oper} {o : Oper} {a : Act} {Q : Exit → Act → World → Prop} (hgd : o.guard = none) (x y : Operand) (ho : o.op = .store 169 x y) (w0 : World) (s : Sh)
  (hx : a.eval x = .pointer (some ⟨w0.heap.size, 0, none⟩)) (hy : a.eval y = .agg s.cs.toArray) (h : wpList Tryz.prog ops Q rest (a.put o.dst undef) (w0.alloc (.cells s.cs.toArray 169))) : wpList Tryz.prog ops Q (o :: rest) a (w0.alloc (.cells (Sh.cs Sh.zero).toArray 169)) :=
 wpList_store_new hgd _ x y ho w0 _ _ _ hx hy (size_shard_a s) (by rw [List.size_toArray, List.size_toArray, Sh.cs_len, Sh.cs_len]) (all_oneCell_toArray s.cs_one) h
end
section
end
section
open Go.RowKit Go.Proofs
set_option linter.unusedSimpArgs false
theorem wpList_step11 {P : Program} {ops : Array Oper} {rest : List Oper} {o : Oper} {a : Act} {w : World} {Q : Exit → Act → World → Prop} (hgd : Region.wanted o (yielded ops a.tmps) = true) (v : Value) (w' : World) (hr : (execOp a.eval o).run P w = .ok (.value v) w') (hk : wpList P ops Q rest (a.put o.dst v) w') : wpList P ops Q (o :: rest) a w := by
 unfold wpList
 rw [if_pos hgd]
 left
 unfold Oper.wp
 rw [hr]
 exact hk
end
end Go.Proofs.YthmneinejfbheaaGreatDoor
