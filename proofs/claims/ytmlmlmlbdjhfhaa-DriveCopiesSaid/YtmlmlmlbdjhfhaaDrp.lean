/-
  Sectors and writes as the program builds them; what a function that tells which writes are kept makes of them. No condition.
-/
import Derived.Test.YtmlmlmlbdjhfhaaDro
import Derived.Test.YtmlmlmlbdjhfhaaDrm
import Derived.Great.BuildSlice
namespace Go.Proofs.Ytmlmlmlbdjhfhaa
open Go.RowKit Go.Proofs Go.Maps
set_option linter.unusedVariables false

theorem built9 (l : List UInt8) : Try.prog.built 71 [(0, .agg (cells (pad9 l)).toArray)] = some (sec9 (l, false)).toArray := by kernel_rfl
theorem builtW9 (i : Nat) (l : List UInt8) : Try.prog.built 68 [(0, .int .i64 (i : Int)), (1, .agg (cells (pad9 l)).toArray)] = some (wrc9 (i, l)).toArray := by kernel_rfl
theorem build9 (l : List UInt8) (w : World) : (Instr.build 71 #[(0, .agg (cells (pad9 l)).toArray)]).run Try.prog w = .ok (.agg (sec9 (l, false)).toArray) w := run_build w _ _ _ (built9 l)
theorem buildW9 (i : Nat) (l : List UInt8) (w : World) : (Instr.build 68 #[(0, .int .i64 (i : Int)), (1, .agg (cells (pad9 l)).toArray)]).run Try.prog w = .ok (.agg (wrc9 (i, l)).toArray) w := run_build w _ _ _ (builtW9 i l)
theorem infoW9 : (Try.prog.info? 68).map (fun i => (i.zero, i.size, i.bytes)) = some (some (.agg (wrc9 (0, [])).toArray), 65, 72) := by kernel_rfl
theorem zeroW9 (w : World) : (zeroValue 68).run Try.prog w = .ok (.agg (wrc9 (0, [])).toArray) w := by kernel_rfl
theorem sizeW9 (p : Nat × List UInt8) : (Try.prog.info? 68).map (·.size) = some (wrc9 p).toArray.size := by
  rw [List.size_toArray, wrc9_len]
  kernel_rfl
theorem sizeW9l (p : Nat × List UInt8) : (Try.prog.info? 68).map (·.size) = some (wrc9 p).length := by
  rw [wrc9_len]
  kernel_rfl
theorem sizeS9 (d : List UInt8 × Bool) : (Try.prog.info? 71).map (·.size) = some (sec9 d).toArray.size := by
  rw [List.size_toArray, sec9_len]
  kernel_rfl
theorem sameW9 (p q : Nat × List UInt8) : (wrc9 p).toArray.size = (wrc9 q).toArray.size := by rw [List.size_toArray, List.size_toArray, wrc9_len, wrc9_len]
theorem oneW9 (p : Nat × List UInt8) : (wrc9 p).toArray.all (·.oneCell') = true := all_oneCell_toArray (wrc9_one p)
theorem oneS9 (d : List UInt8 × Bool) : (sec9 d).toArray.all (·.oneCell') = true := all_oneCell_toArray (sec9_one d)
theorem fill9 (p : Nat × List UInt8) : Instr.fill (fun i => some (i * 65, 65)) ((Array.range (1 * 65)).map ((Value.agg (wrc9 (0, [])).toArray).cells[· % (Value.agg (wrc9 (0, [])).toArray).cells.size]!)) [(0, .agg (wrc9 p).toArray)] = some (wrc9 p).toArray := by kernel_rfl
theorem fill9a {p : Nat × List UInt8} (a : Act) (x : Operand) (h : a.eval x = .agg (wrc9 p).toArray) : Instr.fill (fun i => some (i * 65, 65)) ((Array.range (1 * 65)).map ((Value.agg (wrc9 (0, [])).toArray).cells[· % (Value.agg (wrc9 (0, [])).toArray).cells.size]!)) (Array.map (fun (i, x) => (i, a.eval x)) #[((0 : Nat), x)]).toList = some (wrc9 p).toArray := by
  have e : (Array.map (fun (i, x) => (i, a.eval x)) #[((0 : Nat), x)]).toList = [(0, a.eval x)] := by simp
  rw [e, h]
  exact fill9 p
theorem readW9 {w : World} {b : Nat} {p : Nat × List UInt8} {t : TypeId} (h : w.heap[b]? = some (.cells (wrc9 p).toArray t (0, 0))) : w.cell? ⟨b, 0, none⟩ = some (.int .i64 (p.1 : Int)) ∧ w.rangeAt b 1 (cells (pad9 p.2)) := by
  refine ⟨by rw [cell_of_row _ _ _ _ _ _ h]; rfl, fun j v hv => ?_⟩
  rw [cell_of_row _ _ _ _ _ _ h, List.getElem?_toArray, wrc9, Nat.add_comm, List.getElem?_cons_succ]
  exact hv

/-- Those of a list, numbered from k on, that a function keeps. -/
def selq {α : Type} (q : Nat → Bool) : List α → Nat → List α
  | [], _ => []
  | a :: l, k => if q k = true then a :: selq q l (k + 1) else selq q l (k + 1)
theorem selq_snoc {α : Type} (q : Nat → Bool) (a : α) : ∀ (l : List α) (k : Nat), selq q (l ++ [a]) k = selq q l k ++ if q (k + l.length) = true then [a] else []
  | [], k => by
    show (if q k = true then [a] else []) = _
    rfl
  | b :: l, k => by
    show (if q k = true then b :: selq q (l ++ [a]) (k + 1) else selq q (l ++ [a]) (k + 1)) = (if q k = true then b :: selq q l (k + 1) else selq q l (k + 1)) ++ _
    rw [selq_snoc q a l (k + 1), List.length_cons, show k + 1 + l.length = k + (l.length + 1) from by omega]
    split <;> rfl
theorem selq_mem {α : Type} {q : Nat → Bool} {a : α} : ∀ {l : List α} {k : Nat}, a ∈ selq q l k → a ∈ l
  | b :: l, k, h => by
    have h : a ∈ (if q k = true then b :: selq q l (k + 1) else selq q l (k + 1)) := h
    split at h
    · rcases List.mem_cons.1 h with h | h
      · rw [h]; exact List.mem_cons_self
      · exact List.mem_cons_of_mem _ (selq_mem h)
    · exact List.mem_cons_of_mem _ (selq_mem h)
theorem selq_all {α : Type} : ∀ (l : List α) (k : Nat), selq (fun _ => true) l k = l
  | [], _ => rfl
  | a :: l, k => by
    show (if true = true then a :: selq (fun _ => true) l (k + 1) else _) = _
    rw [if_pos rfl, selq_all l (k + 1)]
theorem selq_kept {α : Type} (ks : List Bool) : ∀ (l : List α) (k : Nat), selq (fun i => decide (i < ks.length) && ks.getD i false) l k = Dv.kept l (ks.drop k)
  | [], k => by cases ks.drop k <;> rfl
  | a :: l, k => by
    show (if (decide (k < ks.length) && ks.getD k false) = true then a :: selq _ l (k + 1) else selq _ l (k + 1)) = _
    rw [selq_kept ks l (k + 1)]
    by_cases hk : k < ks.length
    · rw [List.drop_eq_getElem_cons hk, decide_eq_true hk, Bool.true_and]
      show _ = (if ks[k] = true then a :: Dv.kept l (ks.drop (k + 1)) else Dv.kept l (ks.drop (k + 1)))
      rw [List.getD_eq_getElem?_getD, List.getElem?_eq_getElem hk, Option.getD_some]
    · rw [decide_eq_false hk, Bool.false_and, if_neg (by decide), List.drop_of_length_le (by omega), List.drop_of_length_le (by omega)]
      cases l <;> rfl
/-- What is stored of what waits. -/
def Dv.store (x : Dv) (q : Nat → Bool) : Dv := (x.puts (selq q x.wait 0)).quiet
theorem Dv.store_flush (x : Dv) : x.store (fun _ => true) = x.flush := by rw [Dv.store, selq_all]; rfl
theorem Dv.store_crash (x : Dv) (ks : List Bool) : x.store (fun i => decide (i < ks.length) && ks.getD i false) = x.crash ks := by rw [Dv.store, selq_kept, List.drop_zero]; rfl
theorem Dv.puts_wait : ∀ (l : List (Nat × List UInt8)) (x : Dv), (x.puts l).wait = x.wait
  | [], _ => rfl
  | p :: l, x => (Dv.puts_wait l (x.put p)).trans rfl
theorem Dv.puts_snoc (x : Dv) (l : List (Nat × List UInt8)) (p : Nat × List UInt8) : x.puts (l ++ [p]) = (x.puts l).put p := by rw [Dv.puts, List.foldl_append]; rfl
end Go.Proofs.Ytmlmlmlbdjhfhaa
