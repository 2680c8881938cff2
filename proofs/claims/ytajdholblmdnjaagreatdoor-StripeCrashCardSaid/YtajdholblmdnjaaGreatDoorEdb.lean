/-
  A map from integers to shards that a call has made ('Mv'): made, counted, looked at, one more stored (layer 13). No condition but bounds.
-/
import Derived.Test.YtajdholblmdnjaaGreatDoorGa
import Derived.Test.YtajdholblmdnjaaGreatDoorLa
import Derived.Test.YtajdholblmdnjaaGreatDoorLc
import Derived.Maps.OwnOps
import Derived.Maps.Views
set_option linter.unusedVariables false
set_option maxRecDepth 100000
namespace Go.Proofs.YtajdholblmdnjaaGreatDoor
open Go.RowKit Go.Proofs Go.Maps
def heldR (v : Value) : Option (DataW Value × List MemPlace) := some (.held v, [])
structure Mv (w : World) (M c : Nat) (f : Nat → Option Sh) : Prop where
 ex : ∃ D : DataW Value, w.ownsMap Tryz.prog 3 heldR M c D ∧ Tidy D ∧ Maps.size D = c ∧ ∀ (i : Nat) (zd : DataW Value), D.atKey (.int .i64 (i : Int)) zd = (match f i with | some s => .held s.v | none => zd)
section
variable {w w' : World} {M c : Nat} {f : Nat → Option Sh}
theorem Mv.lt (h : Mv w M c f) : M < w.heap.size := by
 obtain ⟨D, h1, _⟩ := h.ex
 exact h1.lt
theorem Mv.fr {S : Nat → Prop} (h : Mv w M c f) (hf : Fr S w w') (hb : ¬ S M) : Mv w' M c f := by
 obtain ⟨D, ⟨es, clock, h1, h2, h3, h4⟩, r⟩ := h.ex
 have hl : M < w.heap.size := h.lt
 exact ⟨D, ⟨es, clock, (hf.block M hl hb).trans h1, h2, h3, h4⟩, r⟩
theorem Mv.later (h : Mv w M c f) (hb : Below w.heap.size w w') : Mv w' M c f := h.fr (Fr.of_below hb : Fr (fun _ => False) w w') (fun h => h)
theorem Mv.made (w : World) : Mv (w.alloc (.map #[] 0)) w.heap.size 0 (fun _ => none) := ⟨.map [], World.ownsMap_made _ _ _ _, tidy_empty, rfl, fun i zd => rfl⟩
theorem held_inj {a b : Value} (h : (DataW.held a : DataW Value) = .held b) : a = b := by injection h
theorem zero_shard13 (w : World) : (zeroValue 97).run Tryz.prog w = .ok Sh.zero.v w := zero_shard w
theorem Mv.len (h : Mv w M c f) (ty : TypeId) : (Builtin.len_ #[79] ty #[.map (some M)]).run Tryz.prog w = .ok (.int .i64 (c : Int)) w := by
 obtain ⟨D, ⟨es, clock, h1, h2, h3, h4⟩, _, hs, _⟩ := h.ex
 have hr := run_len_map (P := Tryz.prog) (w := w) 79 ty M es clock (by kernel_rfl) h1
 have e : es.size = c := by
  rw [← hs, h4, Maps.size_eq, length_sorted, List.length_map, Array.length_toList]
 rw [e] at hr
 exact hr
theorem Mv.look (h : Mv w M c f) (i : Nat) (hi : i < 9223372036854775808) :
  (Instr.lookup 79 (.map (some M)) (.int .i64 (i : Int)) true).run Tryz.prog w = .ok (match f i with | some s => .tuple #[s.v, .bool true] | none => .tuple #[Sh.zero.v, .bool false]) w := by
 obtain ⟨D, ⟨es, clock, hb, F, hs, rfl⟩, _, _, h3⟩ := h.ex
 have hkey : keyOf Tryz.prog 3 (.int .i64 (i : Int)) = some (.int .i64 (i : Int)) := keyOf_int_mk Tryz.underlying3 (wf_of (by omega))
 rcases Maps.fit_look true keyedI Tryz.underlying79 (zero_shard13 w) hb F hkey with ⟨hrun, _, hat⟩ | ⟨e0, y, _, _, hrun, hRv, hat, _⟩
 ·have h0 := (h3 i (.held (.bool false))).symm.trans (hat _)
  have h1 := (h3 i (.held (.bool true))).symm.trans (hat _)
  cases hq : f i with
  | none => exact hrun
  | some s =>
   rw [hq] at h0 h1
   have a := held_inj h0
   have b := held_inj h1
   rw [a] at b
   cases b
 ·have h0 := (h3 i (.held (.bool false))).symm.trans (hat _)
  have h1 := (h3 i (.held (.bool true))).symm.trans (hat _)
  have hy : y = (.held e0.val, []) := by
   unfold heldR at hRv
   injection hRv with hRv
   exact hRv.symm
  rw [hy] at h0 h1
  cases hq : f i with
  | none =>
   rw [hq] at h0 h1
   have a := held_inj h0
   have b := held_inj h1
   rw [← a] at b
   cases b
  | some s =>
   rw [hq] at h0
   have := held_inj h0
   rw [← this] at hrun
   exact hrun
theorem Mv.upd (h : Mv w M c f) (i : Nat) (hi : i < 9223372036854775808) (hf : f i = none) (hc : c ≤ 100000) (s : Sh) :
  ∃ w', (Instr.mapUpdate 79 (.map (some M)) (.int .i64 (i : Int)) (.agg s.cs.toArray)).run Tryz.prog w = .ok () w' ∧ Fr (fun b => b = M) w w' ∧ Mv w' M (c + 1) (fun j => if j = i then some s else f j) := by
 obtain ⟨D, h1, h2, hs, h3⟩ := h.ex
 have hkey : keyOf Tryz.prog 3 (.int .i64 (i : Int)) = some (.int .i64 (i : Int)) := keyOf_int_mk Tryz.underlying3 (wf_of (by omega))
 obtain ⟨w', hrun, hown, hg⟩ := h1.update keyedI Tryz.underlying79 (by unfold maxLen; omega) hkey (show heldR (.agg s.cs.toArray) = some (.held s.v, []) from rfl)
 have hn : Maps.has D (.int .i64 (i : Int)) = false := has_false_of_atKey fun z => by rw [h3, hf]
 refine ⟨w', hrun, ⟨hg.os, hg.tape, hg.output, hg.size, fun k hk hs => hg.block k hk (fun e => by injection e with e; exact hs e)⟩, ⟨_, hown, h2.put (by trivial) _, ?_, fun j zd => ?_⟩⟩
 ·rw [size_put h2, hn, hs]
  rfl
 ·by_cases he : j = i
  ·subst he
   rw [if_pos rfl, atKey_put_same h2.isMap (by trivial)]
  ·rw [if_neg he, atKey_put_other (by intro e; injection e with _ e; exact he (by omega)), h3]
end
end Go.Proofs.YtajdholblmdnjaaGreatDoor
