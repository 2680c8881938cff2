/-
  The document's drive (layer 9): what comes of an event that is laid behind the others; its Rot. No condition but bounds.
-/
import Derived.Test.YtmlmlmlbdjhfhaaDsb
import Derived.Great.BuildSlice
namespace Go.Proofs.Ytmlmlmlbdjhfhaa
open Go.RowKit Go.Proofs
set_option linter.unusedVariables false

theorem infoE9 : (Try.prog.info? 83).map (fun i => (i.zero, i.size, i.bytes)) = some (some (.agg #[.int .i64 0, .slice none 0 0, .int .i64 0, .int .u32 0]), 4, 48) := by kernel_rfl
theorem fillE9 (v0 v1 v2 v3 : Value) : Instr.fill (fun i => some (i * 4, 4)) ((Array.range (1 * 4)).map ((Value.agg #[.int .i64 0, .slice none 0 0, .int .i64 0, .int .u32 0]).cells[· % (Value.agg #[.int .i64 0, .slice none 0 0, .int .i64 0, .int .u32 0]).cells.size]!)) [(0, .agg #[v0, v1, v2, v3])] = some #[v0, v1, v2, v3] := by kernel_rfl
theorem fillE9a {v0 v1 v2 v3 : Value} (a : Act) (x : Operand) (h : a.eval x = .agg #[v0, v1, v2, v3]) : Instr.fill (fun i => some (i * 4, 4)) ((Array.range (1 * 4)).map ((Value.agg #[.int .i64 0, .slice none 0 0, .int .i64 0, .int .u32 0]).cells[· % (Value.agg #[.int .i64 0, .slice none 0 0, .int .i64 0, .int .u32 0]).cells.size]!)) (Array.map (fun (i, x) => (i, a.eval x)) #[((0 : Nat), x)]).toList = some #[v0, v1, v2, v3] := by
  have e : (Array.map (fun (i, x) => (i, a.eval x)) #[((0 : Nat), x)]).toList = [(0, a.eval x)] := by simp
  rw [e, h]
  exact fillE9 _ _ _ _
section
variable {w w' : World} {S : Nat → Prop} {X k : Nat} {x : Dv} {AL AW A A' : Option Addr} {cL cW c c' n' : Nat} {ls ws ms : List Em} {xs : List Value}
/-- Append onto another slice, and a store into the box, leave events as they are. -/
theorem Evs.fr7 {cs : Array Value} (h : Evs w S A c ms) (hb : w.heap[X]? = some (.cells cs 57 (0, 0))) (h' : Rn w A' 83 4 n' c' xs) (hf : Fr (Bk7 X A') w w') (hA : ∀ b, Bk A b → ¬ Bk A' b) : Evs w' S A c ms :=
  ⟨h.rn.fr hf (fun b hb' hk => hk.elim (fun e => h.rn.neX hb (by decide) (by rw [← e]; exact hb')) (hA b hb')), h.own, fun m hm => ⟨(h.b m hm).1.fr hf (fun b hb' hk => hk.elim (fun e => (h.b m hm).1.neX hb (by decide) (by rw [← e]; exact hb')) ((h.b m hm).1.ne h' (by decide) hb')), (h.b m hm).2⟩⟩
theorem Evs.bytes7 {cs : Array Value} (h : Evs w S A c ms) (hb : w.heap[X]? = some (.cells cs 57 (0, 0))) (hf : Fr (Bk7 X A) w w') : ∀ m ∈ ms, Rn w' m.A 5 1 m.ev.b.length m.c (cells m.ev.b) ∧ ∀ b, Bk m.A b → S b := fun m hm =>
  ⟨(h.b m hm).1.fr hf (fun b hb' hk => hk.elim (fun e => (h.b m hm).1.neX hb (by decide) (by rw [← e]; exact hb')) ((h.b m hm).1.ne h.rn (by decide) hb')), (h.b m hm).2⟩
/-- The blocks that are the drive's behind a call. -/
def Sn (S : Nat → Prop) (w w' : World) : Nat → Prop := fun b => (S b ∨ w.heap.size ≤ b) ∧ b < w'.heap.size
theorem Sn.old (hS : ∀ b, S b → b < w.heap.size) (hs : w.heap.size ≤ w'.heap.size) {b : Nat} (hb : S b) : Sn S w w' b := ⟨.inl hb, Nat.lt_of_lt_of_le (hS b hb) hs⟩
/-- Events laid behind those that wait. -/
theorem Rg.moreW {y : Dv} {ps : List Em} (h : Rg w S X k x AL cL ls AW cW ws) (hS : ∀ b, S b → b < w.heap.size) (hH : Fr (Bk7 X AW) w w')
    (hbx : w'.heap[X]? = some (.cells #[.int .i64 (x.n : Int), .slice AL ls.length cL, .slice A' (ws.length + ps.length) c', .bool x.gone] 57 (0, 0)))
    (hrn : Rn w' A' 83 4 (ws.length + ps.length) c' (ws.flatMap emc ++ ps.flatMap emc)) (hor : A' = AW ∨ ∀ b, Bk A' b → w.heap.size ≤ b)
    (hps : ∀ m ∈ ps, Rn w' m.A 5 1 m.ev.b.length m.c (cells m.ev.b) ∧ ∀ b, Bk m.A b → S b ∨ w.heap.size ≤ b)
    (hn : y.n = x.n) (hg : y.gone = x.gone) (hrel : Rel y x.n (ls.map Em.ev) ((ws ++ ps).map Em.ev) x.gone) : MutR S X (k + ps.length) y w w' := by
  have hz := hH.size
  have hold : ∀ b, S b → Sn S w w' b := fun b hb => Sn.old hS hz hb
  have hA' : ∀ b, Bk A' b → Sn S w w' b := fun b hb => ⟨hor.elim (fun e => .inl (h.ew.own b (by rw [← e]; exact hb))) (fun e => .inr (e b hb)), hrn.lt hb⟩
  refine ⟨Sn S w w', ⟨fun b hb => hb.2, AL, cL, ls, A', c', ws ++ ps, ?_, (h.el.fr7 h.box h.ew.rn hH h.apart).wid hold, ⟨?_, hA', fun m hm => ?_⟩, ?_, ?_, ?_, hold X h.own, by rw [hn]; exact h.n2⟩, hH.mono (fun b hb => hb.elim (fun e => by rw [e]; exact h.own) (h.ew.own b)), fun b hb => hb.1⟩
  · rw [hn, hg, List.length_append]; exact hbx
  · rw [List.length_append, List.flatMap_append]; exact hrn
  · rcases List.mem_append.1 hm with q | q
    · exact ⟨(h.ew.bytes7 h.box hH m q).1, fun b hb => hold b ((h.ew.b m q).2 b hb)⟩
    · exact ⟨(hps m q).1, fun b hb => ⟨(hps m q).2 b hb, (hps m q).1.lt hb⟩⟩
  · intro b hb hb'
    rcases hor with e | e
    · exact h.apart b hb (by rw [← e]; exact hb')
    · have := e b hb'
      have := hS b (h.el.own b hb)
      omega
  · rw [hn, hg]; exact hrel
  · have := h.len
    rw [List.length_append]
    omega
/-- Events laid behind those that are stored. -/
theorem Rg.moreL {y : Dv} {ps : List Em} (h : Rg w S X k x AL cL ls AW cW ws) (hS : ∀ b, S b → b < w.heap.size) (hH : Fr (Bk7 X AL) w w')
    (hbx : w'.heap[X]? = some (.cells #[.int .i64 (x.n : Int), .slice A' (ls.length + ps.length) c', .slice AW ws.length cW, .bool x.gone] 57 (0, 0)))
    (hrn : Rn w' A' 83 4 (ls.length + ps.length) c' (ls.flatMap emc ++ ps.flatMap emc)) (hor : A' = AL ∨ ∀ b, Bk A' b → w.heap.size ≤ b)
    (hps : ∀ m ∈ ps, Rn w' m.A 5 1 m.ev.b.length m.c (cells m.ev.b) ∧ ∀ b, Bk m.A b → S b ∨ w.heap.size ≤ b)
    (hn : y.n = x.n) (hg : y.gone = x.gone) (hrel : Rel y x.n ((ls ++ ps).map Em.ev) (ws.map Em.ev) x.gone) :
    (∀ b, Sn S w w' b → b < w'.heap.size) ∧ Rg w' (Sn S w w') X (k + ps.length) y A' c' (ls ++ ps) AW cW ws ∧ Fr S w w' := by
  have hz := hH.size
  have hold : ∀ b, S b → Sn S w w' b := fun b hb => Sn.old hS hz hb
  have hA' : ∀ b, Bk A' b → Sn S w w' b := fun b hb => ⟨hor.elim (fun e => .inl (h.el.own b (by rw [← e]; exact hb))) (fun e => .inr (e b hb)), hrn.lt hb⟩
  refine ⟨fun b hb => hb.2, ⟨?_, ⟨?_, hA', fun m hm => ?_⟩, (h.ew.fr7 h.box h.el.rn hH (fun b hb hb' => h.apart b hb' hb)).wid hold, ?_, ?_, ?_, hold X h.own, by rw [hn]; exact h.n2⟩, hH.mono (fun b hb => hb.elim (fun e => by rw [e]; exact h.own) (h.el.own b))⟩
  · rw [hn, hg, List.length_append]; exact hbx
  · rw [List.length_append, List.flatMap_append]; exact hrn
  · rcases List.mem_append.1 hm with q | q
    · exact ⟨(h.el.bytes7 h.box hH m q).1, fun b hb => hold b ((h.el.b m q).2 b hb)⟩
    · exact ⟨(hps m q).1, fun b hb => ⟨(hps m q).2 b hb, (hps m q).1.lt hb⟩⟩
  · intro b hb hb'
    rcases hor with e | e
    · exact h.apart b (by rw [← e]; exact hb) hb'
    · have := e b hb
      have := hS b (h.ew.own b hb')
      omega
  · rw [hn, hg]; exact hrel
  · have := h.len
    rw [List.length_append]
    omega
end
end Go.Proofs.Ytmlmlmlbdjhfhaa
