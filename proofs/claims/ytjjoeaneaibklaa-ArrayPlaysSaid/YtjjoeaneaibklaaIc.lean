/-
  The document's drive as plain data (layer 9): events, and what comes of them; the same drive as Dv has it ('Rel'). No program.
  Where the document's drive lies in memory (layer 9): its box, its events, what waits ('Rg', 'Rf'); contracts of its New, has, Fail, Replace and Rotten. No condition but bounds.
  The document's drive (layer 9): what comes of an event that is laid behind the others; its Rot. No condition but bounds.
  The document's drive (layer 9): contracts of its Rotten and Stored. No condition but bounds.
  The document's drive (layer 9): the contract of its Stored. No condition but bounds.
  The document's drive (layer 9): contracts of its Read and Rot. No condition but bounds.
  The document's drive (layer 9): contracts of its Rot, Write, Flush and Crash. No condition but bounds.
  The document's drive (layer 9): the contract of its Rot. No condition but bounds.
-/
import Derived.Test.YtjjoeaneaibklaaIa
import Derived.Great.BuildSlice
import Derived.Test.YtjjoeaneaibklaaIb
import Derived.Deep.LoopGhost
namespace Go.Proofs.Ytjjoeaneaibklaa
open Go.RowKit Go.Proofs
set_option linter.unusedVariables false

/-- An event: a write (mask 0), or rot. -/
structure Ev where
  at_ : Nat
  b : List UInt8
  off : Nat
  mask : Nat
namespace Ev
/-- What an event does to a sector. -/
def goes (i : Nat) (b : List UInt8) (e : Ev) : List UInt8 := if e.at_ = i then (if e.mask = 0 then e.b else Dv.spoil b e.off e.mask) else b
def turns (i : Nat) (r : Bool) (e : Ev) : Bool := if e.at_ = i then decide (e.mask ≠ 0) else r
def stored (es : List Ev) (i : Nat) : List UInt8 := es.foldl (goes i) (full 0)
def rotten (es : List Ev) (i : Nat) : Bool := es.foldl (turns i) false
theorem stored_snoc (es : List Ev) (e : Ev) (i : Nat) : stored (es ++ [e]) i = goes i (stored es i) e := by rw [stored, List.foldl_append]; rfl
theorem rotten_snoc (es : List Ev) (e : Ev) (i : Nat) : rotten (es ++ [e]) i = turns i (rotten es i) e := by rw [rotten, List.foldl_append]; rfl
def wr (e : Ev) : Nat × List UInt8 := (e.at_, e.b)
/-- An event that there may be, on a drive of n sectors. -/
structure Ok (n : Nat) (e : Ev) : Prop where
  at_ : e.at_ < n
  wr : e.mask = 0 → e.b.length = 64
  rot : e.mask ≠ 0 → e.off ≤ 60 ∧ e.mask < 4294967296 ∧ e.b = []
end Ev
/-- The document's drive, and x, are the same. -/
structure Rel (x : Dv) (N : Nat) (E W : List Ev) (g : Bool) : Prop where
  n : x.n = N
  gone : x.gone = g
  ok : x.Ok
  st : g = false → ∀ i, i < N → x.st.getD i [] = Ev.stored E i
  rot : g = false → ∀ i, i < N → x.rot.getD i false = Ev.rotten E i
  wait : x.wait = W.map Ev.wr
  es : ∀ e ∈ E, e.Ok N
  ws : ∀ e ∈ W, e.Ok N ∧ e.mask = 0
section
variable {x : Dv} {n : Nat} {es ws : List Ev} {gone : Bool}
theorem Rel.new (k : Nat) : Rel (Dv.new k) k [] [] false :=
  ⟨Dv.new_n k, rfl, Dv.new_ok k, fun _ i hi => by simp [Dv.new, hi, Ev.stored], fun _ i hi => by simp [Dv.new, hi, Ev.rotten], rfl, (fun e he => by cases he), (fun e he => by cases he)⟩
theorem Rel.write (h : Rel x n es ws false) {i : Nat} (hi : i < n) {l : List UInt8} (hl : l.length = 64) : Rel (x.write (i : Int) l) n es (ws ++ [⟨i, l, 0, 0⟩]) false := by
  have hz : x.has (i : Int) := by unfold Dv.has; have := h.n; omega
  have ho := h.ok.write (i : Int) l
  rw [Dv.write_yes h.gone hz hl] at ho ⊢
  refine ⟨h.n, h.gone, ho, h.st, h.rot, ?_, h.es, fun e he => ?_⟩
  · show x.wait ++ [((i : Int).toNat, l)] = _
    rw [h.wait, List.map_append, Int.toNat_natCast]
    rfl
  · rcases List.mem_append.1 he with he | he
    · exact h.ws e he
    · have : e = ⟨i, l, 0, 0⟩ := by simpa using he
      subst this
      exact ⟨⟨hi, fun _ => hl, fun h => absurd rfl h⟩, rfl⟩
theorem getD_set {α : Type} {l : List α} {i j : Nat} {a d : α} (hi : i < l.length) : (l.set i a).getD j d = if i = j then a else l.getD j d := by
  rw [List.getD_eq_getElem?_getD, List.getElem?_set]
  by_cases he : i = j
  · rw [if_pos he, if_pos he, if_pos hi]; rfl
  · rw [if_neg he, if_neg he, ← List.getD_eq_getElem?_getD]
/-- A write that is stored. -/
theorem Rel.put (h : Rel x n es ws false) {e : Ev} (he : e.Ok n) (h0 : e.mask = 0) : Rel (x.put e.wr) n (es ++ [e]) ws false := by
  have hn := h.n
  have hst := (h.ok.live h.gone).1
  have hrt : x.rot.length = x.n := rfl
  refine ⟨by rw [Dv.put_n]; exact hn, h.gone, h.ok.put ⟨by rw [hn]; exact he.at_, he.wr h0⟩, fun _ i hi => ?_, fun _ i hi => ?_, h.wait, fun e' he' => ?_, h.ws⟩
  · rw [Ev.stored_snoc, Ev.goes, if_pos h0, ← h.st rfl i hi]
    exact getD_set (by have := he.at_; show e.at_ < _; omega)
  · rw [Ev.rotten_snoc, Ev.turns, decide_eq_false (fun hh => hh h0), ← h.rot rfl i hi]
    exact getD_set (by have := he.at_; show e.at_ < _; omega)
  · rcases List.mem_append.1 he' with q | q
    · exact h.es e' q
    · have : e' = e := by simpa using q
      rw [this]; exact he
theorem Rel.puts : ∀ (ps : List Ev) {x : Dv} {es : List Ev}, Rel x n es ws false → (∀ e ∈ ps, e.Ok n ∧ e.mask = 0) → Rel (x.puts (ps.map Ev.wr)) n (es ++ ps) ws false
  | [], x, es, h, _ => by rw [List.append_nil]; exact h
  | e :: ps, x, es, h, hp => by
    have h1 := h.put (hp e List.mem_cons_self).1 (hp e List.mem_cons_self).2
    have := Rel.puts ps h1 fun e' he' => hp e' (List.mem_cons_of_mem _ he')
    rwa [List.append_assoc] at this
theorem Rel.quiet (h : Rel x n es ws gone) : Rel x.quiet n es [] gone := ⟨h.n, h.gone, h.ok.quiet, h.st, h.rot, rfl, h.es, (fun e he => by cases he)⟩
theorem kept_map {α β : Type} (f : α → β) : ∀ (l : List α) (ks : List Bool), Dv.kept (l.map f) ks = (Dv.kept l ks).map f
  | [], ks => by cases ks <;> rfl
  | a :: l, [] => rfl
  | a :: l, k :: ks => by
    show (if k = true then f a :: Dv.kept (l.map f) ks else Dv.kept (l.map f) ks) = (if k = true then a :: Dv.kept l ks else Dv.kept l ks).map f
    rw [kept_map f l ks]
    split <;> rfl
theorem Rel.flush (h : Rel x n es ws false) : Rel x.flush1 n (es ++ ws) [] false := by
  have e : x.flush1 = x.flush := by rw [Dv.flush1, if_neg (by rw [h.gone]; decide)]
  rw [e]
  have := (Rel.puts ws h h.ws).quiet
  rw [← h.wait] at this
  exact this
theorem Rel.dead (h : Rel x n es ws true) : ws = [] := by
  have := h.ok.dead h.gone
  rw [h.wait] at this
  simpa using this
theorem Rel.crash (h : Rel x n es ws gone) (ks : List Bool) : Rel (x.crash ks) n (es ++ Dv.kept ws ks) [] gone := by
  cases gone
  · have := (Rel.puts (Dv.kept ws ks) h fun e he => h.ws e (Dv.kept_mem he)).quiet
    rw [← kept_map, ← h.wait] at this
    exact this
  · have h0 := h.dead
    subst h0
    have e : Dv.kept ([] : List Ev) ks = [] := by cases ks <;> rfl
    have e' : Dv.kept ([] : List (Nat × List UInt8)) ks = [] := by cases ks <;> rfl
    have hw : x.wait = [] := h.wait
    have hx : x.crash ks = x.quiet := by rw [Dv.crash, hw, e']; rfl
    rw [e, hx, List.append_nil]
    exact h.quiet
theorem Rel.fail (h : Rel x n es ws gone) : Rel x.fail n [] [] true := ⟨by rw [← h.n]; simp [Dv.n, Dv.fail], rfl, Dv.Ok.fail x, (fun h => by cases h), (fun h => by cases h), rfl, (fun e he => by cases he), (fun e he => by cases he)⟩
theorem Rel.replace (h : Rel x n es ws gone) : Rel x.replace n [] [] false := by
  rw [Dv.replace, h.n]
  exact Rel.new n
theorem Rel.rotAt (h : Rel x n es ws false) {i o m : Nat} (hi : i < n) (ho : o ≤ 60) (hm : m ≠ 0) (h32 : m < 4294967296) (hx : x.rotX (i : Int) (o : Int) (m : Int) = 0) : Rel (x.rot1 (i : Int) (o : Int) (m : Int)) n (es ++ [⟨i, [], o, m⟩]) ws false := by
  have hok := h.ok.rot1 (i : Int) (o : Int) (m : Int)
  have e : x.rot1 (i : Int) (o : Int) (m : Int) = x.rotAt i o m := by rw [Dv.rot1, if_pos hx]; simp
  rw [e] at hok ⊢
  have hn := h.n
  have hst := (h.ok.live h.gone).1
  have hrt : x.rot.length = x.n := rfl
  refine ⟨?_, h.gone, hok, fun _ k hk => ?_, fun _ k hk => ?_, h.wait, fun e' he' => ?_, h.ws⟩
  · rw [← hn]; simp [Dv.n, Dv.rotAt]
  · rw [Ev.stored_snoc, Ev.goes]
    show (x.st.set i (Dv.spoil (x.st.getD i []) o m)).getD k [] = _
    rw [getD_set (by omega), if_neg hm]
    by_cases he : i = k
    · subst he
      rw [if_pos rfl, if_pos rfl, h.st rfl i hi]
    · rw [if_neg he, if_neg he, h.st rfl k hk]
  · rw [Ev.rotten_snoc, Ev.turns, decide_eq_true hm]
    show (x.rot.set i true).getD k false = _
    rw [getD_set (by omega), h.rot rfl k hk]
  · rcases List.mem_append.1 he' with q | q
    · exact h.es e' q
    · have : e' = ⟨i, [], o, m⟩ := by simpa using q
      subst this
      exact ⟨hi, fun h => absurd h hm, fun _ => ⟨ho, h32, rfl⟩⟩
/-- The last write that waits, from behind. -/
theorem lastW_wr : ∀ (ws : List Ev) (i : Nat), Dv.lastW (ws.map Ev.wr) i = (ws.reverse.find? fun e => decide (e.at_ = i)).map (·.b)
  | [], _ => rfl
  | e :: ws, i => by
    show (match Dv.lastW (ws.map Ev.wr) i with | some b => some b | none => if e.at_ = i then some e.b else none) = _
    rw [lastW_wr ws i, List.reverse_cons, List.find?_append]
    cases hq : ws.reverse.find? fun e => decide (e.at_ = i) with
    | some e' => rfl
    | none =>
      by_cases he : e.at_ = i
      · simp [he]
      · simp [he]
end
end Go.Proofs.Ytjjoeaneaibklaa

namespace Go.Proofs.Ytjjoeaneaibklaa
open Go.RowKit Go.Proofs
set_option linter.unusedVariables false

/-- An event in memory. -/
structure Em where
  ev : Ev
  A : Option Addr
  c : Nat
def emc (m : Em) : List Value := [.int .i64 (m.ev.at_ : Int), .slice m.A m.ev.b.length m.c, .int .i64 (m.ev.off : Int), .int .u32 (m.ev.mask : Int)]
theorem emc_len (m : Em) : (emc m).length = 4 := rfl
theorem emc_one (m : Em) : ∀ v ∈ emc m, v.oneCell' = true := by
  intro v hv
  simp only [emc, List.mem_cons, List.not_mem_nil, or_false] at hv
  rcases hv with rfl | rfl | rfl | rfl <;> rfl
theorem Rn.ne {w : World} {A A' : Option Addr} {T T' : TypeId} {k k' n n' c c' : Nat} {xs ys : List Value} (h : Rn w A T k n c xs) (h' : Rn w A' T' k' n' c' ys) (hT : T ≠ T') {b : Nat} (hb : Bk A b) : ¬ Bk A' b := by
  intro hb'
  obtain ⟨o, ho⟩ := hb
  obtain ⟨o', ho'⟩ := hb'
  rcases h with ⟨_, hA, _⟩ | ⟨g, hA, hr⟩
  · rw [hA] at ho; cases ho
  · rcases h' with ⟨_, hA', _⟩ | ⟨g', hA', hr'⟩
    · rw [hA'] at ho'; cases ho'
    · rw [hA] at ho
      rw [hA'] at ho'
      injection ho with ho
      injection ho with ho _
      injection ho' with ho'
      injection ho' with ho' _
      obtain ⟨cur, h1, _⟩ := hr.ex
      obtain ⟨cur', h2, _⟩ := hr'.ex
      rw [ho] at h1
      rw [ho', h1] at h2
      injection h2 with h2
      injection h2 with _ h2
      exact hT h2
/-- Events in memory; S: blocks of the drive's own. -/
structure Evs (w : World) (S : Nat → Prop) (A : Option Addr) (c : Nat) (ms : List Em) : Prop where
  rn : Rn w A 115 4 ms.length c (ms.flatMap emc)
  own : ∀ b, Bk A b → S b
  b : ∀ m ∈ ms, Rn w m.A 5 1 m.ev.b.length m.c (cells m.ev.b) ∧ ∀ b, Bk m.A b → S b
section
variable {w w' : World} {S S' T : Nat → Prop} {A : Option Addr} {c : Nat} {ms : List Em}
theorem Evs.fr (h : Evs w S A c ms) (hf : Fr T w w') (hT : ∀ b, S b → ¬ T b) : Evs w' S A c ms :=
  ⟨h.rn.fr hf (fun b hb => hT b (h.own b hb)), h.own, fun m hm => ⟨(h.b m hm).1.fr hf (fun b hb => hT b ((h.b m hm).2 b hb)), (h.b m hm).2⟩⟩
theorem Evs.wid (h : Evs w S A c ms) (hS : ∀ b, S b → S' b) : Evs w S' A c ms := ⟨h.rn, fun b hb => hS b (h.own b hb), fun m hm => ⟨(h.b m hm).1, fun b hb => hS b ((h.b m hm).2 b hb)⟩⟩
theorem Evs.nil (w : World) (S : Nat → Prop) : Evs w S none 0 [] := ⟨.inl ⟨rfl, rfl, rfl, rfl⟩, (fun b hb => by obtain ⟨o, hb⟩ := hb; cases hb), (fun m hm => by cases hm)⟩
/-- Other blocks have turned: of those of events' type at most those of another slice. -/
theorem Evs.frB (h : Evs w S A c ms) {A' : Option Addr} {c' n' : Nat} {xs : List Value} (h' : Rn w A' 115 4 n' c' xs) (hf : Fr (Bk A') w w') (hA : ∀ b, Bk A b → ¬ Bk A' b) : Evs w' S A c ms :=
  ⟨h.rn.fr hf hA, h.own, fun m hm => ⟨(h.b m hm).1.fr hf (fun b hb => (h.b m hm).1.ne h' (by decide) hb), (h.b m hm).2⟩⟩
/-- The bytes of events, behind an append onto their own slice. -/
theorem Evs.bytes (h : Evs w S A c ms) (hf : Fr (Bk A) w w') : ∀ m ∈ ms, Rn w' m.A 5 1 m.ev.b.length m.c (cells m.ev.b) ∧ ∀ b, Bk m.A b → S b := fun m hm =>
  ⟨(h.b m hm).1.fr hf (fun b hb => (h.b m hm).1.ne h.rn (by decide) hb), (h.b m hm).2⟩
end

/-- Where the document's drive lies. -/
structure Rg (w : World) (S : Nat → Prop) (X k : Nat) (x : Dv) (AL : Option Addr) (cL : Nat) (ls : List Em) (AW : Option Addr) (cW : Nat) (ws : List Em) : Prop where
  box : w.heap[X]? = some (.cells #[.int .i64 (x.n : Int), .slice AL ls.length cL, .slice AW ws.length cW, .bool x.gone] 79 (0, 0))
  el : Evs w S AL cL ls
  ew : Evs w S AW cW ws
  apart : ∀ b, Bk AL b → ¬ Bk AW b
  rel : Rel x x.n (ls.map Em.ev) (ws.map Em.ev) x.gone
  len : ls.length + ws.length ≤ k
  own : S X
  n2 : x.n ≤ 600
/-- A document's drive that reads as x, with at most k events; S: its own blocks. -/
def Rf (w : World) (S : Nat → Prop) (X k : Nat) (x : Dv) : Prop := (∀ b, S b → b < w.heap.size) ∧ ∃ AL cL ls AW cW ws, Rg w S X k x AL cL ls AW cW ws
def MutR (S : Nat → Prop) (X k : Nat) (y : Dv) (w w' : World) : Prop := ∃ S', Rf w' S' X k y ∧ Fr S w w' ∧ ∀ b, S' b → S b ∨ w.heap.size ≤ b
section
variable {w w' : World} {S T : Nat → Prop} {X k : Nat} {x y : Dv} {AL AW : Option Addr} {cL cW : Nat} {ls ws : List Em}
theorem Rg.fr (h : Rg w S X k x AL cL ls AW cW ws) (hf : Fr T w w') (hT : ∀ b, S b → ¬ T b) : Rg w' S X k x AL cL ls AW cW ws :=
  ⟨hf.row_some h.box (hT X h.own), h.el.fr hf hT, h.ew.fr hf hT, h.apart, h.rel, h.len, h.own, h.n2⟩
theorem Rf.fr (h : Rf w S X k x) (hf : Fr T w w') (hT : ∀ b, S b → ¬ T b) : Rf w' S X k x := by
  obtain ⟨hS, AL, cL, ls, AW, cW, ws, hg⟩ := h
  exact ⟨fun b hb => Nat.lt_of_lt_of_le (hS b hb) hf.size, AL, cL, ls, AW, cW, ws, hg.fr hf hT⟩
theorem Rg.later (h : Rg w S X k x AL cL ls AW cW ws) (hb : Below w.heap.size w w') : Rg w' S X k x AL cL ls AW cW ws := h.fr (Fr.of_below hb : Fr (fun _ => False) _ _) (fun _ _ h => h)
theorem Rf.mono (h : Rf w S X k x) {k' : Nat} (hk : k ≤ k') : Rf w S X k' x := by
  obtain ⟨hS, AL, cL, ls, AW, cW, ws, hg⟩ := h
  exact ⟨hS, AL, cL, ls, AW, cW, ws, hg.box, hg.el, hg.ew, hg.apart, hg.rel, Nat.le_trans hg.len hk, hg.own, hg.n2⟩
theorem Rg.c0 (h : Rg w S X k x AL cL ls AW cW ws) : w.cell? ⟨X, 0, none⟩ = some (.int .i64 (x.n : Int)) := by rw [cell_of_row _ _ _ _ _ _ h.box]; rfl
theorem Rg.c1 (h : Rg w S X k x AL cL ls AW cW ws) : w.cell? ⟨X, 1, none⟩ = some (.slice AL ls.length cL) := by rw [cell_of_row _ _ _ _ _ _ h.box]; rfl
theorem Rg.c2 (h : Rg w S X k x AL cL ls AW cW ws) : w.cell? ⟨X, 2, none⟩ = some (.slice AW ws.length cW) := by rw [cell_of_row _ _ _ _ _ _ h.box]; rfl
theorem Rg.c3 (h : Rg w S X k x AL cL ls AW cW ws) : w.cell? ⟨X, 3, none⟩ = some (.bool x.gone) := by rw [cell_of_row _ _ _ _ _ _ h.box]; rfl
theorem Rg.free (h : Rg w S X k x AL cL ls AW cW ws) (j : Nat) : w.frozen? ⟨X, j, none⟩ = false := frozen_of_row _ _ _ _ _ h.box
/-- The box is no events' block, and no bytes' block. -/
theorem Rn.neX {A : Option Addr} {T : TypeId} {q n c : Nat} {xs : List Value} {cs : Array Value} (h : Rn w A T q n c xs) (hb : w.heap[X]? = some (.cells cs 79 (0, 0))) (hT : T ≠ 79) : ¬ Bk A X := by
  intro ⟨o, ho⟩
  rcases h with ⟨_, hA, _⟩ | ⟨g, hA, hr⟩
  · rw [hA] at ho; cases ho
  · rw [hA] at ho
    injection ho with ho
    injection ho with ho _
    obtain ⟨cur, h1, _⟩ := hr.ex
    rw [ho, hb] at h1
    injection h1 with h1
    injection h1 with _ h1
    exact hT h1.symm
/-- A cell of an event. -/
theorem Evs.cell {A : Option Addr} {c i : Nat} {ms : List Em} {m : Em} (h : Evs w S A c ms) (hm : ms[i]? = some m) : ∃ g, A = some ⟨g, 0, none⟩ ∧ w.cell? ⟨g, i * 4, none⟩ = some (.int .i64 (m.ev.at_ : Int)) ∧ w.cell? ⟨g, i * 4 + 1, none⟩ = some (.slice m.A m.ev.b.length m.c) ∧ w.cell? ⟨g, i * 4 + 2, none⟩ = some (.int .i64 (m.ev.off : Int)) ∧ w.cell? ⟨g, i * 4 + 3, none⟩ = some (.int .u32 (m.ev.mask : Int)) ∧ w.rangeAt g (i * 4) (emc m) := by
  have hi := (List.getElem?_eq_some_iff.1 hm).1
  rcases h.rn with ⟨h0, _⟩ | ⟨g, hA, hr⟩
  · omega
  · have hx : ∀ j, j < 4 → (ms.flatMap emc)[i * 4 + j]? = (emc m)[j]? := fun j hj => flat_get emc_len hm j hj
    exact ⟨g, hA, hr.cell (hx 0 (by decide)), hr.cell (hx 1 (by decide)), hr.cell (hx 2 (by decide)), hr.cell (hx 3 (by decide)), hr.range (fun j hj => hx j hj)⟩

set_option maxRecDepth 20000
set_option maxHeartbeats 800000
/-- What the document's New answers. -/
def RetNewR (n : Nat) (w : World) (e : Ending) (w' : World) : Prop := ∃ X S, e = .returned (.pointer (some ⟨X, 0, none⟩)) ∧ Rf w' S X 0 (Dv.new n) ∧ Below w.heap.size w w' ∧ ∀ b, S b → w.heap.size ≤ b
theorem rfnew_yes (n : Nat) (w : World) (h1 : 1 ≤ n) (h2 : n ≤ 600) : Calls Try.prog 33 #[.int .i64 (n : Int)] w (RetNewR n w) := by
  have q1 : ¬ (n : Int) < 1 := by omega
  have q2 : ¬ (600 : Int) < (n : Int) := by omega
  go_enter Try.func33, Try.ntmps33
  go_wp2_with fail
  go_ret
  refine ⟨w.heap.size, fun b => b = w.heap.size, rfl, ⟨fun b hb => by rw [hb]; simp, none, 0, [], none, 0, [], ?_, Evs.nil _ _, Evs.nil _ _, (fun b hb => by obtain ⟨o, hb⟩ := hb; cases hb), ?_, Nat.le_refl _, rfl, by rw [Dv.new_n]; exact h2⟩, (Below.refl _ _).alloc (Nat.le_refl _) _, fun b hb => by rw [hb]; exact Nat.le_refl _⟩
  · rw [Dv.new_n]
    exact heap_alloc_new w _
  · rw [Dv.new_n]
    exact Rel.new n
theorem rfhas_any (z : Int) (h1 : -9223372036854775808 ≤ z) (h2 : z < 9223372036854775808) (h : Rg w S X k x AL cL ls AW cW ws) : Calls Try.prog 77 #[.pointer (some ⟨X, 0, none⟩), .int .i64 z] w fun e w' => e = .returned (.bool (decide (x.has z))) ∧ w' = w := by
  have c0 := h.c0
  by_cases q1 : z < 0
  · rw [decide_eq_false (fun hh => by unfold Dv.has at hh; omega)]
    go_enter Try.func77, Try.ntmps77
    go_wp2_with fail
    go_ret
    exact ⟨rfl, rfl⟩
  · have q0 : 0 ≤ z := by omega
    by_cases q2 : z < (x.n : Int)
    · rw [decide_eq_true (by unfold Dv.has; omega)]
      obtain ⟨n, hxn⟩ : ∃ n, n = x.n := ⟨_, rfl⟩
      rw [← hxn] at c0 q2
      clear hxn q1
      go_enter Try.func77, Try.ntmps77
      go_wp2_with fail
      go_ret
      exact ⟨rfl, rfl⟩
    · rw [decide_eq_false (fun hh => by unfold Dv.has at hh; omega)]
      obtain ⟨n, hxn⟩ : ∃ n, n = x.n := ⟨_, rfl⟩
      rw [← hxn] at c0 q2
      clear hxn q1
      go_enter Try.func77, Try.ntmps77
      go_wp2_with fail
      go_ret
      exact ⟨rfl, rfl⟩
/-- Fail and Replace: what was there is gone. -/
theorem Rg.anew {w' : World} (h : Rg w S X k x AL cL ls AW cW ws) (hS : ∀ b, S b → b < w.heap.size) (hb : w'.heap[X]? = some (.cells #[.int .i64 (y.n : Int), .slice none 0 0, .slice none 0 0, .bool y.gone] 79 (0, 0))) (hf : Fr (fun b => b = X) w w') (hr : Rel y y.n [] [] y.gone) (hn : y.n = x.n) : MutR S X k y w w' :=
  ⟨S, ⟨fun b hb => Nat.lt_of_lt_of_le (hS b hb) hf.size, none, 0, [], none, 0, [], hb, Evs.nil _ _, Evs.nil _ _, (fun b hb => by obtain ⟨o, hb⟩ := hb; cases hb), hr, Nat.zero_le _, h.own, by rw [hn]; exact h.n2⟩, hf.mono fun b hb => by rw [hb]; exact h.own, fun b hb => .inl hb⟩
theorem rffail_any (h : Rf w S X k x) : Calls Try.prog 72 #[.pointer (some ⟨X, 0, none⟩)] w fun e w' => e = .returned (.tuple #[]) ∧ MutR S X k x.fail w w' := by
  obtain ⟨hS, AL, cL, ls, AW, cW, ws, hg⟩ := h
  have c1 := hg.c1
  have c2 := hg.c2
  have c3 := hg.c3
  have f1 := hg.free 1
  have f2 := hg.free 2
  have f3 := hg.free 3
  have HG := Lib.hid hg
  have HS := Lib.hid hS
  clear hg hS
  go_enter Try.func72, Try.ntmps72
  go_wp2_with fail
  go_end0
  have hn : x.fail.n = x.n := by simp [Dv.fail, Dv.n]
  refine ⟨rfl, HG.out.anew HS.out ?_ ((((Fr.refl (fun b => b = X) _).setCell (p := ⟨X, 3, none⟩) (.inr rfl) _).setCell (p := ⟨X, 1, none⟩) (.inr rfl) _).setCell (p := ⟨X, 2, none⟩) (.inr rfl) _) (by rw [hn]; exact HG.out.rel.fail) hn⟩
  rw [hn]
  exact heap_setCell_same _ X 2 _ _ _ (heap_setCell_same _ X 1 _ _ _ (heap_setCell_same w X 3 _ _ _ HG.out.box))
theorem rfreplace_any (h : Rf w S X k x) : Calls Try.prog 73 #[.pointer (some ⟨X, 0, none⟩)] w fun e w' => e = .returned (.tuple #[]) ∧ MutR S X k x.replace w w' := by
  obtain ⟨hS, AL, cL, ls, AW, cW, ws, hg⟩ := h
  have c1 := hg.c1
  have c2 := hg.c2
  have c3 := hg.c3
  have f1 := hg.free 1
  have f2 := hg.free 2
  have f3 := hg.free 3
  have HG := Lib.hid hg
  have HS := Lib.hid hS
  clear hg hS
  go_enter Try.func73, Try.ntmps73
  go_wp2_with fail
  go_end0
  have hn : x.replace.n = x.n := Dv.new_n _
  refine ⟨rfl, HG.out.anew HS.out ?_ ((((Fr.refl (fun b => b = X) _).setCell (p := ⟨X, 3, none⟩) (.inr rfl) _).setCell (p := ⟨X, 1, none⟩) (.inr rfl) _).setCell (p := ⟨X, 2, none⟩) (.inr rfl) _) (by rw [hn]; exact HG.out.rel.replace) hn⟩
  rw [hn]
  exact heap_setCell_same _ X 2 _ _ _ (heap_setCell_same _ X 1 _ _ _ (heap_setCell_same w X 3 _ _ _ HG.out.box))
end
end Go.Proofs.Ytjjoeaneaibklaa

namespace Go.Proofs.Ytjjoeaneaibklaa
open Go.RowKit Go.Proofs
set_option linter.unusedVariables false

theorem infoE9 : (Try.prog.info? 115).map (fun i => (i.zero, i.size, i.bytes)) = some (some (.agg #[.int .i64 0, .slice none 0 0, .int .i64 0, .int .u32 0]), 4, 48) := by kernel_rfl
theorem fillE9 (v0 v1 v2 v3 : Value) : Instr.fill (fun i => some (i * 4, 4)) ((Array.range (1 * 4)).map ((Value.agg #[.int .i64 0, .slice none 0 0, .int .i64 0, .int .u32 0]).cells[· % (Value.agg #[.int .i64 0, .slice none 0 0, .int .i64 0, .int .u32 0]).cells.size]!)) [(0, .agg #[v0, v1, v2, v3])] = some #[v0, v1, v2, v3] := by kernel_rfl
theorem fillE9a {v0 v1 v2 v3 : Value} (a : Act) (x : Operand) (h : a.eval x = .agg #[v0, v1, v2, v3]) : Instr.fill (fun i => some (i * 4, 4)) ((Array.range (1 * 4)).map ((Value.agg #[.int .i64 0, .slice none 0 0, .int .i64 0, .int .u32 0]).cells[· % (Value.agg #[.int .i64 0, .slice none 0 0, .int .i64 0, .int .u32 0]).cells.size]!)) (Array.map (fun (i, x) => (i, a.eval x)) #[((0 : Nat), x)]).toList = some #[v0, v1, v2, v3] := by
  have e : (Array.map (fun (i, x) => (i, a.eval x)) #[((0 : Nat), x)]).toList = [(0, a.eval x)] := by simp
  rw [e, h]
  exact fillE9 _ _ _ _
section
variable {w w' : World} {S : Nat → Prop} {X k : Nat} {x : Dv} {AL AW A A' : Option Addr} {cL cW c c' n' : Nat} {ls ws ms : List Em} {xs : List Value}
/-- Append onto another slice, and a store into the box, leave events as they are. -/
theorem Evs.fr7 {cs : Array Value} (h : Evs w S A c ms) (hb : w.heap[X]? = some (.cells cs 79 (0, 0))) (h' : Rn w A' 115 4 n' c' xs) (hf : Fr (Bk7 X A') w w') (hA : ∀ b, Bk A b → ¬ Bk A' b) : Evs w' S A c ms :=
  ⟨h.rn.fr hf (fun b hb' hk => hk.elim (fun e => h.rn.neX hb (by decide) (by rw [← e]; exact hb')) (hA b hb')), h.own, fun m hm => ⟨(h.b m hm).1.fr hf (fun b hb' hk => hk.elim (fun e => (h.b m hm).1.neX hb (by decide) (by rw [← e]; exact hb')) ((h.b m hm).1.ne h' (by decide) hb')), (h.b m hm).2⟩⟩
theorem Evs.bytes7 {cs : Array Value} (h : Evs w S A c ms) (hb : w.heap[X]? = some (.cells cs 79 (0, 0))) (hf : Fr (Bk7 X A) w w') : ∀ m ∈ ms, Rn w' m.A 5 1 m.ev.b.length m.c (cells m.ev.b) ∧ ∀ b, Bk m.A b → S b := fun m hm =>
  ⟨(h.b m hm).1.fr hf (fun b hb' hk => hk.elim (fun e => (h.b m hm).1.neX hb (by decide) (by rw [← e]; exact hb')) ((h.b m hm).1.ne h.rn (by decide) hb')), (h.b m hm).2⟩
/-- The blocks that are the drive's behind a call. -/
def Sn (S : Nat → Prop) (w w' : World) : Nat → Prop := fun b => (S b ∨ w.heap.size ≤ b) ∧ b < w'.heap.size
theorem Sn.old (hS : ∀ b, S b → b < w.heap.size) (hs : w.heap.size ≤ w'.heap.size) {b : Nat} (hb : S b) : Sn S w w' b := ⟨.inl hb, Nat.lt_of_lt_of_le (hS b hb) hs⟩
/-- Events laid behind those that wait. -/
theorem Rg.moreW {y : Dv} {ps : List Em} (h : Rg w S X k x AL cL ls AW cW ws) (hS : ∀ b, S b → b < w.heap.size) (hH : Fr (Bk7 X AW) w w')
    (hbx : w'.heap[X]? = some (.cells #[.int .i64 (x.n : Int), .slice AL ls.length cL, .slice A' (ws.length + ps.length) c', .bool x.gone] 79 (0, 0)))
    (hrn : Rn w' A' 115 4 (ws.length + ps.length) c' (ws.flatMap emc ++ ps.flatMap emc)) (hor : A' = AW ∨ ∀ b, Bk A' b → w.heap.size ≤ b)
    (hps : ∀ m ∈ ps, Rn w' m.A 5 1 m.ev.b.length m.c (cells m.ev.b) ∧ ∀ b, Bk m.A b → S b ∨ w.heap.size ≤ b)
    (hn : y.n = x.n) (hg : y.gone = x.gone) (hrel : Rel y x.n (ls.map Em.ev) ((ws ++ ps).map Em.ev) x.gone) : MutR S X (k + ps.length) y w w' := by
  have hz := hH.size
  have hold : ∀ b, S b → Sn S w w' b := fun b hb => Sn.old hS hz hb
  have hA' : ∀ b, Bk A' b → Sn S w w' b := fun b hb => ⟨hor.elim (fun e => .inl (h.ew.own b (by rw [← e]; exact hb))) (fun e => .inr (e b hb)), hrn.lt hb⟩
  refine ⟨Sn S w w', ⟨fun b hb => hb.2, AL, cL, ls, A', c', ws ++ ps, ?_, (h.el.fr7 h.box h.ew.rn hH h.apart).wid hold, ⟨?_, hA', fun m hm => ?_⟩, ?_, ?_, ?_, hold X h.own, by rw [hn]; exact h.n2⟩, hH.mono (fun b hb => hb.elim (fun e => by rw [e]; exact h.own) (h.ew.own b)), fun b hb => hb.1⟩
  · rw [hn, hg, List.length_append]; exact hbx
  · rw [List.length_append, List.flatMap_append]; exact hrn
  · rcases List.mem_append.1 hm with q | q
    · exact ⟨(h.ew.bytes7 h.box hH m q).1, fun b hb => hold b ((h.ew.b m q).2 b hb)⟩
    · exact ⟨(hps m q).1, fun b hb => ⟨(hps m q).2 b hb, (hps m q).1.lt hb⟩⟩
  · intro b hb hb'
    rcases hor with e | e
    · exact h.apart b hb (by rw [← e]; exact hb')
    · have := e b hb'
      have := hS b (h.el.own b hb)
      omega
  · rw [hn, hg]; exact hrel
  · have := h.len
    rw [List.length_append]
    omega
/-- Events laid behind those that are stored. -/
theorem Rg.moreL {y : Dv} {ps : List Em} (h : Rg w S X k x AL cL ls AW cW ws) (hS : ∀ b, S b → b < w.heap.size) (hH : Fr (Bk7 X AL) w w')
    (hbx : w'.heap[X]? = some (.cells #[.int .i64 (x.n : Int), .slice A' (ls.length + ps.length) c', .slice AW ws.length cW, .bool x.gone] 79 (0, 0)))
    (hrn : Rn w' A' 115 4 (ls.length + ps.length) c' (ls.flatMap emc ++ ps.flatMap emc)) (hor : A' = AL ∨ ∀ b, Bk A' b → w.heap.size ≤ b)
    (hps : ∀ m ∈ ps, Rn w' m.A 5 1 m.ev.b.length m.c (cells m.ev.b) ∧ ∀ b, Bk m.A b → S b ∨ w.heap.size ≤ b)
    (hn : y.n = x.n) (hg : y.gone = x.gone) (hrel : Rel y x.n ((ls ++ ps).map Em.ev) (ws.map Em.ev) x.gone) :
    (∀ b, Sn S w w' b → b < w'.heap.size) ∧ Rg w' (Sn S w w') X (k + ps.length) y A' c' (ls ++ ps) AW cW ws ∧ Fr S w w' := by
  have hz := hH.size
  have hold : ∀ b, S b → Sn S w w' b := fun b hb => Sn.old hS hz hb
  have hA' : ∀ b, Bk A' b → Sn S w w' b := fun b hb => ⟨hor.elim (fun e => .inl (h.el.own b (by rw [← e]; exact hb))) (fun e => .inr (e b hb)), hrn.lt hb⟩
  refine ⟨fun b hb => hb.2, ⟨?_, ⟨?_, hA', fun m hm => ?_⟩, (h.ew.fr7 h.box h.el.rn hH (fun b hb hb' => h.apart b hb' hb)).wid hold, ?_, ?_, ?_, hold X h.own, by rw [hn]; exact h.n2⟩, hH.mono (fun b hb => hb.elim (fun e => by rw [e]; exact h.own) (h.el.own b))⟩
  · rw [hn, hg, List.length_append]; exact hbx
  · rw [List.length_append, List.flatMap_append]; exact hrn
  · rcases List.mem_append.1 hm with q | q
    · exact ⟨(h.el.bytes7 h.box hH m q).1, fun b hb => hold b ((h.el.b m q).2 b hb)⟩
    · exact ⟨(hps m q).1, fun b hb => ⟨(hps m q).2 b hb, (hps m q).1.lt hb⟩⟩
  · intro b hb hb'
    rcases hor with e | e
    · exact h.apart b (by rw [← e]; exact hb) hb'
    · have := e b hb
      have := hS b (h.ew.own b hb')
      omega
  · rw [hn, hg]; exact hrel
  · have := h.len
    rw [List.length_append]
    omega
end
end Go.Proofs.Ytjjoeaneaibklaa

namespace Go.Proofs.Ytjjoeaneaibklaa
open Go.RowKit Go.Proofs
set_option linter.unusedVariables false

namespace Ev
/-- The same of any number, also of one that no sector has. -/
def turnsZ (z : Int) (r : Bool) (e : Ev) : Bool := if (e.at_ : Int) = z then decide (e.mask ≠ 0) else r
def rotZ (es : List Ev) (z : Int) : Bool := es.foldl (turnsZ z) false
theorem rotZ_snoc (es : List Ev) (e : Ev) (z : Int) : rotZ (es ++ [e]) z = turnsZ z (rotZ es z) e := by rw [rotZ, List.foldl_append]; rfl
theorem rotZ_nat (es : List Ev) (i : Nat) : rotZ es (i : Int) = rotten es i := by
  have : turnsZ (i : Int) = turns i := by
    funext r e
    unfold turnsZ turns
    by_cases h : e.at_ = i
    · rw [if_pos h, if_pos (by omega)]
    · rw [if_neg h, if_neg (by omega)]
  rw [rotZ, this]
  rfl
theorem rotZ_no {n : Nat} {z : Int} (hz : ¬ (0 ≤ z ∧ z < (n : Int))) : ∀ (es : List Ev), (∀ e ∈ es, e.Ok n) → rotZ es z = false := by
  intro es h
  have : ∀ (es : List Ev) (r : Bool), (∀ e ∈ es, e.Ok n) → es.foldl (turnsZ z) r = r := by
    intro es
    induction es with
    | nil => intro r _; rfl
    | cons e es ih =>
      intro r h
      have he := (h e List.mem_cons_self).at_
      rw [List.foldl_cons, ih _ (fun e' he' => h e' (List.mem_cons_of_mem _ he')), turnsZ, if_neg (by omega)]
  exact this es false h
theorem goes_len {n i : Nat} {b : List UInt8} {e : Ev} (hb : b.length = 64) (he : e.Ok n) : (goes i b e).length = 64 := by
  unfold goes
  split
  · split
    · rename_i h; exact he.wr h
    · rw [Dv.spoil_length]; exact hb
  · exact hb
theorem stored_len {n : Nat} (i : Nat) (es : List Ev) (h : ∀ e ∈ es, e.Ok n) : (stored es i).length = 64 := by
  have : ∀ (es : List Ev) (b : List UInt8), b.length = 64 → (∀ e ∈ es, e.Ok n) → (es.foldl (goes i) b).length = 64 := by
    intro es
    induction es with
    | nil => intro b hb _; exact hb
    | cons e es ih =>
      intro b hb h
      exact ih _ (goes_len hb (h e List.mem_cons_self)) (fun e' he' => h e' (List.mem_cons_of_mem _ he'))
  exact this es _ (full_length 0) h
end Ev
section
variable {w w' : World} {S T : Nat → Prop} {X k : Nat} {x y : Dv} {AL AW : Option Addr} {cL cW : Nat} {ls ws : List Em}
theorem Rg.rottenB (h : Rg w S X k x AL cL ls AW cW ws) (hg : x.gone = false) (z : Int) : x.rottenB z = Ev.rotZ (ls.map Em.ev) z := by
  by_cases hz : x.has z
  · rw [Dv.rottenB, decide_eq_true ⟨hg, hz⟩, Bool.true_and]
    unfold Dv.has at hz
    obtain ⟨i, rfl⟩ : ∃ i : Nat, z = (i : Int) := ⟨z.toNat, by omega⟩
    rw [Int.toNat_natCast, Ev.rotZ_nat]
    exact h.rel.rot hg i (by omega)
  · rw [Dv.rottenB, decide_eq_false (fun hh => hz hh.2), Bool.false_and]
    exact (Ev.rotZ_no (n := x.n) (fun hh => hz hh) _ h.rel.es).symm
theorem evs_next {ms : List Em} {j : Nat} {m : Em} (h : ms[j]? = some m) : (ms.take (j + 1)).map Em.ev = (ms.take j).map Em.ev ++ [m.ev] := by
  rw [List.take_add_one, h, List.map_append]
  rfl
set_option maxRecDepth 20000
set_option maxHeartbeats 1600000
theorem rfrotten_any (z : Int) (h1 : -9223372036854775808 ≤ z) (h2 : z < 9223372036854775808) (hk : k ≤ 100000) (h : Rg w S X k x AL cL ls AW cW ws) : Calls Try.prog 50 #[.pointer (some ⟨X, 0, none⟩), .int .i64 z] w fun e w' => e = .returned (.bool (x.rottenB z)) ∧ w' = w := by
  have c1 := h.c1
  have c3 := h.c3
  have hll := h.len
  cases hg : x.gone
  · rw [h.rottenB hg]
    rw [hg] at c3
    obtain ⟨nl, hnl⟩ : ∃ nl, nl = ls.length := ⟨_, rfl⟩
    rw [← hnl] at c1 hll
    have HN := Lib.hid hnl
    have HG := Lib.hid h
    clear hnl h
    go_enter Try.func50, Try.ntmps50
    go_wp2_with fail
    go_loopw [5, 6] (fun v i wr => ∃ j : Nat, j ≤ nl ∧ i = .int .i64 (j : Int) ∧ v = .bool (Ev.rotZ ((ls.take j).map Em.ev) z) ∧ wr = w) (fun _ i _ => nl - (intOf i).toNat)
    case atStart => exact ⟨0, by omega, rfl, rfl, rfl⟩
    case round =>
      obtain ⟨j, hj, rfl, rfl, rfl⟩ := hrel
      obtain ⟨r, hr⟩ : ∃ r, r = Ev.rotZ ((ls.take j).map Em.ev) z := ⟨_, rfl⟩
      rw [← hr]
      have Hr := Lib.hid hr
      clear hr
      by_cases hlt : j < nl
      · have hji : (j : Int) < (nl : Int) := by omega
        obtain ⟨m, hm⟩ : ∃ m, ls[j]? = some m := ⟨_, List.getElem?_eq_getElem (by rw [← HN.out]; exact hlt)⟩
        have Hnext := Lib.hid (evs_next hm)
        obtain ⟨g, rfl, e0, e1, e2, e3, -⟩ := HG.out.el.cell hm
        obtain ⟨ev, hev⟩ : ∃ ev, ev = m.ev := ⟨_, rfl⟩
        rw [← hev] at e0 e1 e2 e3 Hnext
        clear hm hev
        by_cases hz : (ev.at_ : Int) = z
        · have Hz := Lib.hid hz
          have hzz : ((ev.at_ : Int) == z) = true := by simpa using hz
          clear hz
          by_cases hmk : ev.mask = 0
          · rw [hmk] at e3
            have Hmk := Lib.hid hmk
            clear hmk
            go_wp2_with fail
            go_roundw
            case rel => exact ⟨j + 1, by omega, by go_num, by rw [Hnext.out, Ev.rotZ_snoc, Ev.turnsZ, if_pos Hz.out, decide_eq_false (fun hh => hh Hmk.out)], by trivial⟩
            case measure => simp [intOf]; omega
          · have hmi : ((ev.mask : Int) != 0) = true := by simpa using hmk
            have Hmk := Lib.hid hmk
            clear hmk
            go_wp2_with fail
            go_roundw
            case rel => exact ⟨j + 1, by omega, by go_num, by rw [Hnext.out, Ev.rotZ_snoc, Ev.turnsZ, if_pos Hz.out, decide_eq_true Hmk.out], by trivial⟩
            case measure => simp [intOf]; omega
        · have Hz := Lib.hid hz
          have hzz : ((ev.at_ : Int) == z) = false := by simpa using hz
          clear hz
          go_wp2_with fail
          go_roundw
          case rel => exact ⟨j + 1, by omega, by go_num, by rw [Hnext.out, Ev.rotZ_snoc, Ev.turnsZ, if_neg Hz.out, ← Hr.out], by trivial⟩
          case measure => simp [intOf]; omega
      · have hji : ¬ (j : Int) < (nl : Int) := by omega
        have hall : Ev.rotZ (ls.map Em.ev) z = r := by rw [Hr.out, List.take_of_length_le (by have := HN.out; omega)]
        have Hall := Lib.hid hall
        clear hall
        go_wp2_with fail
        go_ret
        exact ⟨by rw [Hall.out]; rfl, rfl⟩
  · rw [hg] at c3
    have e1 : x.rottenB z = false := by rw [Dv.rottenB, decide_eq_false (fun hh => by rw [hg] at hh; cases hh.1), Bool.false_and]
    rw [e1]
    clear e1 h
    obtain ⟨nl, hnl⟩ : ∃ nl, nl = ls.length := ⟨_, rfl⟩
    rw [← hnl] at c1 hll
    clear hnl
    by_cases h0 : (0 : Int) < (nl : Int)
    · go_enter Try.func50, Try.ntmps50
      go_wp2_with fail
      go_loopw [5, 6] (fun v i wr => i = .int .i64 0 ∧ v = .bool false ∧ wr = w) (fun _ i _ => 0)
      case atStart => exact ⟨rfl, rfl, rfl⟩
      case round =>
        obtain ⟨rfl, rfl, rfl⟩ := hrel
        go_wp2_with fail
        go_ret
        exact ⟨rfl, rfl⟩
    · go_enter Try.func50, Try.ntmps50
      go_wp2_with fail
      go_loopw [5, 6] (fun v i wr => i = .int .i64 0 ∧ v = .bool false ∧ wr = w) (fun _ i _ => 0)
      case atStart => exact ⟨rfl, rfl, rfl⟩
      case round =>
        obtain ⟨rfl, rfl, rfl⟩ := hrel
        go_wp2_with fail
        go_ret
        exact ⟨rfl, rfl⟩
end
end Go.Proofs.Ytjjoeaneaibklaa

namespace Go.Proofs.Ytjjoeaneaibklaa
open Go.RowKit Go.Proofs
set_option linter.unusedVariables false

theorem Rw.bytes_at {w : World} {g n c : Nat} {l : List UInt8} (h : Rw w g 5 1 n c (cells l)) {j : Nat} (hj : j < n) : w.cell? ⟨g, j, none⟩ = some (.int .u8 ((l.getD j 0).toNat : Int)) := by
  have hl := h.len
  rw [cells_length] at hl
  refine h.cell ?_
  rw [cells_get _ _ (by omega), bv, List.getD_eq_getElem?_getD, List.getElem?_eq_getElem (by omega)]
  rfl
theorem Rw.bytes_set {w : World} {g n c : Nat} {l : List UInt8} (h : Rw w g 5 1 n c (cells l)) (j : Nat) (u : UInt8) : Rw (w.setCell ⟨g, j, none⟩ (.int .u8 (u.toNat : Int))) g 5 1 n c (cells (l.set j u)) := by
  have := h.put1 j (.int .u8 (u.toNat : Int))
  have e : (cells l).set j (.int .u8 (u.toNat : Int)) = cells (l.set j u) := by simp [cells, bv, List.map_set]
  rwa [e] at this
theorem noughts9 (w : World) : Rw (w.alloc (.cells (madeCells #[.int .u8 0] 64) 5)) w.heap.size 5 1 64 64 (cells (full 0)) := by
  have := Rw.new w (madeCells #[.int .u8 0] 64) 5 1 64 (by rw [size_madeCells]) (by decide)
  rw [toList_madeCells_one] at this
  exact this
theorem Rn.bytes {w : World} {A : Option Addr} {c : Nat} {l : List UInt8} (h : Rn w A 5 1 l.length c (cells l)) : Sl w 1 A l.length c (cells l) := h.sl
section
variable {w w' : World} {S T : Nat → Prop} {X k : Nat} {x y : Dv} {AL AW : Option Addr} {cL cW : Nat} {ls ws : List Em}
theorem loadE9 {w : World} {b o : Nat} {m : Em} (h : w.rangeAt b o (emc m)) : w.rangeAt b o [.int .i64 (m.ev.at_ : Int), .slice m.A m.ev.b.length m.c, .int .i64 (m.ev.off : Int), .int .u32 (m.ev.mask : Int)] := h
theorem sizeE9 (v0 v1 v2 v3 : Value) : (Try.prog.info? 115).map (·.size) = some [v0, v1, v2, v3].length := by kernel_rfl
set_option maxRecDepth 100000
set_option maxHeartbeats 4000000
/-- What the document's Stored answers. -/
def RetB9 (w : World) (l : List UInt8) (e : Ending) (w' : World) : Prop := ∃ A n c, e = .returned (.slice A n c) ∧ Sl w' 1 A n c (cells l) ∧ Below w.heap.size w w'
/-- The same, and where the bytes lie: in a block of bytes. -/
def RetB9n (w : World) (l : List UInt8) (e : Ending) (w' : World) : Prop := ∃ A n c, e = .returned (.slice A n c) ∧ Rn w' A 5 1 n c (cells l) ∧ Below w.heap.size w w'
theorem rfstored_rn (z : Int) (h1 : -9223372036854775808 ≤ z) (h2 : z < 9223372036854775808) (hk : k ≤ 100000) (h : Rg w S X k x AL cL ls AW cW ws) : Calls Try.prog 49 #[.pointer (some ⟨X, 0, none⟩), .int .i64 z] w (RetB9n w (x.storedL z)) := by
  have c3 := h.c3
  have hhas := rfhas_any z h1 h2 h
  by_cases hx : x.gone = false ∧ x.has z
  · have e2 : x.storedL z = x.st.getD z.toNat [] := by rw [Dv.storedL, if_pos hx]
    rw [e2]
    rw [decide_eq_true hx.2] at hhas
    rw [hx.1] at c3
    have hz := hx.2
    unfold Dv.has at hz
    obtain ⟨P, rfl⟩ : ∃ i : Nat, z = (i : Int) := ⟨z.toNat, by omega⟩
    have hst := h.rel.st hx.1 P (by omega)
    rw [Int.toNat_natCast, hst]
    have hll := h.len
    have hmk := make_eq (64 : Int) 64 rfl (by omega)
    obtain ⟨nl, hnl⟩ : ∃ nl, nl = ls.length := ⟨_, rfl⟩
    rw [← hnl] at hll
    have HN := Lib.hid hnl
    have HG := Lib.hid h
    obtain ⟨u0, hu0, hu1, hu2, hu3⟩ := info_parts info_u8
    have Hu0 := Lib.hid hu0
    have Hu1 := Lib.hid hu1
    have Hu2 := Lib.hid hu2
    have Hu3 := Lib.hid hu3
    clear hnl h e2 hx hz hst h1 h2 hu0 hu1 hu2 hu3
    go_enter Try.func49, Try.ntmps49
    go_wp2_with fail
    refine hhas.mono ?_; rintro e w1 ⟨rfl, hw1⟩
    obtain rfl : w = w1 := hw1.symm
    clear hhas c3
    go_wp2_with fail
    clear hmk
    go_loopw [5, 6] (fun v i wr => ∃ (j g c : Nat), j ≤ nl ∧ i = .int .i64 (j : Int) ∧ v = .slice (some ⟨g, 0, none⟩) 64 c ∧ Rw wr g 5 1 64 c (cells (Ev.stored ((ls.take j).map Em.ev) P)) ∧ w.heap.size ≤ g ∧ Below w.heap.size w wr) (fun _ i _ => nl - (intOf i).toNat)
    case atStart => exact ⟨0, w.heap.size, 64, by omega, rfl, rfl, noughts9 w, Nat.le_refl _, (Below.refl _ _).alloc (Nat.le_refl _) _⟩
    case round =>
      obtain ⟨j, g, c, hj, rfl, rfl, hr, hgs, hB⟩ := hrel
      have HR := Lib.hid hr
      have HB := Lib.hid hB
      have HGr := Lib.hid (HG.out.later hB)
      have c1 := HGr.out.c1
      rw [← HN.out] at c1
      clear hr hB
      by_cases hlt : j < nl
      · have hji : (j : Int) < (nl : Int) := by omega
        obtain ⟨m, hm⟩ : ∃ m, ls[j]? = some m := ⟨_, List.getElem?_eq_getElem (by rw [← HN.out]; exact hlt)⟩
        have Hnext := Lib.hid (evs_next hm)
        have hmb := (HGr.out.el.b m (List.mem_of_getElem? hm)).1
        have hmo := HG.out.rel.es m.ev (List.mem_map.2 ⟨m, List.mem_of_getElem? hm, rfl⟩)
        obtain ⟨ga, rfl, -, -, -, -, hrg⟩ := HGr.out.el.cell hm
        obtain ⟨ev, A, ce⟩ := m
        simp only [emc] at hrg hmb hmo Hnext
        obtain ⟨at_, eb, off, mask⟩ := ev
        simp only at hrg hmb
        have HMb := Lib.hid hmb
        have HMo := Lib.hid hmo
        have hze : (zeroValue 115).run Try.prog wr = .ok (.agg #[.int .i64 0, .slice none 0 0, .int .i64 0, .int .u32 0]) wr := by kernel_rfl
        clear hm hmb hmo
        by_cases hz : at_ = P
        · have hzz : ((at_ : Int) != (P : Int)) = false := by simp; omega
          by_cases hmk : mask = 0
          · subst hmk
            have he64 : eb.length = 64 := HMo.out.wr rfl
            rw [he64] at hrg
            rw [he64] at HMb
            have He := Lib.hid he64
            have Hz := Lib.hid hz
            have Hemp := Lib.hid (show Rw ((wr.alloc (.cells #[.int .i64 (at_ : Int), .slice A 64 ce, .int .i64 (off : Int), .int .u32 0] 115)).alloc (.cells #[] 5)) (wr.heap.size + 1) 5 1 0 0 [] by
              have := Rw.new (wr.alloc (.cells #[.int .i64 (at_ : Int), .slice A 64 ce, .int .i64 (off : Int), .int .u32 0] 115)) #[] 5 1 0 rfl (by decide)
              simpa using this)
            have Hsrc := Lib.hid (show Src Try.prog 1 40 (.slice A 64 ce) 64 (cells eb) ((wr.alloc (.cells #[.int .i64 (at_ : Int), .slice A 64 ce, .int .i64 (off : Int), .int .u32 0] 115)).alloc (.cells #[] 5)) from ((HMb.out.later ((Below.refl _ _).alloc (Nat.le_refl _) _)).later ((Below.refl _ _).alloc (Nat.le_refl _) _)).sl.src Try.underlying40 (by decide) (cells_one eb))
            clear hz he64
            go_wp2_with (first
              | (refine at_dst (d := 35) ?_; refine wpList_load_mid (op := ⟨some 35, _, _, _, _, _⟩) rfl 115 (.tmp 34) rfl ga (j * 4) rfl _ _ hrg Try.underlying115 rfl (sizeE9 _ _ _ _) ?_)
              | (at_builtin; refine wpList_append_rw (T := 5) (size := 1) (n := 0) (c := 0) (xs := []) rfl (.tmp 43) (.tmp 45) 40 40 rfl u0 (.int .u8 0) 1 Try.underlying40 Hu0.out Hu1.out Hu2.out Hu3.out rfl (by decide) rfl (.inr ⟨wr.heap.size + 1, rfl, Hemp.out⟩) (.slice A 64 ce) 64 (cells eb) rfl Hsrc.out (by decide) (by decide) (by decide) ?pd))
            intro b2 c2 w2 hr2 hf2 ho2
            have HB2 := Lib.hid (show Below wr.heap.size wr w2 from (((Below.refl _ _).alloc (Nat.le_refl _) _).alloc (by simp) _).trans (hf2.below (by simp; omega) (fun k hk => by
              obtain ⟨o, hk⟩ := hk
              injection hk with hk
              injection hk with hk _
              omega)))
            have HR2 := Lib.hid hr2
            have HG2 := Lib.hid (show w.heap.size ≤ b2 from by have := HB.out.size; omega)
            clear hr2 hf2 ho2
            go_wp2_with fail
            go_roundw
            case rel => exact ⟨j + 1, b2, c2, by omega, by go_num, rfl, by rw [Hnext.out, Ev.stored_snoc, Ev.goes, if_pos Hz.out, if_pos rfl]; exact HR2.out, HG2.out, HB.out.trans (HB2.out.mono HB.out.size)⟩
            case measure => simp [intOf]; omega
          · have hmi : ((mask : Int) == 0) = false := by simpa using hmk
            obtain ⟨ho60, hm32, heb⟩ := HMo.out.rot hmk
            simp only at ho60 hm32
            have Hz := Lib.hid hz
            have Hmk := Lib.hid hmk
            clear hz hmk
            subst heb
            go_wp2_with (first
              | (refine at_dst (d := 35) ?_; refine wpList_load_mid (op := ⟨some 35, _, _, _, _, _⟩) rfl 115 (.tmp 34) rfl ga (j * 4) rfl _ _ hrg Try.underlying115 rfl (sizeE9 _ _ _ _) ?_))
            obtain ⟨wo, rfl⟩ : ∃ v, v = wr := ⟨_, rfl⟩
            have hb64 : (Ev.stored ((ls.take j).map Em.ev) P).length = 64 := Ev.stored_len (n := x.n) P _ (fun e he => HG.out.rel.es e (by
              obtain ⟨m', hm', rfl⟩ := List.mem_map.1 he
              exact List.mem_map.2 ⟨m', List.mem_of_mem_take hm', rfl⟩))
            obtain ⟨bs, hbs⟩ : ∃ bs, bs = Ev.stored ((ls.take j).map Em.ev) P := ⟨_, rfl⟩
            rw [← hbs] at hb64
            have HR := HR
            rw [← hbs] at HR
            have Hbs := Lib.hid hbs
            have Hb64 := Lib.hid hb64
            have Hgl := Lib.hid (show g < wo.heap.size from HR.out.lt)
            have Hnew := Lib.hid (heap_alloc_new wo (.cells #[.int .i64 (at_ : Int), .slice A ([] : List UInt8).length ce, .int .i64 (off : Int), .int .u32 (mask : Int)] 115))
            have HR1 := Lib.hid (HR.out.later ((Below.refl _ _).alloc (Nat.le_refl _) (.cells #[.int .i64 (at_ : Int), .slice A ([] : List UInt8).length ce, .int .i64 (off : Int), .int .u32 (mask : Int)] 115)))
            have HB1 := Lib.hid (HB.out.alloc HB.out.size (.cells #[.int .i64 (at_ : Int), .slice A ([] : List UInt8).length ce, .int .i64 (off : Int), .int .u32 (mask : Int)] 115))
            clear hbs hb64
            go_loopw [8] (fun i wz => ∃ q : Nat, q ≤ 4 ∧ i = .int .i64 (q : Int) ∧ Rw wz g 5 1 64 c (cells (Dv.spoilB bs off mask q)) ∧ Below w.heap.size w wz ∧ wz.heap[wo.heap.size]? = some (.cells #[.int .i64 (at_ : Int), .slice A ([] : List UInt8).length ce, .int .i64 (off : Int), .int .u32 (mask : Int)] 115 (0, 0))) (fun i _ => 4 - (intOf i).toNat)
            case atStart => exact ⟨0, by omega, rfl, by rw [Dv.spoilB_zero Hb64.out]; exact HR1.out, HB1.out, Hnew.out⟩
            case round =>
              obtain ⟨q, hq, rfl, hr, hB, hE⟩ := hrel
              have HRq := Lib.hid hr
              have HBq := Lib.hid hB
              have HEq := Lib.hid hE
              clear hr hB hE
              by_cases hq4 : q < 4
              · have hqi : (q : Int) < 4 := by omega
                have k2 : wr.cell? ⟨wo.heap.size, 2, none⟩ = some (.int .i64 (off : Int)) := by rw [cell_of_row _ _ _ _ _ _ HEq.out]; rfl
                have k3 : wr.cell? ⟨wo.heap.size, 3, none⟩ = some (.int .u32 (mask : Int)) := by rw [cell_of_row _ _ _ _ _ _ HEq.out]; rfl
                have hcell := HRq.out.bytes_at (j := off + q) (by omega)
                rw [Dv.spoilB_get q (by omega)] at hcell
                have hfz := HRq.out.free (off + q)
                have hnew := HRq.out.bytes_set (off + q) (bs.getD (off + q) 0 ^^^ UInt8.ofNat (mask >>> (8 * q)))
                rw [Dv.spoilB_set q (by omega)] at hnew
                have HN2 := Lib.hid hnew
                obtain ⟨u, hu⟩ : ∃ u, u = bs.getD (off + q) 0 := ⟨_, rfl⟩
                rw [← hu] at hcell HN2
                have hgne : ¬ g = wo.heap.size := by have := Hgl.out; omega
                have Hgne := Lib.hid hgne
                clear hnew hu hgne
                go_wp2_with fail
                go_region
                rw [byte_at u mask q]
                go_wp2_with fail
                go_roundw
                case rel => exact ⟨q + 1, by omega, by go_num, HN2.out.later (Below.drew (Below.refl _ _)), Below.drew (HBq.out.setCell (p := ⟨g, off + q, none⟩) hgs _), by
                  have hf : Fr (fun b => b = g) wr (wr.setCell ⟨g, off + q, none⟩ (.int .u8 ((u ^^^ UInt8.ofNat (mask >>> (8 * q))).toNat : Int))) := (Fr.refl (fun b => b = g) _).setCell (p := ⟨g, off + q, none⟩) (.inr rfl) _
                  exact hf.row_some HEq.out (fun e => Hgne.out e.symm)⟩
                case measure => simp [intOf]; omega
              · have hqi : ¬ (q : Int) < 4 := by omega
                obtain rfl : q = 4 := by omega
                have hfin := HRq.out
                rw [Dv.spoilB_four Hb64.out, Hbs.out] at hfin
                have Hfin := Lib.hid hfin
                clear hfin
                go_wp2_with fail
                go_roundw
                case rel => exact ⟨j + 1, g, c, by omega, by go_num, rfl, by rw [Hnext.out, Ev.stored_snoc, Ev.goes, if_pos Hz.out, if_neg Hmk.out]; exact Hfin.out, hgs, HBq.out⟩
                case measure => simp [intOf]; omega
        · have hzz : ((at_ : Int) != (P : Int)) = true := by simp; omega
          have Hz := Lib.hid hz
          clear hz
          go_wp2_with (first
            | (refine at_dst (d := 35) ?_; refine wpList_load_mid (op := ⟨some 35, _, _, _, _, _⟩) rfl 115 (.tmp 34) rfl ga (j * 4) rfl _ _ hrg Try.underlying115 rfl (sizeE9 _ _ _ _) ?_))
          go_roundw
          case rel => exact ⟨j + 1, g, c, by omega, by go_num, rfl, by rw [Hnext.out, Ev.stored_snoc, Ev.goes, if_neg Hz.out]; exact HR.out.later ((Below.refl _ _).alloc (Nat.le_refl _) _), hgs, HB.out.alloc HB.out.size _⟩
          case measure => simp [intOf]; omega
      · have hji : ¬ (j : Int) < (nl : Int) := by omega
        have hall : Ev.stored ((ls.take j).map Em.ev) P = Ev.stored (ls.map Em.ev) P := by rw [List.take_of_length_le (by have := HN.out; omega)]
        rw [hall] at HR
        clear hall
        go_wp2_with fail
        go_ret
        have hlen : (Ev.stored (ls.map Em.ev) P).length = 64 := Ev.stored_len P _ HG.out.rel.es
        exact ⟨_, _, _, rfl, .inr ⟨g, rfl, HR.out⟩, HB.out⟩
  · have e2 : x.storedL z = [] := by rw [Dv.storedL, if_neg hx]
    rw [e2]
    cases hg : x.gone
    · rw [hg] at c3
      have hnh : decide (x.has z) = false := decide_eq_false (fun hh => hx ⟨hg, hh⟩)
      rw [hnh] at hhas
      clear e2 hx hnh
      go_enter Try.func49, Try.ntmps49
      go_wp2_with fail
      refine hhas.mono ?_; rintro e w1 ⟨rfl, hw1⟩
      obtain rfl : w = w1 := hw1.symm
      go_wp2_with fail
      go_ret
      exact ⟨_, _, _, rfl, .inl ⟨rfl, rfl, rfl, rfl⟩, Below.refl _ _⟩
    · rw [hg] at c3
      clear e2 hx hhas
      go_enter Try.func49, Try.ntmps49
      go_wp2_with fail
      go_ret
      exact ⟨_, _, _, rfl, .inl ⟨rfl, rfl, rfl, rfl⟩, Below.refl _ _⟩
theorem rfstored_any (z : Int) (h1 : -9223372036854775808 ≤ z) (h2 : z < 9223372036854775808) (hk : k ≤ 100000) (h : Rg w S X k x AL cL ls AW cW ws) : Calls Try.prog 49 #[.pointer (some ⟨X, 0, none⟩), .int .i64 z] w (RetB9 w (x.storedL z)) :=
  (rfstored_rn z h1 h2 hk h).mono fun e w' ⟨A, n, c, he, hr, hb⟩ => ⟨A, n, c, he, hr.sl, hb⟩
end
end Go.Proofs.Ytjjoeaneaibklaa

namespace Go.Proofs.Ytjjoeaneaibklaa
open Go.RowKit Go.Proofs
set_option linter.unusedVariables false

theorem lastW_append (a : List (Nat × List UInt8)) : ∀ (l : List (Nat × List UInt8)) (i : Nat), Dv.lastW (l ++ a) i = (match Dv.lastW a i with | some b => some b | none => Dv.lastW l i)
  | [], i => by
    show Dv.lastW a i = _
    cases Dv.lastW a i <;> rfl
  | p :: l, i => by
    show (match Dv.lastW (l ++ a) i with | some b => some b | none => if p.1 = i then some p.2 else none) = (match Dv.lastW a i with | some b => some b | none => (match Dv.lastW l i with | some b => some b | none => if p.1 = i then some p.2 else none))
    rw [lastW_append a l i]
    cases Dv.lastW a i <;> rfl
section
variable {w w' : World} {S T : Nat → Prop} {X k : Nat} {x y : Dv} {AL AW : Option Addr} {cL cW : Nat} {ls ws : List Em}
/-- What is waiting, from a number on. -/
theorem Rg.drop (h : Rg w S X k x AL cL ls AW cW ws) {j : Nat} {m : Em} (hm : ws[j]? = some m) : x.wait.drop j = (m.ev.at_, m.ev.b) :: x.wait.drop (j + 1) := by
  have hw : x.wait[j]? = some (m.ev.at_, m.ev.b) := by
    rw [h.rel.wait, List.map_map, List.getElem?_map, hm]
    rfl
  have hl := (List.getElem?_eq_some_iff.1 hw)
  rw [List.drop_eq_getElem_cons hl.1, hl.2]
theorem lastW_at {l : List (Nat × List UInt8)} {i : Nat} {b : List UInt8} {j : Nat} (h : l.drop j = (i, b) :: l.drop (j + 1)) (hn : Dv.lastW (l.drop (j + 1)) i = none) : Dv.lastW l i = some b := by
  rw [← List.take_append_drop j l, lastW_append, h]
  show (match (match Dv.lastW (l.drop (j + 1)) i with | some b => some b | none => if i = i then some b else none) with | some b => some b | none => _) = _
  rw [hn, if_pos rfl]
theorem lastW_not {l : List (Nat × List UInt8)} {i a : Nat} {b : List UInt8} {j : Nat} (h : l.drop j = (a, b) :: l.drop (j + 1)) (hn : Dv.lastW (l.drop (j + 1)) i = none) (ha : a ≠ i) : Dv.lastW (l.drop j) i = none := by
  rw [h]
  show (match Dv.lastW (l.drop (j + 1)) i with | some b => some b | none => if a = i then some b else none) = _
  rw [hn, if_neg ha]
/-- What the document's Read answers. -/
def RetRd9 (w : World) (x : Dv) (z : Int) (e : Ending) (w' : World) : Prop := ∃ A n c, e = .returned (.tuple #[.slice A n c, .int .i64 (x.readX z)]) ∧ Sl w' 1 A n c (cells (x.readL z)) ∧ Below w.heap.size w w'
set_option maxRecDepth 100000
set_option maxHeartbeats 4000000
/-- The same, and where the bytes lie: in a block of bytes. -/
def RetRd9n (w : World) (x : Dv) (z : Int) (e : Ending) (w' : World) : Prop := ∃ A n c, e = .returned (.tuple #[.slice A n c, .int .i64 (x.readX z)]) ∧ Rn w' A 5 1 n c (cells (x.readL z)) ∧ Below w.heap.size w w'
theorem rfread_rn (z : Int) (h1 : -9223372036854775808 ≤ z) (h2 : z < 9223372036854775808) (hk : k ≤ 100000) (h : Rg w S X k x AL cL ls AW cW ws) : Calls Try.prog 52 #[.pointer (some ⟨X, 0, none⟩), .int .i64 z] w (RetRd9n w x z) := by
  have c3 := h.c3
  have hhas := rfhas_any z h1 h2 h
  have hstd := rfstored_rn z h1 h2 hk h
  unfold RetRd9n
  cases hg : x.gone
  · rw [hg] at c3
    by_cases hx : x.has z
    · rw [decide_eq_true hx] at hhas
      have e1 : x.storedL z = x.st.getD z.toNat [] := by rw [Dv.storedL, if_pos ⟨hg, hx⟩]
      rw [Dv.readX_yes hg hx, Dv.readL_yes hg hx, Dv.look]
      rw [e1] at hstd
      have hz := hx
      unfold Dv.has at hz
      obtain ⟨P, rfl⟩ : ∃ i : Nat, z = (i : Int) := ⟨z.toNat, by omega⟩
      rw [Int.toNat_natCast] at hstd ⊢
      obtain ⟨sb, hsb⟩ : ∃ sb, sb = x.st.getD P [] := ⟨_, rfl⟩
      rw [← hsb] at hstd ⊢
      have hll := h.len
      have c2 := h.c2
      obtain ⟨nw, hnw⟩ : ∃ nw, nw = ws.length := ⟨_, rfl⟩
      rw [← hnw] at c2 hll
      have hwl : x.wait.length = nw := by rw [h.rel.wait, List.length_map, List.length_map, hnw]
      have HN := Lib.hid hnw
      have HG := Lib.hid h
      have HW := Lib.hid hwl
      clear hnw h hx hz hsb hwl h1 h2 e1
      go_enter Try.func52, Try.ntmps52
      go_wp2_with fail
      refine hhas.mono ?_; rintro e w1 ⟨rfl, hw1⟩
      obtain rfl : w = w1 := hw1.symm
      clear hhas
      go_wp2_with fail
      go_loopw [6] (fun i wr => ∃ j : Nat, j ≤ nw ∧ i = .int .i64 ((j : Int) - 1) ∧ Dv.lastW (x.wait.drop j) P = none ∧ wr = w) (fun i _ => (intOf i + 1).toNat)
      case atStart =>
        refine ⟨nw, by omega, ?_, by rw [List.drop_of_length_le (by rw [HW.out]; exact Nat.le_refl _)]; rfl, rfl⟩
        first | rfl | go_num | simp
      case round =>
        obtain ⟨j, hj, rfl, hnone, rfl⟩ := hrel
        have Hnone := Lib.hid hnone
        clear hnone
        by_cases hj0 : j = 0
        · subst hj0
          have hlast : Dv.lastW x.wait P = none := Hnone.out
          rw [show ((0 : Nat) : Int) - 1 = -1 from rfl]
          have HL := Lib.hid hlast
          clear hlast
          go_wp2_with fail
          refine hstd.mono ?_; clear hstd; rintro e w2 ⟨A, n, c, rfl, hs, hb⟩
          have HS := Lib.hid hs
          have HB := Lib.hid hb
          clear hs hb
          go_wp2_with fail
          go_ret2
          refine ⟨A, n, c, rfl, ?_, HB.out⟩
          rw [HL.out]
          exact HS.out
        · obtain ⟨i, rfl⟩ : ∃ i, j = i + 1 := ⟨j - 1, by omega⟩
          rw [show ((i + 1 : Nat) : Int) - 1 = (i : Int) from by omega]
          have hii : (0 : Int) ≤ (i : Int) := by omega
          have hin : (i : Int) < (nw : Int) := by omega
          obtain ⟨m, hm⟩ : ∃ m, ws[i]? = some m := ⟨_, List.getElem?_eq_getElem (by rw [← HN.out]; omega)⟩
          have Hdrop := Lib.hid (HG.out.drop hm)
          have Hmb := Lib.hid ((HG.out.ew.b m (List.mem_of_getElem? hm)).1)
          obtain ⟨g, rfl, e0, e1, e2, e3, -⟩ := HG.out.ew.cell hm
          obtain ⟨ev, A, ce⟩ := m
          obtain ⟨at_, eb, off, mask⟩ := ev
          simp only at e0 e1 e2 e3
          clear hm
          by_cases hz : at_ = P
          · have hzz : ((at_ : Int) == (P : Int)) = true := by simp; omega
            have Hz := Lib.hid hz
            clear hz
            go_wp2_with fail
            go_ret2
            refine ⟨A, eb.length, ce, rfl, ?_, Below.refl _ _⟩
            have hd := Hdrop.out
            rw [Hz.out] at hd
            rw [lastW_at hd Hnone.out]
            exact Hmb.out
          · have hzz : ((at_ : Int) == (P : Int)) = false := by simp; omega
            have Hz := Lib.hid hz
            clear hz
            go_wp2_with fail
            go_roundw
            case rel => exact ⟨i, by omega, by go_num, lastW_not Hdrop.out Hnone.out Hz.out, by trivial⟩
            case measure => first | (simp [intOf]; omega) | omega | (simp [intOf])
    · rw [decide_eq_false hx] at hhas
      have e1 : x.readX z = 2 := by rw [Dv.readX, if_neg (by rw [hg]; decide), if_neg hx]
      have e2 : x.readL z = [] := by rw [Dv.readL, if_neg (by rw [hg]; decide), if_neg hx]
      rw [e1, e2]
      clear hx hstd e1 e2
      go_enter Try.func52, Try.ntmps52
      go_wp2_with fail
      refine hhas.mono ?_; rintro e w1 ⟨rfl, hw1⟩
      obtain rfl : w = w1 := hw1.symm
      go_wp2_with fail
      go_ret2
      exact ⟨_, _, _, rfl, .inl ⟨rfl, rfl, rfl, rfl⟩, Below.refl _ _⟩
  · rw [hg] at c3
    have e1 : x.readX z = 90 := by rw [Dv.readX, if_pos hg]
    have e2 : x.readL z = [] := by rw [Dv.readL, if_pos hg]
    rw [e1, e2]
    clear hhas hstd e1 e2
    go_enter Try.func52, Try.ntmps52
    go_wp2_with fail
    go_ret2
    exact ⟨_, _, _, rfl, .inl ⟨rfl, rfl, rfl, rfl⟩, Below.refl _ _⟩
theorem rfread_any (z : Int) (h1 : -9223372036854775808 ≤ z) (h2 : z < 9223372036854775808) (hk : k ≤ 100000) (h : Rg w S X k x AL cL ls AW cW ws) : Calls Try.prog 52 #[.pointer (some ⟨X, 0, none⟩), .int .i64 z] w (RetRd9 w x z) :=
  (rfread_rn z h1 h2 hk h).mono fun e w' ⟨A, n, c, he, hr, hb⟩ => ⟨A, n, c, he, hr.sl, hb⟩
end
end Go.Proofs.Ytjjoeaneaibklaa

namespace Go.Proofs.Ytjjoeaneaibklaa
open Go.RowKit Go.Proofs
set_option linter.unusedVariables false

theorem builtE9 (i : Int) (A : Option Addr) (n c : Nat) : Try.prog.built 115 [(0, .int .i64 i), (1, .slice A n c)] = some #[.int .i64 i, .slice A n c, .int .i64 0, .int .u32 0] := by kernel_rfl
theorem step_buildE9 {ρ : Operand → Value} {o : Oper} {x y : Operand} {w : World} {i : Int} {A : Option Addr} {n c : Nat} (ho : o.op = .build 115 #[(0, x), (1, y)]) (hx : ρ x = .int .i64 i) (hy : ρ y = .slice A n c) : (execOp ρ o).run Try.prog w = .ok (.value (.agg #[.int .i64 i, .slice A n c, .int .i64 0, .int .u32 0])) w := by
  have h : (Instr.build 115 #[(0, .int .i64 i), (1, .slice A n c)]).run Try.prog w = _ := run_build w _ _ _ (builtE9 i A n c)
  unfold execOp
  simp [ho, hx, hy, h, Result.andThen]
theorem step_loadE9 {ρ : Operand → Value} {o : Oper} {x : Operand} {w : World} {b off : Nat} {v0 v1 v2 v3 : Value} (ho : o.op = .load 115 x) (hx : ρ x = .pointer (some ⟨b, off, none⟩)) (h : w.rangeAt b off [v0, v1, v2, v3]) : (execOp ρ o).run Try.prog w = .ok (.value (.agg #[v0, v1, v2, v3])) w := by
  unfold execOp
  simp only [ho, hx, Instr.loadAt, Instr.sureAddr, Sem.run_bind, Sem.run_pure, Result.andThen_ok, run_loadVar_mid w b off 115 _ _ h Try.underlying115 rfl (sizeE9 _ _ _ _)]
section
variable {w w1 w2 w' : World} {S T : Nat → Prop} {X k m c' : Nat} {x y : Dv} {AL AW A' : Option Addr} {cL cW : Nat} {ls ws : List Em} {ys : List Value}
/-- Behind an append onto what is stored, and the store of the new slice. -/
theorem Rg.pushL (h : Rg w S X k x AL cL ls AW cW ws) (hS : ∀ b, S b → b < w.heap.size) (hb : Below w.heap.size w w1) (hf : Fr (Bk AL) w1 w2) (hrn : Rn w2 A' 115 4 (ls.length + m) c' ys) (hor : A' = AL ∨ A' = some ⟨w1.heap.size, 0, none⟩) :
    Fr (Bk7 X AL) w (w2.setCell ⟨X, 1, none⟩ (.slice A' (ls.length + m) c')) ∧ (w2.setCell ⟨X, 1, none⟩ (.slice A' (ls.length + m) c')).heap[X]? = some (.cells #[.int .i64 (x.n : Int), .slice A' (ls.length + m) c', .slice AW ws.length cW, .bool x.gone] 79 (0, 0)) ∧ Rn (w2.setCell ⟨X, 1, none⟩ (.slice A' (ls.length + m) c')) A' 115 4 (ls.length + m) c' ys ∧ (A' = AL ∨ ∀ b, Bk A' b → w.heap.size ≤ b) ∧ w2.cell? ⟨X, 1, none⟩ = some (.slice AL ls.length cL) ∧ w2.frozen? ⟨X, 1, none⟩ = false := by
  have hXl : ¬ Bk AL X := h.el.rn.neX h.box (by decide)
  have hX := hS X h.own
  have hbx := hf.row_some (h.later hb).box hXl
  have hF : Fr (fun b => b = X) w2 (w2.setCell ⟨X, 1, none⟩ (.slice A' (ls.length + m) c')) := (Fr.refl (fun b => b = X) _).setCell (p := ⟨X, 1, none⟩) (.inr rfl) _
  have ho : A' = AL ∨ ∀ b, Bk A' b → w.heap.size ≤ b := hor.imp id (fun e b hk => by
    obtain ⟨o, hk⟩ := hk
    rw [e] at hk
    injection hk with hk
    injection hk with hk _
    have := hb.size
    omega)
  refine ⟨((Fr.of_below hb).trans (hf.mono fun b hb => .inr hb)).trans (hF.mono fun b hb => .inl hb), heap_setCell_same w2 X 1 _ _ _ hbx, hrn.fr hF (fun b hk e => ?_), ho, ?_, frozen_of_row _ _ _ _ _ hbx⟩
  · rcases ho with q | q
    · exact hXl (by rw [← q]; have e : b = X := e; rw [← e]; exact hk)
    · have := q b hk
      have e : b = X := e
      omega
  · rw [cell_of_row _ _ _ _ _ _ hbx]; rfl
theorem Rg.pushW (h : Rg w S X k x AL cL ls AW cW ws) (hS : ∀ b, S b → b < w.heap.size) (hb : Below w.heap.size w w1) (hf : Fr (Bk AW) w1 w2) (hrn : Rn w2 A' 115 4 (ws.length + m) c' ys) (hor : A' = AW ∨ A' = some ⟨w1.heap.size, 0, none⟩) :
    Fr (Bk7 X AW) w (w2.setCell ⟨X, 2, none⟩ (.slice A' (ws.length + m) c')) ∧ (w2.setCell ⟨X, 2, none⟩ (.slice A' (ws.length + m) c')).heap[X]? = some (.cells #[.int .i64 (x.n : Int), .slice AL ls.length cL, .slice A' (ws.length + m) c', .bool x.gone] 79 (0, 0)) ∧ Rn (w2.setCell ⟨X, 2, none⟩ (.slice A' (ws.length + m) c')) A' 115 4 (ws.length + m) c' ys ∧ (A' = AW ∨ ∀ b, Bk A' b → w.heap.size ≤ b) ∧ w2.cell? ⟨X, 2, none⟩ = some (.slice AW ws.length cW) ∧ w2.frozen? ⟨X, 2, none⟩ = false := by
  have hXl : ¬ Bk AW X := h.ew.rn.neX h.box (by decide)
  have hX := hS X h.own
  have hbx := hf.row_some (h.later hb).box hXl
  have hF : Fr (fun b => b = X) w2 (w2.setCell ⟨X, 2, none⟩ (.slice A' (ws.length + m) c')) := (Fr.refl (fun b => b = X) _).setCell (p := ⟨X, 2, none⟩) (.inr rfl) _
  have ho : A' = AW ∨ ∀ b, Bk A' b → w.heap.size ≤ b := hor.imp id (fun e b hk => by
    obtain ⟨o, hk⟩ := hk
    rw [e] at hk
    injection hk with hk
    injection hk with hk _
    have := hb.size
    omega)
  refine ⟨((Fr.of_below hb).trans (hf.mono fun b hb => .inr hb)).trans (hF.mono fun b hb => .inl hb), heap_setCell_same w2 X 2 _ _ _ hbx, hrn.fr hF (fun b hk e => ?_), ho, ?_, frozen_of_row _ _ _ _ _ hbx⟩
  · rcases ho with q | q
    · exact hXl (by rw [← q]; have e : b = X := e; rw [← e]; exact hk)
    · have := q b hk
      have e : b = X := e
      omega
  · rw [cell_of_row _ _ _ _ _ _ hbx]; rfl
theorem wroteR9 {i b8 c8 c7 : Nat} {l : List UInt8} {w8 : World} (h : Rg w S X k x AL cL ls AW cW ws) (hS : ∀ b, S b → b < w.heap.size) (hi : x.gone = false ∧ i < x.n) (hl : l.length = 64) (hF : Fr (Bk7 X AW) w w8)
    (hbx : w8.heap[X]? = some (.cells #[.int .i64 (x.n : Int), .slice AL ls.length cL, .slice A' (ws.length + 1) c7, .bool x.gone] 79 (0, 0)))
    (hrn : Rn w8 A' 115 4 (ws.length + 1) c7 (ws.flatMap emc ++ [.int .i64 (i : Int), .slice (some ⟨b8, 0, none⟩) 64 c8, .int .i64 0, .int .u32 0])) (ho : A' = AW ∨ ∀ b, Bk A' b → w.heap.size ≤ b)
    (hr8 : Rw w8 b8 5 1 64 c8 (cells l)) (hg8 : w.heap.size ≤ b8) : (Ending.returned (.int .i64 0) = Ending.returned (.int .i64 0)) ∧ MutR S X (k + 1) (x.write (i : Int) l) w w8 := by
  have hg := hi.1
  have hw := h.rel
  rw [hg] at hw
  have hr := hw.write hi.2 hl
  have hz : x.has (i : Int) := by unfold Dv.has; omega
  have hn : (x.write (i : Int) l).n = x.n := by rw [Dv.write_yes hg hz hl]; rfl
  have hg' : (x.write (i : Int) l).gone = x.gone := by rw [Dv.write_yes hg hz hl]
  have hrn' : Rn w8 A' 115 4 (ws.length + [(⟨⟨i, l, 0, 0⟩, some ⟨b8, 0, none⟩, c8⟩ : Em)].length) c7 (ws.flatMap emc ++ [(⟨⟨i, l, 0, 0⟩, some ⟨b8, 0, none⟩, c8⟩ : Em)].flatMap emc) := by
    have e : [(⟨⟨i, l, 0, 0⟩, some ⟨b8, 0, none⟩, c8⟩ : Em)].flatMap emc = [.int .i64 (i : Int), .slice (some ⟨b8, 0, none⟩) 64 c8, .int .i64 0, .int .u32 0] := by
      simp [emc, hl]
    rw [e]
    exact hrn
  refine ⟨rfl, h.moreW (ps := [⟨⟨i, l, 0, 0⟩, some ⟨b8, 0, none⟩, c8⟩]) hS hF hbx hrn' ho (fun m hm => ?_) hn hg' (by rw [List.map_append, hg]; exact hr)⟩
  have hm : m = ⟨⟨i, l, 0, 0⟩, some ⟨b8, 0, none⟩, c8⟩ := by simpa using hm
  subst hm
  refine ⟨.inr ⟨b8, rfl, by rw [hl]; exact hr8⟩, fun b hb => .inr ?_⟩
  obtain ⟨o, hb⟩ := hb
  injection hb with hb
  injection hb with hb _
  omega
/-- Nothing waits any more. -/
theorem Rg.calm {k' : Nat} (h : Rg w S X k x AL cL ls AW cW ws) (hS : ∀ b, S b → b < w.heap.size) (hk : ls.length ≤ k') : Rf (w.setCell ⟨X, 2, none⟩ (.slice none 0 0)) S X k' x.quiet ∧ Fr (fun b => b = X) w (w.setCell ⟨X, 2, none⟩ (.slice none 0 0)) := by
  have hF : Fr (fun b => b = X) w (w.setCell ⟨X, 2, none⟩ (.slice none 0 0)) := (Fr.refl (fun b => b = X) _).setCell (p := ⟨X, 2, none⟩) (.inr rfl) _
  refine ⟨⟨fun b hb => Nat.lt_of_lt_of_le (hS b hb) hF.size, AL, cL, ls, none, 0, [], heap_setCell_same w X 2 _ _ _ h.box, ⟨h.el.rn.fr hF (fun b hb e => h.el.rn.neX h.box (by decide) (by have e : b = X := e; rw [← e]; exact hb)), h.el.own, fun m hm => ⟨(h.el.b m hm).1.fr hF (fun b hb e => (h.el.b m hm).1.neX h.box (by decide) (by have e : b = X := e; rw [← e]; exact hb)), (h.el.b m hm).2⟩⟩, Evs.nil _ _, (fun b _ hb => by obtain ⟨o, hb⟩ := hb; cases hb), h.rel.quiet, by simpa using hk, h.own, h.n2⟩, hF⟩
theorem flushedR9 {c7 : Nat} {w8 : World} (h : Rg w S X k x AL cL ls AW cW ws) (hS : ∀ b, S b → b < w.heap.size) (hg : x.gone = false) (hF : Fr (Bk7 X AL) w w8)
    (hbx : w8.heap[X]? = some (.cells #[.int .i64 (x.n : Int), .slice A' (ls.length + ws.length) c7, .slice AW ws.length cW, .bool x.gone] 79 (0, 0)))
    (hrn : Rn w8 A' 115 4 (ls.length + ws.length) c7 (ls.flatMap emc ++ ws.flatMap emc)) (ho : A' = AL ∨ ∀ b, Bk A' b → w.heap.size ≤ b) :
    MutR S X k x.flush1 w (w8.setCell ⟨X, 2, none⟩ (.slice none 0 0)) := by
  have hr := h.rel
  rw [hg] at hr
  have hp := Rel.puts (ws.map Em.ev) hr hr.ws
  have hW := h.ew.fr7 h.box h.el.rn hF (fun b hb hb' => h.apart b hb' hb)
  have hn : (x.puts ((ws.map Em.ev).map Ev.wr)).n = x.n := Dv.puts_n _ _
  have hgo : (x.puts ((ws.map Em.ev).map Ev.wr)).gone = x.gone := Dv.puts_gone _ _
  obtain ⟨m1, m2, m3⟩ := h.moreL (y := x.puts ((ws.map Em.ev).map Ev.wr)) (ps := ws) hS hF hbx hrn ho (fun m hm => ⟨(hW.b m hm).1, fun b hb => .inl ((hW.b m hm).2 b hb)⟩) hn hgo (by rw [List.map_append, hg]; exact hp)
  obtain ⟨c1, c2⟩ := m2.calm (k' := k) m1 (by rw [List.length_append]; exact h.len)
  have hx : x.flush1 = (x.puts ((ws.map Em.ev).map Ev.wr)).quiet := by
    rw [Dv.flush1, if_neg (by rw [hg]; decide), ← hr.wait]
    rfl
  rw [hx]
  exact ⟨_, c1, m3.trans (c2.mono fun b hb => by rw [hb]; exact h.own), fun b hb => hb.1⟩
theorem kept_snoc {α : Type} (a : α) : ∀ (l : List α) (ks : List Bool), Dv.kept (l ++ [a]) ks = Dv.kept l ks ++ if ks.getD l.length false = true then [a] else []
  | [], ks => by
    rw [List.nil_append, Dv.kept_one]
    cases ks <;> rfl
  | b :: l, [] => rfl
  | b :: l, q :: ks => by
    show (if q = true then b :: Dv.kept (l ++ [a]) ks else Dv.kept (l ++ [a]) ks) = (if q = true then b :: Dv.kept l ks else Dv.kept l ks) ++ _
    rw [kept_snoc a l ks]
    show _ = _ ++ if (q :: ks).getD (l.length + 1) false = true then [a] else []
    rw [List.getD_cons_succ]
    split <;> rfl
theorem kept_stop {α : Type} : ∀ (l : List α) (ks : List Bool) (j : Nat), ks.length ≤ j → Dv.kept (l.take j) ks = Dv.kept l ks
  | [], ks, j, h => by rw [List.take_nil]
  | a :: l, [], j, h => by cases j <;> rfl
  | a :: l, q :: ks, 0, h => by simp at h
  | a :: l, q :: ks, j + 1, h => by
    show (if q = true then a :: Dv.kept (l.take j) ks else Dv.kept (l.take j) ks) = if q = true then a :: Dv.kept l ks else Dv.kept l ks
    rw [kept_stop l ks j (by simpa using h)]
theorem Fr.into {S Sj : Nat → Prop} {w wr w8 : World} (h : Fr S w wr) (m : Fr Sj wr w8) (hs : ∀ b, Sj b → S b ∨ w.heap.size ≤ b) : Fr S w w8 :=
  ⟨m.os.trans h.os, m.tape.trans h.tape, m.output.trans h.output, Nat.le_trans h.size m.size, fun b hb hn => (m.block b (Nat.lt_of_lt_of_le hb h.size) (fun hq => (hs b hq).elim hn (fun q => by omega))).trans (h.block b hb hn)⟩
/-- A crash that has come to the j-th write that waits. -/
structure Cj (w : World) (S : Nat → Prop) (X k : Nat) (x : Dv) (ks : List Bool) (AW : Option Addr) (cW : Nat) (ws : List Em) (wr : World) (j : Nat) (Sj : Nat → Prop) (Aj : Option Addr) (cj : Nat) (lj : List Em) : Prop where
  rg : Rg wr Sj X (k + j) (x.puts (Dv.kept (x.wait.take j) ks)) Aj cj lj AW cW ws
  lt : ∀ b, Sj b → b < wr.heap.size
  fr : Fr S w wr
  sub : ∀ b, Sj b → S b ∨ w.heap.size ≤ b
  len : lj.length + (ws.length - j) ≤ k
section
variable {ks : List Bool} {wr : World} {j cj c7 : Nat} {Sj : Nat → Prop} {Aj : Option Addr} {lj : List Em}
theorem Cj.start (h : Rg w S X k x AL cL ls AW cW ws) (hS : ∀ b, S b → b < w.heap.size) (ks : List Bool) : Cj w S X k x ks AW cW ws w 0 S AL cL ls := by
  have e : Dv.kept ([] : List (Nat × List UInt8)) ks = [] := by cases ks <;> rfl
  refine ⟨?_, hS, Fr.refl _ _, fun b hb => .inl hb, by have := h.len; omega⟩
  rw [List.take_zero, e]
  exact h
theorem take_wait {m : Em} (h : Rel x x.n (ls.map Em.ev) (ws.map Em.ev) x.gone) (hm : ws[j]? = some m) : x.wait.take (j + 1) = x.wait.take j ++ [m.ev.wr] := by
  rw [h.wait, List.take_add_one, List.getElem?_map, List.getElem?_map, hm]
  rfl
theorem Cj.skip {m : Em} (h : Cj w S X k x ks AW cW ws wr j Sj Aj cj lj) (h0 : Rel x x.n (ls.map Em.ev) (ws.map Em.ev) x.gone) (hm : ws[j]? = some m) (hk : ks.getD j false = false) : Cj w S X k x ks AW cW ws wr (j + 1) Sj Aj cj lj := by
  have hj := (List.getElem?_eq_some_iff.1 hm).1
  have hl : (x.wait.take j).length = j := by rw [List.length_take, h0.wait, List.length_map, List.length_map]; omega
  have e : x.puts (Dv.kept (x.wait.take (j + 1)) ks) = x.puts (Dv.kept (x.wait.take j) ks) := by rw [take_wait h0 hm, kept_snoc, hl, hk, if_neg (by decide), List.append_nil]
  refine ⟨?_, h.lt, h.fr, h.sub, by have := h.len; omega⟩
  rw [e]
  have g := h.rg
  exact ⟨g.box, g.el, g.ew, g.apart, g.rel, by have := g.len; omega, g.own, g.n2⟩
theorem Cj.step {m : Em} {w8 : World} (h : Cj w S X k x ks AW cW ws wr j Sj Aj cj lj) (h0 : (∀ b, S b → b < w.heap.size) ∧ Rel x x.n (ls.map Em.ev) (ws.map Em.ev) x.gone) (hm : ws[j]? = some m) (hk : ks.getD j false = true) (hg : x.gone = false) (hF : Fr (Bk7 X Aj) wr w8)
    (hbx : w8.heap[X]? = some (.cells #[.int .i64 ((x.puts (Dv.kept (x.wait.take j) ks)).n : Int), .slice A' (lj.length + 1) c7, .slice AW ws.length cW, .bool (x.puts (Dv.kept (x.wait.take j) ks)).gone] 79 (0, 0)))
    (hrn : Rn w8 A' 115 4 (lj.length + 1) c7 (lj.flatMap emc ++ emc m)) (ho : A' = Aj ∨ ∀ b, Bk A' b → wr.heap.size ≤ b) :
    Cj w S X k x ks AW cW ws w8 (j + 1) (Sn Sj wr w8) A' c7 (lj ++ [m]) := by
  have hj := (List.getElem?_eq_some_iff.1 hm).1
  have hl : (x.wait.take j).length = j := by rw [List.length_take, h0.2.wait, List.length_map, List.length_map]; omega
  obtain ⟨y, hy⟩ : ∃ y, y = x.puts (Dv.kept (x.wait.take j) ks) := ⟨_, rfl⟩
  have hyg : y.gone = false := by rw [hy, Dv.puts_gone]; exact hg
  have e : x.puts (Dv.kept (x.wait.take (j + 1)) ks) = y.put m.ev.wr := by rw [take_wait h0.2 hm, kept_snoc, hl, hk, if_pos rfl, Dv.puts_snoc, hy]
  have hr := h.rg
  rw [← hy] at hr hbx
  have hrel := hr.rel
  rw [hyg] at hrel
  have hmo := hrel.ws m.ev (List.mem_map.2 ⟨m, List.mem_of_getElem? hm, rfl⟩)
  have hp := hrel.put hmo.1 hmo.2
  have hn : (y.put m.ev.wr).n = y.n := Dv.put_n _
  have hW := hr.ew.fr7 hr.box hr.el.rn hF (fun b hb hb' => hr.apart b hb' hb)
  obtain ⟨m1, m2, m3⟩ := hr.moreL (y := y.put m.ev.wr) (ps := [m]) h.lt hF hbx (by rw [List.flatMap_singleton]; exact hrn) ho (fun m' hm' => by
    have : m' = m := by simpa using hm'
    subst this
    exact ⟨(hW.b m' (List.mem_of_getElem? hm)).1, fun b hb => .inl ((hW.b m' (List.mem_of_getElem? hm)).2 b hb)⟩) hn rfl (by rw [List.map_append, hyg]; exact hp)
  have hsz := h.fr.size
  refine ⟨?_, m1, h.fr.into m3 h.sub, fun b hb => ?_, by have := h.len; rw [List.length_append, List.length_singleton]; omega⟩
  · rw [e]; exact m2
  · rcases hb.1 with q | q
    · exact h.sub b q
    · exact .inr (by omega)
end
set_option maxRecDepth 100000
set_option maxHeartbeats 4000000
theorem rfwrite_any (z : Int) (A : Option Addr) (n c : Nat) (l : List UInt8) (h1 : -9223372036854775808 ≤ z) (h2 : z < 9223372036854775808) (hk : k ≤ 100000) (h : Rf w S X k x) (hs : Sl w 1 A n c (cells l)) :
    Calls Try.prog 69 #[.pointer (some ⟨X, 0, none⟩), .int .i64 z, .slice A n c] w fun e w' => e = .returned (.int .i64 (x.writeX z l)) ∧ MutR S X (k + 1) (x.write z l) w w' := by
  obtain ⟨hS, AL, cL, ls, AW, cW, ws, hg⟩ := h
  have hstay : MutR S X (k + 1) x w w := ⟨S, Rf.mono ⟨hS, AL, cL, ls, AW, cW, ws, hg⟩ (Nat.le_succ _), Fr.refl _ _, fun _ hb => .inl hb⟩
  have c3 := hg.c3
  have hhas := rfhas_any z h1 h2 hg
  have hln : l.length = n := by have := hs.len; rw [cells_length] at this; omega
  cases hgg : x.gone
  · rw [hgg] at c3
    by_cases hx : x.has z
    · rw [decide_eq_true hx] at hhas
      by_cases h64 : n = 64
      · rw [Dv.writeX_yes hgg hx (by omega)]
        subst h64
        have hz := hx
        unfold Dv.has at hz
        obtain ⟨i, rfl⟩ : ∃ i : Nat, z = (i : Int) := ⟨z.toNat, by omega⟩
        have hlen := hg.len
        have HG := Lib.hid hg
        have HS := Lib.hid hS
        have HSl := Lib.hid hs
        have HLen := Lib.hid hln
        have Hi := Lib.hid (show x.gone = false ∧ i < x.n from ⟨hgg, by omega⟩)
        obtain ⟨u0, hu0, hu1, hu2, hu3⟩ := info_parts info_u8
        have Hu0 := Lib.hid hu0
        have Hu1 := Lib.hid hu1
        have Hu2 := Lib.hid hu2
        have Hu3 := Lib.hid hu3
        obtain ⟨i0, hi0, hz0, hz1, hz2⟩ := info_parts infoE9
        clear hg hS hs hln hgg hx hz h1 h2 hu0 hu1 hu2 hu3 hstay
        go_enter Try.func69, Try.ntmps69
        go_wp2_with fail
        refine hhas.mono ?_; rintro e w1 ⟨rfl, hw1⟩
        obtain rfl : w = w1 := hw1.symm
        clear hhas
        go_wp2_with fail
        have BL0 := Lib.hid (show Below w.heap.size w w.drew from Below.drew (Below.refl _ _))
        refine wp_region_held_drew (S := fun w' => Fr (fun b => b = X ∨ Bk AW b ∨ w.heap.size ≤ b) w w') (by kernel_rfl) (Fr.drew (Fr.refl _ _)) (fun hHeld => ?_)
        clear hHeld
        have hHeld : Fr (fun b => b = X ∨ Bk AW b ∨ w.heap.size ≤ b) w w.drew := Fr.drew (Fr.refl _ _)
        have hz_0 : w.heap.size ≤ w.drew.heap.size := Nat.le_refl _
        obtain ⟨v_1, hw⟩ : ∃ v_1, v_1 = w.drew := ⟨_, rfl⟩
        rw [← hw] at hHeld hz_0 BL0 ⊢
        clear hw
        refine wpAnyH_take (i := 0) (oi := ⟨some 20, _, _, _, _, _⟩) (v := ?vg0_2) rfl (by kernel_rfl) (by kernel_rfl) (by kernel_rfl) (fun _ _ _ h => h) (Or.inl ⟨by rfl, ?yg0_2⟩) hHeld ?rg0_2
        case yg0_2 =>
          intro wq hSw
          (try dsimp only at hSw)
          first | (go_simp; done) | (go_simp; with_reducible rfl)
        try simp only [Act.put, List.setIfInBounds_toArray, List.set_cons_zero, List.set_cons_succ]
        refine wpAnyH_take (i := 1) (oi := ⟨some 21, _, _, _, _, _⟩) (v := ?vg1_3) rfl (by kernel_rfl) (by kernel_rfl) (by kernel_rfl) (fun _ _ _ h => h) (Or.inl ⟨by rfl, ?yg1_3⟩) hHeld ?rg1_3
        case yg1_3 =>
          intro wq hSw
          (try dsimp only at hSw)
          first | (go_simp; done) | (go_simp; with_reducible rfl)
        try simp only [Act.put, List.setIfInBounds_toArray, List.set_cons_zero, List.set_cons_succ]
        refine wpAnyH_take (i := 2) (oi := ⟨some 22, _, _, _, _, _⟩) (v := ?vg2_4) rfl (by kernel_rfl) (by kernel_rfl) (by kernel_rfl) (fun _ _ _ h => h) (Or.inl ⟨by rfl, ?yg2_4⟩) hHeld ?rg2_4
        case yg2_4 =>
          intro wq hSw
          (try dsimp only at hSw)
          first | (go_simp; done) | (go_simp; with_reducible rfl)
        try simp only [Act.put, List.setIfInBounds_toArray, List.set_cons_zero, List.set_cons_succ]
        refine wpAnyH_take (i := 3) (oi := ⟨some 23, _, _, _, _, _⟩) (v := ?vg3_5) rfl (by kernel_rfl) (by kernel_rfl) (by kernel_rfl) (fun _ _ _ h => h) (Or.inl ⟨by rfl, ?yg3_5⟩) hHeld ?rg3_5
        case yg3_5 =>
          intro wq hSw
          (try dsimp only at hSw)
          first | (go_simp; done) | (go_simp; with_reducible rfl)
        try simp only [Act.put, List.setIfInBounds_toArray, List.set_cons_zero, List.set_cons_succ]
        refine wpAnyH_take (i := 5) (oi := ⟨some 25, _, _, _, _, _⟩) (v := ?vg5_6) rfl (by kernel_rfl) (by kernel_rfl) (by kernel_rfl) (fun _ _ _ h => h) (Or.inl ⟨by rfl, ?yg5_6⟩) hHeld ?rg5_6
        case yg5_6 =>
          intro wq hSw
          (try dsimp only at hSw)
          first | (go_simp; done) | (go_simp; with_reducible rfl)
        try simp only [Act.put, List.setIfInBounds_toArray, List.set_cons_zero, List.set_cons_succ]
        refine wpAnyH_take (i := 7) (oi := ⟨some 27, _, _, _, _, _⟩) (v := ?vg7_7) rfl (by kernel_rfl) (by kernel_rfl) (by kernel_rfl) (fun _ _ _ h => h) (Or.inl ⟨by rfl, ?yg7_7⟩) hHeld ?rg7_7
        case yg7_7 =>
          intro wq hSw
          (try dsimp only at hSw)
          first | (go_simp; done) | (go_simp; with_reducible rfl)
        try simp only [Act.put, List.setIfInBounds_toArray, List.set_cons_zero, List.set_cons_succ]
        refine wpAnyH_ready (rs := [4, 6]) (by kernel_rfl) (by simp) ?_
        refine AllReadyH.cons (o := ⟨some 24, _, _, _, _, _⟩) rfl (fun K hK => ?_) (AllReadyH.cons (o := ⟨some 26, _, _, _, _, _⟩) rfl (fun K hK => ?_) (AllReadyH.nil))
        · have hq := (HG.out.later BL0.out).c2
          go_simp
          refine hK.out _ _ hHeld (fun _ => ?_)
          clear hK K
          try simp only [Act.put, List.setIfInBounds_toArray, List.set_cons_zero, List.set_cons_succ]
          refine wpAnyH_ready (rs := [6]) (by kernel_rfl) (by simp) ?_
          refine AllReadyH.cons (o := ⟨some 26, _, _, _, _, _⟩) rfl (fun K hK => ?_) (AllReadyH.nil)
          go_simp
          have hsl := Rw.new v_1 #[] 5 1 0 rfl (by decide)
          have hb := (Below.refl v_1.heap.size v_1).alloc (Nat.le_refl _) (.cells #[] 5)
          obtain ⟨v_8, hw⟩ : ∃ v, v = v_1.alloc (.cells #[] 5) := ⟨_, rfl⟩
          rw [← hw] at hb hsl ⊢
          clear hw
          have hfN := Fr.of_below (S := fun b => b = X ∨ Bk AW b ∨ w.heap.size ≤ b) hb
          have bl_9 := Lib.hid (BL0.out.trans (hb.mono BL0.out.size))
          have em_10 := Lib.hid hsl
          have ez_11 := Lib.hid (show w.heap.size ≤ v_1.heap.size from by omega)
          clear hsl hb
          have hHeld := hHeld.trans hfN
          have hz_12 := hfN.size
          refine hK.out _ _ hHeld (fun _ => ?_)
          clear hK K hfN
          try simp only [Act.put, List.setIfInBounds_toArray, List.set_cons_zero, List.set_cons_succ]
          refine wpAnyH_ready (rs := [8]) (by kernel_rfl) (by simp) ?_
          refine AllReadyH.cons (o := ⟨some 28, _, _, _, _, _⟩) rfl (fun K hK => ?_) (AllReadyH.nil)
          refine wp_append_rw (o := ⟨some 28, _, _, _, _, _⟩) (.tmp 26) (.tmp 27) 40 40 rfl u0 (.int .u8 0) 1 Try.underlying40 Hu0.out Hu1.out Hu2.out Hu3.out rfl (by decide) rfl (.inr ⟨v_1.heap.size, rfl, em_10.out⟩) (.slice A 64 c) 64 (cells l) rfl ((HSl.out.below bl_9.out (Nat.le_refl _)).src Try.underlying40 (by decide) (cells_one l)) (by decide) (by decide) (by decide) ?_
          intro b8 c8 v_13 hr8 hf8 ho8
          have hz8 := ez_11.out
          have hb : Below w.heap.size v_8 v_13 := hf8.below bl_9.out.size (fun k hk => by
            obtain ⟨o, hk⟩ := hk
            injection hk with hk
            injection hk with hk _
            omega)
          have hfN : Fr (fun b => b = X ∨ Bk AW b ∨ w.heap.size ≤ b) v_8 v_13 := Fr.of_belowAt hb (fun k hk => .inr (.inr hk))
          have bl_14 := Lib.hid (bl_9.out.trans hb)
          have G8 := Lib.hid (show w.heap.size ≤ b8 from by
            have := bl_9.out.size
            rcases ho8 with h | h
            · injection h with h
              injection h with h _
              omega
            · omega)
          have R8 := Lib.hid (show Rw v_13 b8 5 1 64 c8 (cells l) from hr8)
          clear hr8 hf8 ho8 hb hz8
          have hHeld := hHeld.trans hfN
          have hz_15 := hfN.size
          refine hK.out _ _ hHeld (fun _ => ?_)
          clear hK K hfN
          try simp only [Act.put, List.setIfInBounds_toArray, List.set_cons_zero, List.set_cons_succ]
          refine wpAnyH_take (i := 9) (oi := ⟨some 29, _, _, _, _, _⟩) (v := (.agg #[.int .i64 (i : Int), .slice (some ⟨b8, 0, none⟩) 64 c8, .int .i64 0, .int .u32 0])) rfl (by kernel_rfl) (by kernel_rfl) (by kernel_rfl) (fun _ _ _ h => h) (Or.inl ⟨by rfl, ?yg9_16⟩) hHeld ?rg9_16
          case yg9_16 =>
            intro wq hSw
            exact step_buildE9 (x := .tmp 25) (y := .tmp 28) rfl rfl rfl
          try simp only [Act.put, List.setIfInBounds_toArray, List.set_cons_zero, List.set_cons_succ]
          refine wpAnyH_ready (rs := [10]) (by kernel_rfl) (by simp) ?_
          refine AllReadyH.cons (o := ⟨some 30, _, _, _, _, _⟩) rfl (fun K hK => ?_) (AllReadyH.nil)
          refine wp_buildSlice (o := ⟨some 30, _, _, _, _, _⟩) 77 115 1 #[(0, .tmp 29)] rfl #[.int .i64 (i : Int), .slice (some ⟨b8, 0, none⟩) 64 c8, .int .i64 0, .int .u32 0] i0 (.agg #[.int .i64 0, .slice none 0 0, .int .i64 0, .int .u32 0]) Try.underlying77 hi0 hz0 (by rw [hz1]; decide) (by rw [hz1]; decide) (by rw [hz1]; exact fillE9a _ _ rfl) ?_
          have hsl := Sl.made v_13 #[.int .i64 (i : Int), .slice (some ⟨b8, 0, none⟩) 64 c8, .int .i64 0, .int .u32 0] 115 4 1 rfl (by decide)
          have hb := (Below.refl v_13.heap.size v_13).alloc (Nat.le_refl _) (.cells #[.int .i64 (i : Int), .slice (some ⟨b8, 0, none⟩) 64 c8, .int .i64 0, .int .u32 0] 115)
          obtain ⟨v_17, hw⟩ : ∃ v, v = v_13.alloc (.cells #[.int .i64 (i : Int), .slice (some ⟨b8, 0, none⟩) 64 c8, .int .i64 0, .int .u32 0] 115) := ⟨_, rfl⟩
          rw [← hw] at hb hsl ⊢
          clear hw
          have hfN := Fr.of_below (S := fun b => b = X ∨ Bk AW b ∨ w.heap.size ≤ b) hb
          have bl_18 := Lib.hid (bl_14.out.trans (hb.mono bl_14.out.size))
          have sb_19 := Lib.hid hsl
          have R8 := Lib.hid (R8.out.later hb)
          clear hsl hb
          have hHeld := hHeld.trans hfN
          have hz_20 := hfN.size
          refine hK.out _ _ hHeld (fun _ => ?_)
          clear hK K hfN
          try simp only [Act.put, List.setIfInBounds_toArray, List.set_cons_zero, List.set_cons_succ]
          refine wpAnyH_ready (rs := [11]) (by kernel_rfl) (by simp) ?_
          refine AllReadyH.cons (o := ⟨some 31, _, _, _, _, _⟩) rfl (fun K hK => ?_) (AllReadyH.nil)
          refine wp_append_rn (o := ⟨some 31, _, _, _, _, _⟩) (.tmp 24) (.tmp 30) 77 77 rfl i0 (.agg #[.int .i64 0, .slice none 0 0, .int .i64 0, .int .u32 0]) 48 Try.underlying77 hi0 hz0 hz1 hz2 rfl (by decide) rfl (HG.out.later bl_18.out).ew.rn (.slice (some ⟨v_13.heap.size, 0, none⟩) 1 1) 1 [.int .i64 (i : Int), .slice (some ⟨b8, 0, none⟩) 64 c8, .int .i64 0, .int .u32 0] rfl (sb_19.out.src Try.underlying77 (by decide) (fun u hu => by simp at hu; rcases hu with rfl | rfl | rfl | rfl <;> rfl)) (by unfold maxLen; omega) (by omega) ?_
          intro A7 c7 w7 hrn hfb hor
          have hfN : Fr (fun b => b = X ∨ Bk AW b ∨ w.heap.size ≤ b) v_17 w7 := hfb.mono (fun b hb => .inr (.inl hb))
          have HRN := Lib.hid hrn
          have HFB := Lib.hid hfb
          have HOR := Lib.hid hor
          have R8 := Lib.hid (R8.out.fr hfb (fun hk => (Rn.ne (.inr ⟨b8, rfl, R8.out⟩) (HG.out.later bl_18.out).ew.rn (by decide) ⟨0, rfl⟩) hk))
          clear hrn hfb hor
          have hHeld := hHeld.trans hfN
          have hz_21 := hfN.size
          refine hK.out _ _ hHeld (fun _ => ?_)
          clear hK K hfN
          try simp only [Act.put, List.setIfInBounds_toArray, List.set_cons_zero, List.set_cons_succ]
          refine wpAnyH_take (i := 12) (oi := ⟨some 32, _, _, _, _, _⟩) (v := ?vg12_22) rfl (by kernel_rfl) (by kernel_rfl) (by kernel_rfl) (fun _ _ _ h => h) (Or.inl ⟨by rfl, ?yg12_22⟩) hHeld ?rg12_22
          case yg12_22 =>
            intro wq hSw
            (try dsimp only at hSw)
            first | (go_simp; done) | (go_simp; with_reducible rfl)
          try simp only [Act.put, List.setIfInBounds_toArray, List.set_cons_zero, List.set_cons_succ]
          refine wpAnyH_take (i := 13) (oi := ⟨some 33, _, _, _, _, _⟩) (v := ?vg13_23) rfl (by kernel_rfl) (by kernel_rfl) (by kernel_rfl) (fun _ _ _ h => h) (Or.inl ⟨by rfl, ?yg13_23⟩) hHeld ?rg13_23
          case yg13_23 =>
            intro wq hSw
            (try dsimp only at hSw)
            first | (go_simp; done) | (go_simp; with_reducible rfl)
          try simp only [Act.put, List.setIfInBounds_toArray, List.set_cons_zero, List.set_cons_succ]
          refine wpAnyH_ready (rs := [14]) (by kernel_rfl) (by simp) ?_
          refine AllReadyH.cons (o := ⟨none, _, _, _, _, _⟩) rfl (fun K hK => ?_) (AllReadyH.nil)
          obtain ⟨hF8, hbx8, hrn8, hor8, q1, u1⟩ := Rg.pushW HG.out HS.out bl_18.out HFB.out HRN.out HOR.out
          go_simp
          clear q1 u1
          have hfN : Fr (fun b => b = X ∨ Bk AW b ∨ w.heap.size ≤ b) w7 (w7.setCell ⟨X, 2, none⟩ (.slice A7 (ws.length + 1) c7)) := (Fr.refl (fun b => b = X ∨ Bk AW b ∨ w.heap.size ≤ b) _).setCell (p := ⟨X, 2, none⟩) (.inr (.inl rfl)) _
          obtain ⟨w8, hw⟩ : ∃ v, v = w7.setCell ⟨X, 2, none⟩ (.slice A7 (ws.length + 1) c7) := ⟨_, rfl⟩
          have hR8 := R8.out.fr ((Fr.refl (fun b => b = X) _).setCell (p := ⟨X, 2, none⟩) (.inr rfl) (.slice A7 (ws.length + 1) c7)) (by show ¬ b8 = X; have := HS.out X HG.out.own; have := G8.out; omega)
          rw [← hw] at hR8 hfN hF8 hbx8 hrn8 ⊢
          clear hw
          have R8 := Lib.hid (show Rw w8 b8 5 1 64 c8 (cells l) from hR8)
          clear hR8
          have F8 := Lib.hid hF8
          have BX8 := Lib.hid hbx8
          have RN8 := Lib.hid hrn8
          have OR8 := Lib.hid hor8
          clear hF8 hbx8 hrn8 hor8
          have hHeld := hHeld.trans hfN
          have hz_24 := hfN.size
          refine hK.out _ _ hHeld (fun _ => ?_)
          clear hK K hfN
          try simp only [Act.put]
          refine wpAnyH_done (by kernel_rfl) ?_ _
          clear hHeld
          go_wp2_with fail
          go_ret
          exact wroteR9 HG.out HS.out Hi.out HLen.out F8.out BX8.out RN8.out OR8.out R8.out G8.out
        · go_simp
          have hsl := Rw.new v_1 #[] 5 1 0 rfl (by decide)
          have hb := (Below.refl v_1.heap.size v_1).alloc (Nat.le_refl _) (.cells #[] 5)
          obtain ⟨v_25, hw⟩ : ∃ v, v = v_1.alloc (.cells #[] 5) := ⟨_, rfl⟩
          rw [← hw] at hb hsl ⊢
          clear hw
          have hfN := Fr.of_below (S := fun b => b = X ∨ Bk AW b ∨ w.heap.size ≤ b) hb
          have bl_26 := Lib.hid (BL0.out.trans (hb.mono BL0.out.size))
          have em_27 := Lib.hid hsl
          have ez_28 := Lib.hid (show w.heap.size ≤ v_1.heap.size from by omega)
          clear hsl hb
          have hHeld := hHeld.trans hfN
          have hz_29 := hfN.size
          refine hK.out _ _ hHeld (fun _ => ?_)
          clear hK K hfN
          try simp only [Act.put, List.setIfInBounds_toArray, List.set_cons_zero, List.set_cons_succ]
          refine wpAnyH_ready (rs := [4, 8]) (by kernel_rfl) (by simp) ?_
          refine AllReadyH.cons (o := ⟨some 24, _, _, _, _, _⟩) rfl (fun K hK => ?_) (AllReadyH.cons (o := ⟨some 28, _, _, _, _, _⟩) rfl (fun K hK => ?_) (AllReadyH.nil))
          · have hq := (HG.out.later bl_26.out).c2
            go_simp
            refine hK.out _ _ hHeld (fun _ => ?_)
            clear hK K
            try simp only [Act.put, List.setIfInBounds_toArray, List.set_cons_zero, List.set_cons_succ]
            refine wpAnyH_ready (rs := [8]) (by kernel_rfl) (by simp) ?_
            refine AllReadyH.cons (o := ⟨some 28, _, _, _, _, _⟩) rfl (fun K hK => ?_) (AllReadyH.nil)
            refine wp_append_rw (o := ⟨some 28, _, _, _, _, _⟩) (.tmp 26) (.tmp 27) 40 40 rfl u0 (.int .u8 0) 1 Try.underlying40 Hu0.out Hu1.out Hu2.out Hu3.out rfl (by decide) rfl (.inr ⟨v_1.heap.size, rfl, em_27.out⟩) (.slice A 64 c) 64 (cells l) rfl ((HSl.out.below bl_26.out (Nat.le_refl _)).src Try.underlying40 (by decide) (cells_one l)) (by decide) (by decide) (by decide) ?_
            intro b8 c8 v_30 hr8 hf8 ho8
            have hz8 := ez_28.out
            have hb : Below w.heap.size v_25 v_30 := hf8.below bl_26.out.size (fun k hk => by
              obtain ⟨o, hk⟩ := hk
              injection hk with hk
              injection hk with hk _
              omega)
            have hfN : Fr (fun b => b = X ∨ Bk AW b ∨ w.heap.size ≤ b) v_25 v_30 := Fr.of_belowAt hb (fun k hk => .inr (.inr hk))
            have bl_31 := Lib.hid (bl_26.out.trans hb)
            have G8 := Lib.hid (show w.heap.size ≤ b8 from by
              have := bl_26.out.size
              rcases ho8 with h | h
              · injection h with h
                injection h with h _
                omega
              · omega)
            have R8 := Lib.hid (show Rw v_30 b8 5 1 64 c8 (cells l) from hr8)
            clear hr8 hf8 ho8 hb hz8
            have hHeld := hHeld.trans hfN
            have hz_32 := hfN.size
            refine hK.out _ _ hHeld (fun _ => ?_)
            clear hK K hfN
            try simp only [Act.put, List.setIfInBounds_toArray, List.set_cons_zero, List.set_cons_succ]
            refine wpAnyH_take (i := 9) (oi := ⟨some 29, _, _, _, _, _⟩) (v := (.agg #[.int .i64 (i : Int), .slice (some ⟨b8, 0, none⟩) 64 c8, .int .i64 0, .int .u32 0])) rfl (by kernel_rfl) (by kernel_rfl) (by kernel_rfl) (fun _ _ _ h => h) (Or.inl ⟨by rfl, ?yg9_33⟩) hHeld ?rg9_33
            case yg9_33 =>
              intro wq hSw
              exact step_buildE9 (x := .tmp 25) (y := .tmp 28) rfl rfl rfl
            try simp only [Act.put, List.setIfInBounds_toArray, List.set_cons_zero, List.set_cons_succ]
            refine wpAnyH_ready (rs := [10]) (by kernel_rfl) (by simp) ?_
            refine AllReadyH.cons (o := ⟨some 30, _, _, _, _, _⟩) rfl (fun K hK => ?_) (AllReadyH.nil)
            refine wp_buildSlice (o := ⟨some 30, _, _, _, _, _⟩) 77 115 1 #[(0, .tmp 29)] rfl #[.int .i64 (i : Int), .slice (some ⟨b8, 0, none⟩) 64 c8, .int .i64 0, .int .u32 0] i0 (.agg #[.int .i64 0, .slice none 0 0, .int .i64 0, .int .u32 0]) Try.underlying77 hi0 hz0 (by rw [hz1]; decide) (by rw [hz1]; decide) (by rw [hz1]; exact fillE9a _ _ rfl) ?_
            have hsl := Sl.made v_30 #[.int .i64 (i : Int), .slice (some ⟨b8, 0, none⟩) 64 c8, .int .i64 0, .int .u32 0] 115 4 1 rfl (by decide)
            have hb := (Below.refl v_30.heap.size v_30).alloc (Nat.le_refl _) (.cells #[.int .i64 (i : Int), .slice (some ⟨b8, 0, none⟩) 64 c8, .int .i64 0, .int .u32 0] 115)
            obtain ⟨v_34, hw⟩ : ∃ v, v = v_30.alloc (.cells #[.int .i64 (i : Int), .slice (some ⟨b8, 0, none⟩) 64 c8, .int .i64 0, .int .u32 0] 115) := ⟨_, rfl⟩
            rw [← hw] at hb hsl ⊢
            clear hw
            have hfN := Fr.of_below (S := fun b => b = X ∨ Bk AW b ∨ w.heap.size ≤ b) hb
            have bl_35 := Lib.hid (bl_31.out.trans (hb.mono bl_31.out.size))
            have sb_36 := Lib.hid hsl
            have R8 := Lib.hid (R8.out.later hb)
            clear hsl hb
            have hHeld := hHeld.trans hfN
            have hz_37 := hfN.size
            refine hK.out _ _ hHeld (fun _ => ?_)
            clear hK K hfN
            try simp only [Act.put, List.setIfInBounds_toArray, List.set_cons_zero, List.set_cons_succ]
            refine wpAnyH_ready (rs := [11]) (by kernel_rfl) (by simp) ?_
            refine AllReadyH.cons (o := ⟨some 31, _, _, _, _, _⟩) rfl (fun K hK => ?_) (AllReadyH.nil)
            refine wp_append_rn (o := ⟨some 31, _, _, _, _, _⟩) (.tmp 24) (.tmp 30) 77 77 rfl i0 (.agg #[.int .i64 0, .slice none 0 0, .int .i64 0, .int .u32 0]) 48 Try.underlying77 hi0 hz0 hz1 hz2 rfl (by decide) rfl (HG.out.later bl_35.out).ew.rn (.slice (some ⟨v_30.heap.size, 0, none⟩) 1 1) 1 [.int .i64 (i : Int), .slice (some ⟨b8, 0, none⟩) 64 c8, .int .i64 0, .int .u32 0] rfl (sb_36.out.src Try.underlying77 (by decide) (fun u hu => by simp at hu; rcases hu with rfl | rfl | rfl | rfl <;> rfl)) (by unfold maxLen; omega) (by omega) ?_
            intro A7 c7 w7 hrn hfb hor
            have hfN : Fr (fun b => b = X ∨ Bk AW b ∨ w.heap.size ≤ b) v_34 w7 := hfb.mono (fun b hb => .inr (.inl hb))
            have HRN := Lib.hid hrn
            have HFB := Lib.hid hfb
            have HOR := Lib.hid hor
            have R8 := Lib.hid (R8.out.fr hfb (fun hk => (Rn.ne (.inr ⟨b8, rfl, R8.out⟩) (HG.out.later bl_35.out).ew.rn (by decide) ⟨0, rfl⟩) hk))
            clear hrn hfb hor
            have hHeld := hHeld.trans hfN
            have hz_38 := hfN.size
            refine hK.out _ _ hHeld (fun _ => ?_)
            clear hK K hfN
            try simp only [Act.put, List.setIfInBounds_toArray, List.set_cons_zero, List.set_cons_succ]
            refine wpAnyH_take (i := 12) (oi := ⟨some 32, _, _, _, _, _⟩) (v := ?vg12_39) rfl (by kernel_rfl) (by kernel_rfl) (by kernel_rfl) (fun _ _ _ h => h) (Or.inl ⟨by rfl, ?yg12_39⟩) hHeld ?rg12_39
            case yg12_39 =>
              intro wq hSw
              (try dsimp only at hSw)
              first | (go_simp; done) | (go_simp; with_reducible rfl)
            try simp only [Act.put, List.setIfInBounds_toArray, List.set_cons_zero, List.set_cons_succ]
            refine wpAnyH_take (i := 13) (oi := ⟨some 33, _, _, _, _, _⟩) (v := ?vg13_40) rfl (by kernel_rfl) (by kernel_rfl) (by kernel_rfl) (fun _ _ _ h => h) (Or.inl ⟨by rfl, ?yg13_40⟩) hHeld ?rg13_40
            case yg13_40 =>
              intro wq hSw
              (try dsimp only at hSw)
              first | (go_simp; done) | (go_simp; with_reducible rfl)
            try simp only [Act.put, List.setIfInBounds_toArray, List.set_cons_zero, List.set_cons_succ]
            refine wpAnyH_ready (rs := [14]) (by kernel_rfl) (by simp) ?_
            refine AllReadyH.cons (o := ⟨none, _, _, _, _, _⟩) rfl (fun K hK => ?_) (AllReadyH.nil)
            obtain ⟨hF8, hbx8, hrn8, hor8, q1, u1⟩ := Rg.pushW HG.out HS.out bl_35.out HFB.out HRN.out HOR.out
            go_simp
            clear q1 u1
            have hfN : Fr (fun b => b = X ∨ Bk AW b ∨ w.heap.size ≤ b) w7 (w7.setCell ⟨X, 2, none⟩ (.slice A7 (ws.length + 1) c7)) := (Fr.refl (fun b => b = X ∨ Bk AW b ∨ w.heap.size ≤ b) _).setCell (p := ⟨X, 2, none⟩) (.inr (.inl rfl)) _
            obtain ⟨w8, hw⟩ : ∃ v, v = w7.setCell ⟨X, 2, none⟩ (.slice A7 (ws.length + 1) c7) := ⟨_, rfl⟩
            have hR8 := R8.out.fr ((Fr.refl (fun b => b = X) _).setCell (p := ⟨X, 2, none⟩) (.inr rfl) (.slice A7 (ws.length + 1) c7)) (by show ¬ b8 = X; have := HS.out X HG.out.own; have := G8.out; omega)
            rw [← hw] at hR8 hfN hF8 hbx8 hrn8 ⊢
            clear hw
            have R8 := Lib.hid (show Rw w8 b8 5 1 64 c8 (cells l) from hR8)
            clear hR8
            have F8 := Lib.hid hF8
            have BX8 := Lib.hid hbx8
            have RN8 := Lib.hid hrn8
            have OR8 := Lib.hid hor8
            clear hF8 hbx8 hrn8 hor8
            have hHeld := hHeld.trans hfN
            have hz_41 := hfN.size
            refine hK.out _ _ hHeld (fun _ => ?_)
            clear hK K hfN
            try simp only [Act.put]
            refine wpAnyH_done (by kernel_rfl) ?_ _
            clear hHeld
            go_wp2_with fail
            go_ret
            exact wroteR9 HG.out HS.out Hi.out HLen.out F8.out BX8.out RN8.out OR8.out R8.out G8.out
          · refine wp_append_rw (o := ⟨some 28, _, _, _, _, _⟩) (.tmp 26) (.tmp 27) 40 40 rfl u0 (.int .u8 0) 1 Try.underlying40 Hu0.out Hu1.out Hu2.out Hu3.out rfl (by decide) rfl (.inr ⟨v_1.heap.size, rfl, em_27.out⟩) (.slice A 64 c) 64 (cells l) rfl ((HSl.out.below bl_26.out (Nat.le_refl _)).src Try.underlying40 (by decide) (cells_one l)) (by decide) (by decide) (by decide) ?_
            intro b8 c8 v_42 hr8 hf8 ho8
            have hz8 := ez_28.out
            have hb : Below w.heap.size v_25 v_42 := hf8.below bl_26.out.size (fun k hk => by
              obtain ⟨o, hk⟩ := hk
              injection hk with hk
              injection hk with hk _
              omega)
            have hfN : Fr (fun b => b = X ∨ Bk AW b ∨ w.heap.size ≤ b) v_25 v_42 := Fr.of_belowAt hb (fun k hk => .inr (.inr hk))
            have bl_43 := Lib.hid (bl_26.out.trans hb)
            have G8 := Lib.hid (show w.heap.size ≤ b8 from by
              have := bl_26.out.size
              rcases ho8 with h | h
              · injection h with h
                injection h with h _
                omega
              · omega)
            have R8 := Lib.hid (show Rw v_42 b8 5 1 64 c8 (cells l) from hr8)
            clear hr8 hf8 ho8 hb hz8
            have hHeld := hHeld.trans hfN
            have hz_44 := hfN.size
            refine hK.out _ _ hHeld (fun _ => ?_)
            clear hK K hfN
            try simp only [Act.put, List.setIfInBounds_toArray, List.set_cons_zero, List.set_cons_succ]
            refine wpAnyH_take (i := 9) (oi := ⟨some 29, _, _, _, _, _⟩) (v := (.agg #[.int .i64 (i : Int), .slice (some ⟨b8, 0, none⟩) 64 c8, .int .i64 0, .int .u32 0])) rfl (by kernel_rfl) (by kernel_rfl) (by kernel_rfl) (fun _ _ _ h => h) (Or.inl ⟨by rfl, ?yg9_45⟩) hHeld ?rg9_45
            case yg9_45 =>
              intro wq hSw
              exact step_buildE9 (x := .tmp 25) (y := .tmp 28) rfl rfl rfl
            try simp only [Act.put, List.setIfInBounds_toArray, List.set_cons_zero, List.set_cons_succ]
            refine wpAnyH_ready (rs := [4, 10]) (by kernel_rfl) (by simp) ?_
            refine AllReadyH.cons (o := ⟨some 24, _, _, _, _, _⟩) rfl (fun K hK => ?_) (AllReadyH.cons (o := ⟨some 30, _, _, _, _, _⟩) rfl (fun K hK => ?_) (AllReadyH.nil))
            · have hq := (HG.out.later bl_43.out).c2
              go_simp
              refine hK.out _ _ hHeld (fun _ => ?_)
              clear hK K
              try simp only [Act.put, List.setIfInBounds_toArray, List.set_cons_zero, List.set_cons_succ]
              refine wpAnyH_ready (rs := [10]) (by kernel_rfl) (by simp) ?_
              refine AllReadyH.cons (o := ⟨some 30, _, _, _, _, _⟩) rfl (fun K hK => ?_) (AllReadyH.nil)
              refine wp_buildSlice (o := ⟨some 30, _, _, _, _, _⟩) 77 115 1 #[(0, .tmp 29)] rfl #[.int .i64 (i : Int), .slice (some ⟨b8, 0, none⟩) 64 c8, .int .i64 0, .int .u32 0] i0 (.agg #[.int .i64 0, .slice none 0 0, .int .i64 0, .int .u32 0]) Try.underlying77 hi0 hz0 (by rw [hz1]; decide) (by rw [hz1]; decide) (by rw [hz1]; exact fillE9a _ _ rfl) ?_
              have hsl := Sl.made v_42 #[.int .i64 (i : Int), .slice (some ⟨b8, 0, none⟩) 64 c8, .int .i64 0, .int .u32 0] 115 4 1 rfl (by decide)
              have hb := (Below.refl v_42.heap.size v_42).alloc (Nat.le_refl _) (.cells #[.int .i64 (i : Int), .slice (some ⟨b8, 0, none⟩) 64 c8, .int .i64 0, .int .u32 0] 115)
              obtain ⟨v_46, hw⟩ : ∃ v, v = v_42.alloc (.cells #[.int .i64 (i : Int), .slice (some ⟨b8, 0, none⟩) 64 c8, .int .i64 0, .int .u32 0] 115) := ⟨_, rfl⟩
              rw [← hw] at hb hsl ⊢
              clear hw
              have hfN := Fr.of_below (S := fun b => b = X ∨ Bk AW b ∨ w.heap.size ≤ b) hb
              have bl_47 := Lib.hid (bl_43.out.trans (hb.mono bl_43.out.size))
              have sb_48 := Lib.hid hsl
              have R8 := Lib.hid (R8.out.later hb)
              clear hsl hb
              have hHeld := hHeld.trans hfN
              have hz_49 := hfN.size
              refine hK.out _ _ hHeld (fun _ => ?_)
              clear hK K hfN
              try simp only [Act.put, List.setIfInBounds_toArray, List.set_cons_zero, List.set_cons_succ]
              refine wpAnyH_ready (rs := [11]) (by kernel_rfl) (by simp) ?_
              refine AllReadyH.cons (o := ⟨some 31, _, _, _, _, _⟩) rfl (fun K hK => ?_) (AllReadyH.nil)
              refine wp_append_rn (o := ⟨some 31, _, _, _, _, _⟩) (.tmp 24) (.tmp 30) 77 77 rfl i0 (.agg #[.int .i64 0, .slice none 0 0, .int .i64 0, .int .u32 0]) 48 Try.underlying77 hi0 hz0 hz1 hz2 rfl (by decide) rfl (HG.out.later bl_47.out).ew.rn (.slice (some ⟨v_42.heap.size, 0, none⟩) 1 1) 1 [.int .i64 (i : Int), .slice (some ⟨b8, 0, none⟩) 64 c8, .int .i64 0, .int .u32 0] rfl (sb_48.out.src Try.underlying77 (by decide) (fun u hu => by simp at hu; rcases hu with rfl | rfl | rfl | rfl <;> rfl)) (by unfold maxLen; omega) (by omega) ?_
              intro A7 c7 w7 hrn hfb hor
              have hfN : Fr (fun b => b = X ∨ Bk AW b ∨ w.heap.size ≤ b) v_46 w7 := hfb.mono (fun b hb => .inr (.inl hb))
              have HRN := Lib.hid hrn
              have HFB := Lib.hid hfb
              have HOR := Lib.hid hor
              have R8 := Lib.hid (R8.out.fr hfb (fun hk => (Rn.ne (.inr ⟨b8, rfl, R8.out⟩) (HG.out.later bl_47.out).ew.rn (by decide) ⟨0, rfl⟩) hk))
              clear hrn hfb hor
              have hHeld := hHeld.trans hfN
              have hz_50 := hfN.size
              refine hK.out _ _ hHeld (fun _ => ?_)
              clear hK K hfN
              try simp only [Act.put, List.setIfInBounds_toArray, List.set_cons_zero, List.set_cons_succ]
              refine wpAnyH_take (i := 12) (oi := ⟨some 32, _, _, _, _, _⟩) (v := ?vg12_51) rfl (by kernel_rfl) (by kernel_rfl) (by kernel_rfl) (fun _ _ _ h => h) (Or.inl ⟨by rfl, ?yg12_51⟩) hHeld ?rg12_51
              case yg12_51 =>
                intro wq hSw
                (try dsimp only at hSw)
                first | (go_simp; done) | (go_simp; with_reducible rfl)
              try simp only [Act.put, List.setIfInBounds_toArray, List.set_cons_zero, List.set_cons_succ]
              refine wpAnyH_take (i := 13) (oi := ⟨some 33, _, _, _, _, _⟩) (v := ?vg13_52) rfl (by kernel_rfl) (by kernel_rfl) (by kernel_rfl) (fun _ _ _ h => h) (Or.inl ⟨by rfl, ?yg13_52⟩) hHeld ?rg13_52
              case yg13_52 =>
                intro wq hSw
                (try dsimp only at hSw)
                first | (go_simp; done) | (go_simp; with_reducible rfl)
              try simp only [Act.put, List.setIfInBounds_toArray, List.set_cons_zero, List.set_cons_succ]
              refine wpAnyH_ready (rs := [14]) (by kernel_rfl) (by simp) ?_
              refine AllReadyH.cons (o := ⟨none, _, _, _, _, _⟩) rfl (fun K hK => ?_) (AllReadyH.nil)
              obtain ⟨hF8, hbx8, hrn8, hor8, q1, u1⟩ := Rg.pushW HG.out HS.out bl_47.out HFB.out HRN.out HOR.out
              go_simp
              clear q1 u1
              have hfN : Fr (fun b => b = X ∨ Bk AW b ∨ w.heap.size ≤ b) w7 (w7.setCell ⟨X, 2, none⟩ (.slice A7 (ws.length + 1) c7)) := (Fr.refl (fun b => b = X ∨ Bk AW b ∨ w.heap.size ≤ b) _).setCell (p := ⟨X, 2, none⟩) (.inr (.inl rfl)) _
              obtain ⟨w8, hw⟩ : ∃ v, v = w7.setCell ⟨X, 2, none⟩ (.slice A7 (ws.length + 1) c7) := ⟨_, rfl⟩
              have hR8 := R8.out.fr ((Fr.refl (fun b => b = X) _).setCell (p := ⟨X, 2, none⟩) (.inr rfl) (.slice A7 (ws.length + 1) c7)) (by show ¬ b8 = X; have := HS.out X HG.out.own; have := G8.out; omega)
              rw [← hw] at hR8 hfN hF8 hbx8 hrn8 ⊢
              clear hw
              have R8 := Lib.hid (show Rw w8 b8 5 1 64 c8 (cells l) from hR8)
              clear hR8
              have F8 := Lib.hid hF8
              have BX8 := Lib.hid hbx8
              have RN8 := Lib.hid hrn8
              have OR8 := Lib.hid hor8
              clear hF8 hbx8 hrn8 hor8
              have hHeld := hHeld.trans hfN
              have hz_53 := hfN.size
              refine hK.out _ _ hHeld (fun _ => ?_)
              clear hK K hfN
              try simp only [Act.put]
              refine wpAnyH_done (by kernel_rfl) ?_ _
              clear hHeld
              go_wp2_with fail
              go_ret
              exact wroteR9 HG.out HS.out Hi.out HLen.out F8.out BX8.out RN8.out OR8.out R8.out G8.out
            · refine wp_buildSlice (o := ⟨some 30, _, _, _, _, _⟩) 77 115 1 #[(0, .tmp 29)] rfl #[.int .i64 (i : Int), .slice (some ⟨b8, 0, none⟩) 64 c8, .int .i64 0, .int .u32 0] i0 (.agg #[.int .i64 0, .slice none 0 0, .int .i64 0, .int .u32 0]) Try.underlying77 hi0 hz0 (by rw [hz1]; decide) (by rw [hz1]; decide) (by rw [hz1]; exact fillE9a _ _ rfl) ?_
              have hsl := Sl.made v_42 #[.int .i64 (i : Int), .slice (some ⟨b8, 0, none⟩) 64 c8, .int .i64 0, .int .u32 0] 115 4 1 rfl (by decide)
              have hb := (Below.refl v_42.heap.size v_42).alloc (Nat.le_refl _) (.cells #[.int .i64 (i : Int), .slice (some ⟨b8, 0, none⟩) 64 c8, .int .i64 0, .int .u32 0] 115)
              obtain ⟨v_54, hw⟩ : ∃ v, v = v_42.alloc (.cells #[.int .i64 (i : Int), .slice (some ⟨b8, 0, none⟩) 64 c8, .int .i64 0, .int .u32 0] 115) := ⟨_, rfl⟩
              rw [← hw] at hb hsl ⊢
              clear hw
              have hfN := Fr.of_below (S := fun b => b = X ∨ Bk AW b ∨ w.heap.size ≤ b) hb
              have bl_55 := Lib.hid (bl_43.out.trans (hb.mono bl_43.out.size))
              have sb_56 := Lib.hid hsl
              have R8 := Lib.hid (R8.out.later hb)
              clear hsl hb
              have hHeld := hHeld.trans hfN
              have hz_57 := hfN.size
              refine hK.out _ _ hHeld (fun _ => ?_)
              clear hK K hfN
              try simp only [Act.put, List.setIfInBounds_toArray, List.set_cons_zero, List.set_cons_succ]
              refine wpAnyH_ready (rs := [4]) (by kernel_rfl) (by simp) ?_
              refine AllReadyH.cons (o := ⟨some 24, _, _, _, _, _⟩) rfl (fun K hK => ?_) (AllReadyH.nil)
              have hq := (HG.out.later bl_55.out).c2
              go_simp
              refine hK.out _ _ hHeld (fun _ => ?_)
              clear hK K
              try simp only [Act.put, List.setIfInBounds_toArray, List.set_cons_zero, List.set_cons_succ]
              refine wpAnyH_ready (rs := [11]) (by kernel_rfl) (by simp) ?_
              refine AllReadyH.cons (o := ⟨some 31, _, _, _, _, _⟩) rfl (fun K hK => ?_) (AllReadyH.nil)
              refine wp_append_rn (o := ⟨some 31, _, _, _, _, _⟩) (.tmp 24) (.tmp 30) 77 77 rfl i0 (.agg #[.int .i64 0, .slice none 0 0, .int .i64 0, .int .u32 0]) 48 Try.underlying77 hi0 hz0 hz1 hz2 rfl (by decide) rfl (HG.out.later bl_55.out).ew.rn (.slice (some ⟨v_42.heap.size, 0, none⟩) 1 1) 1 [.int .i64 (i : Int), .slice (some ⟨b8, 0, none⟩) 64 c8, .int .i64 0, .int .u32 0] rfl (sb_56.out.src Try.underlying77 (by decide) (fun u hu => by simp at hu; rcases hu with rfl | rfl | rfl | rfl <;> rfl)) (by unfold maxLen; omega) (by omega) ?_
              intro A7 c7 w7 hrn hfb hor
              have hfN : Fr (fun b => b = X ∨ Bk AW b ∨ w.heap.size ≤ b) v_54 w7 := hfb.mono (fun b hb => .inr (.inl hb))
              have HRN := Lib.hid hrn
              have HFB := Lib.hid hfb
              have HOR := Lib.hid hor
              have R8 := Lib.hid (R8.out.fr hfb (fun hk => (Rn.ne (.inr ⟨b8, rfl, R8.out⟩) (HG.out.later bl_55.out).ew.rn (by decide) ⟨0, rfl⟩) hk))
              clear hrn hfb hor
              have hHeld := hHeld.trans hfN
              have hz_58 := hfN.size
              refine hK.out _ _ hHeld (fun _ => ?_)
              clear hK K hfN
              try simp only [Act.put, List.setIfInBounds_toArray, List.set_cons_zero, List.set_cons_succ]
              refine wpAnyH_take (i := 12) (oi := ⟨some 32, _, _, _, _, _⟩) (v := ?vg12_59) rfl (by kernel_rfl) (by kernel_rfl) (by kernel_rfl) (fun _ _ _ h => h) (Or.inl ⟨by rfl, ?yg12_59⟩) hHeld ?rg12_59
              case yg12_59 =>
                intro wq hSw
                (try dsimp only at hSw)
                first | (go_simp; done) | (go_simp; with_reducible rfl)
              try simp only [Act.put, List.setIfInBounds_toArray, List.set_cons_zero, List.set_cons_succ]
              refine wpAnyH_take (i := 13) (oi := ⟨some 33, _, _, _, _, _⟩) (v := ?vg13_60) rfl (by kernel_rfl) (by kernel_rfl) (by kernel_rfl) (fun _ _ _ h => h) (Or.inl ⟨by rfl, ?yg13_60⟩) hHeld ?rg13_60
              case yg13_60 =>
                intro wq hSw
                (try dsimp only at hSw)
                first | (go_simp; done) | (go_simp; with_reducible rfl)
              try simp only [Act.put, List.setIfInBounds_toArray, List.set_cons_zero, List.set_cons_succ]
              refine wpAnyH_ready (rs := [14]) (by kernel_rfl) (by simp) ?_
              refine AllReadyH.cons (o := ⟨none, _, _, _, _, _⟩) rfl (fun K hK => ?_) (AllReadyH.nil)
              obtain ⟨hF8, hbx8, hrn8, hor8, q1, u1⟩ := Rg.pushW HG.out HS.out bl_55.out HFB.out HRN.out HOR.out
              go_simp
              clear q1 u1
              have hfN : Fr (fun b => b = X ∨ Bk AW b ∨ w.heap.size ≤ b) w7 (w7.setCell ⟨X, 2, none⟩ (.slice A7 (ws.length + 1) c7)) := (Fr.refl (fun b => b = X ∨ Bk AW b ∨ w.heap.size ≤ b) _).setCell (p := ⟨X, 2, none⟩) (.inr (.inl rfl)) _
              obtain ⟨w8, hw⟩ : ∃ v, v = w7.setCell ⟨X, 2, none⟩ (.slice A7 (ws.length + 1) c7) := ⟨_, rfl⟩
              have hR8 := R8.out.fr ((Fr.refl (fun b => b = X) _).setCell (p := ⟨X, 2, none⟩) (.inr rfl) (.slice A7 (ws.length + 1) c7)) (by show ¬ b8 = X; have := HS.out X HG.out.own; have := G8.out; omega)
              rw [← hw] at hR8 hfN hF8 hbx8 hrn8 ⊢
              clear hw
              have R8 := Lib.hid (show Rw w8 b8 5 1 64 c8 (cells l) from hR8)
              clear hR8
              have F8 := Lib.hid hF8
              have BX8 := Lib.hid hbx8
              have RN8 := Lib.hid hrn8
              have OR8 := Lib.hid hor8
              clear hF8 hbx8 hrn8 hor8
              have hHeld := hHeld.trans hfN
              have hz_61 := hfN.size
              refine hK.out _ _ hHeld (fun _ => ?_)
              clear hK K hfN
              try simp only [Act.put]
              refine wpAnyH_done (by kernel_rfl) ?_ _
              clear hHeld
              go_wp2_with fail
              go_ret
              exact wroteR9 HG.out HS.out Hi.out HLen.out F8.out BX8.out RN8.out OR8.out R8.out G8.out
      · have e1 : x.writeX z l = 2 := by rw [Dv.writeX, if_neg (by rw [hgg]; decide), if_neg (fun hh => h64 (by omega))]
        have e2 : x.write z l = x := by rw [Dv.write, if_neg (by rw [hgg]; decide), if_neg (fun hh => h64 (by omega))]
        rw [e1, e2]
        have hni : ¬ (n : Int) = 64 := by omega
        have HM := Lib.hid hstay
        clear e1 e2 hstay
        go_enter Try.func69, Try.ntmps69
        go_wp2_with fail
        refine hhas.mono ?_; rintro e w1 ⟨rfl, hw1⟩
        obtain rfl : w = w1 := hw1.symm
        go_wp2_with fail
        go_ret
        exact ⟨rfl, HM.out⟩
    · rw [decide_eq_false hx] at hhas
      have e1 : x.writeX z l = 2 := by rw [Dv.writeX, if_neg (by rw [hgg]; decide), if_neg (fun hh => hx hh.1)]
      have e2 : x.write z l = x := by rw [Dv.write, if_neg (by rw [hgg]; decide), if_neg (fun hh => hx hh.1)]
      rw [e1, e2]
      have HM := Lib.hid hstay
      clear e1 e2 hstay
      go_enter Try.func69, Try.ntmps69
      go_wp2_with fail
      refine hhas.mono ?_; rintro e w1 ⟨rfl, hw1⟩
      obtain rfl : w = w1 := hw1.symm
      go_wp2_with fail
      go_ret
      exact ⟨rfl, HM.out⟩
  · rw [hgg] at c3
    have e1 : x.writeX z l = 90 := by rw [Dv.writeX, if_pos hgg]
    have e2 : x.write z l = x := by rw [Dv.write, if_pos hgg]
    rw [e1, e2]
    have HM := Lib.hid hstay
    clear e1 e2 hstay hhas
    go_enter Try.func69, Try.ntmps69
    go_wp2_with fail
    go_ret
    exact ⟨rfl, HM.out⟩
theorem rfflush_any (hk : k ≤ 100000) (h : Rf w S X k x) : Calls Try.prog 70 #[.pointer (some ⟨X, 0, none⟩)] w fun e w' => e = .returned (.int .i64 x.flushX) ∧ MutR S X k x.flush1 w w' := by
  obtain ⟨hS, AL, cL, ls, AW, cW, ws, hg⟩ := h
  have hstay : MutR S X k x w w := ⟨S, ⟨hS, AL, cL, ls, AW, cW, ws, hg⟩, Fr.refl _ _, fun _ hb => .inl hb⟩
  have c3 := hg.c3
  cases hgg : x.gone
  · rw [hgg] at c3
    have e1 : x.flushX = 0 := by rw [Dv.flushX, hgg]; rfl
    rw [e1]
    have hlen := hg.len
    have HG := Lib.hid hg
    have HS := Lib.hid hS
    have Hgg := Lib.hid hgg
    obtain ⟨i0, hi0, hz0, hz1, hz2⟩ := info_parts infoE9
    clear hg hS hgg hstay e1
    go_enter Try.func70, Try.ntmps70
    go_wp2_with fail
    have BL0 := Lib.hid (show Below w.heap.size w w.drew from Below.drew (Below.refl _ _))
    refine wp_region_held_drew (S := fun w' => Fr (fun b => b = X ∨ Bk AL b ∨ w.heap.size ≤ b) w w') (by kernel_rfl) (Fr.drew (Fr.refl _ _)) (fun hHeld => ?_)
    clear hHeld
    have hHeld : Fr (fun b => b = X ∨ Bk AL b ∨ w.heap.size ≤ b) w w.drew := Fr.drew (Fr.refl _ _)
    have hz_0 : w.heap.size ≤ w.drew.heap.size := Nat.le_refl _
    obtain ⟨v_1, hw⟩ : ∃ v_1, v_1 = w.drew := ⟨_, rfl⟩
    rw [← hw] at hHeld hz_0 BL0 ⊢
    clear hw
    refine wpAnyH_take (i := 0) (oi := ⟨some 7, _, _, _, _, _⟩) (v := ?vg0_2) rfl (by kernel_rfl) (by kernel_rfl) (by kernel_rfl) (fun _ _ _ h => h) (Or.inl ⟨by rfl, ?yg0_2⟩) hHeld ?rg0_2
    case yg0_2 =>
      intro wq hSw
      (try dsimp only at hSw)
      first | (go_simp; done) | (go_simp; with_reducible rfl)
    try simp only [Act.put, List.setIfInBounds_toArray, List.set_cons_zero, List.set_cons_succ]
    refine wpAnyH_take (i := 1) (oi := ⟨some 8, _, _, _, _, _⟩) (v := ?vg1_3) rfl (by kernel_rfl) (by kernel_rfl) (by kernel_rfl) (fun _ _ _ h => h) (Or.inl ⟨by rfl, ?yg1_3⟩) hHeld ?rg1_3
    case yg1_3 =>
      intro wq hSw
      (try dsimp only at hSw)
      first | (go_simp; done) | (go_simp; with_reducible rfl)
    try simp only [Act.put, List.setIfInBounds_toArray, List.set_cons_zero, List.set_cons_succ]
    refine wpAnyH_take (i := 2) (oi := ⟨some 9, _, _, _, _, _⟩) (v := ?vg2_4) rfl (by kernel_rfl) (by kernel_rfl) (by kernel_rfl) (fun _ _ _ h => h) (Or.inl ⟨by rfl, ?yg2_4⟩) hHeld ?rg2_4
    case yg2_4 =>
      intro wq hSw
      (try dsimp only at hSw)
      first | (go_simp; done) | (go_simp; with_reducible rfl)
    try simp only [Act.put, List.setIfInBounds_toArray, List.set_cons_zero, List.set_cons_succ]
    refine wpAnyH_take (i := 3) (oi := ⟨some 10, _, _, _, _, _⟩) (v := ?vg3_5) rfl (by kernel_rfl) (by kernel_rfl) (by kernel_rfl) (fun _ _ _ h => h) (Or.inl ⟨by rfl, ?yg3_5⟩) hHeld ?rg3_5
    case yg3_5 =>
      intro wq hSw
      (try dsimp only at hSw)
      first | (go_simp; done) | (go_simp; with_reducible rfl)
    try simp only [Act.put, List.setIfInBounds_toArray, List.set_cons_zero, List.set_cons_succ]
    refine wpAnyH_take (i := 5) (oi := ⟨some 12, _, _, _, _, _⟩) (v := ?vg5_6) rfl (by kernel_rfl) (by kernel_rfl) (by kernel_rfl) (fun _ _ _ h => h) (Or.inl ⟨by rfl, ?yg5_6⟩) hHeld ?rg5_6
    case yg5_6 =>
      intro wq hSw
      (try dsimp only at hSw)
      first | (go_simp; done) | (go_simp; with_reducible rfl)
    try simp only [Act.put, List.setIfInBounds_toArray, List.set_cons_zero, List.set_cons_succ]
    refine wpAnyH_take (i := 6) (oi := ⟨some 13, _, _, _, _, _⟩) (v := ?vg6_7) rfl (by kernel_rfl) (by kernel_rfl) (by kernel_rfl) (fun _ _ _ h => h) (Or.inl ⟨by rfl, ?yg6_7⟩) hHeld ?rg6_7
    case yg6_7 =>
      intro wq hSw
      (try dsimp only at hSw)
      first | (go_simp; done) | (go_simp; with_reducible rfl)
    try simp only [Act.put, List.setIfInBounds_toArray, List.set_cons_zero, List.set_cons_succ]
    refine wpAnyH_take (i := 7) (oi := ⟨some 14, _, _, _, _, _⟩) (v := ?vg7_8) rfl (by kernel_rfl) (by kernel_rfl) (by kernel_rfl) (fun _ _ _ h => h) (Or.inl ⟨by rfl, ?yg7_8⟩) hHeld ?rg7_8
    case yg7_8 =>
      intro wq hSw
      (try dsimp only at hSw)
      first | (go_simp; done) | (go_simp; with_reducible rfl)
    try simp only [Act.put, List.setIfInBounds_toArray, List.set_cons_zero, List.set_cons_succ]
    refine wpAnyH_ready (rs := [4, 8]) (by kernel_rfl) (by simp) ?_
    refine AllReadyH.cons (o := ⟨some 11, _, _, _, _, _⟩) rfl (fun K hK => ?_) (AllReadyH.cons (o := ⟨some 15, _, _, _, _, _⟩) rfl (fun K hK => ?_) (AllReadyH.nil))
    · have hq := (HG.out.later BL0.out).c1
      go_simp
      refine hK.out _ _ hHeld (fun _ => ?_)
      clear hK K
      try simp only [Act.put, List.setIfInBounds_toArray, List.set_cons_zero, List.set_cons_succ]
      refine wpAnyH_ready (rs := [8]) (by kernel_rfl) (by simp) ?_
      refine AllReadyH.cons (o := ⟨some 15, _, _, _, _, _⟩) rfl (fun K hK => ?_) (AllReadyH.nil)
      have hq := (HG.out.later BL0.out).c2
      go_simp
      refine hK.out _ _ hHeld (fun _ => ?_)
      clear hK K
      try simp only [Act.put, List.setIfInBounds_toArray, List.set_cons_zero, List.set_cons_succ]
      refine wpAnyH_ready (rs := [9]) (by kernel_rfl) (by simp) ?_
      refine AllReadyH.cons (o := ⟨some 16, _, _, _, _, _⟩) rfl (fun K hK => ?_) (AllReadyH.nil)
      refine wp_append_rn (o := ⟨some 16, _, _, _, _, _⟩) (.tmp 11) (.tmp 15) 77 77 rfl i0 (.agg #[.int .i64 0, .slice none 0 0, .int .i64 0, .int .u32 0]) 48 Try.underlying77 hi0 hz0 hz1 hz2 rfl (by decide) rfl (HG.out.later BL0.out).el.rn (.slice AW ws.length cW) ws.length (ws.flatMap emc) rfl ((HG.out.later BL0.out).ew.rn.sl.src Try.underlying77 (by decide) (flat_one emc_one ws)) (by unfold maxLen; omega) (by omega) ?_
      intro A7 c7 w7 hrn hfb hor
      have hfN : Fr (fun b => b = X ∨ Bk AL b ∨ w.heap.size ≤ b) v_1 w7 := hfb.mono (fun b hb => .inr (.inl hb))
      have HRN := Lib.hid hrn
      have HFB := Lib.hid hfb
      have HOR := Lib.hid hor
      clear hrn hfb hor
      have hHeld := hHeld.trans hfN
      have hz_9 := hfN.size
      refine hK.out _ _ hHeld (fun _ => ?_)
      clear hK K hfN
      try simp only [Act.put, List.setIfInBounds_toArray, List.set_cons_zero, List.set_cons_succ]
      refine wpAnyH_take (i := 10) (oi := ⟨some 17, _, _, _, _, _⟩) (v := ?vg10_10) rfl (by kernel_rfl) (by kernel_rfl) (by kernel_rfl) (fun _ _ _ h => h) (Or.inl ⟨by rfl, ?yg10_10⟩) hHeld ?rg10_10
      case yg10_10 =>
        intro wq hSw
        (try dsimp only at hSw)
        first | (go_simp; done) | (go_simp; with_reducible rfl)
      try simp only [Act.put, List.setIfInBounds_toArray, List.set_cons_zero, List.set_cons_succ]
      refine wpAnyH_take (i := 11) (oi := ⟨some 18, _, _, _, _, _⟩) (v := ?vg11_11) rfl (by kernel_rfl) (by kernel_rfl) (by kernel_rfl) (fun _ _ _ h => h) (Or.inl ⟨by rfl, ?yg11_11⟩) hHeld ?rg11_11
      case yg11_11 =>
        intro wq hSw
        (try dsimp only at hSw)
        first | (go_simp; done) | (go_simp; with_reducible rfl)
      try simp only [Act.put, List.setIfInBounds_toArray, List.set_cons_zero, List.set_cons_succ]
      refine wpAnyH_ready (rs := [12]) (by kernel_rfl) (by simp) ?_
      refine AllReadyH.cons (o := ⟨none, _, _, _, _, _⟩) rfl (fun K hK => ?_) (AllReadyH.nil)
      obtain ⟨hF8, hbx8, hrn8, hor8, q1, u1⟩ := Rg.pushL HG.out HS.out BL0.out HFB.out HRN.out HOR.out
      go_simp
      clear q1 u1
      have hfN : Fr (fun b => b = X ∨ Bk AL b ∨ w.heap.size ≤ b) w7 (w7.setCell ⟨X, 1, none⟩ (.slice A7 (ls.length + ws.length) c7)) := (Fr.refl (fun b => b = X ∨ Bk AL b ∨ w.heap.size ≤ b) _).setCell (p := ⟨X, 1, none⟩) (.inr (.inl rfl)) _
      obtain ⟨w8, hw⟩ : ∃ v, v = w7.setCell ⟨X, 1, none⟩ (.slice A7 (ls.length + ws.length) c7) := ⟨_, rfl⟩
      rw [← hw] at hfN hF8 hbx8 hrn8 ⊢
      clear hw
      have F8 := Lib.hid hF8
      have BX8 := Lib.hid hbx8
      have RN8 := Lib.hid hrn8
      have OR8 := Lib.hid hor8
      clear hF8 hbx8 hrn8 hor8
      have hHeld := hHeld.trans hfN
      have hz_12 := hfN.size
      refine hK.out _ _ hHeld (fun _ => ?_)
      clear hK K hfN
      try simp only [Act.put]
      refine wpAnyH_done (by kernel_rfl) ?_ _
      clear hHeld
      have q2 : w8.cell? ⟨X, 2, none⟩ = some (.slice AW ws.length cW) := by rw [cell_of_row _ _ _ _ _ _ BX8.out]; rfl
      have u2 : w8.frozen? ⟨X, 2, none⟩ = false := frozen_of_row _ _ _ _ _ BX8.out
      go_wp2_with fail
      go_ret
      exact ⟨rfl, flushedR9 HG.out HS.out Hgg.out F8.out BX8.out RN8.out OR8.out⟩
    · have hq := (HG.out.later BL0.out).c2
      go_simp
      refine hK.out _ _ hHeld (fun _ => ?_)
      clear hK K
      try simp only [Act.put, List.setIfInBounds_toArray, List.set_cons_zero, List.set_cons_succ]
      refine wpAnyH_ready (rs := [4]) (by kernel_rfl) (by simp) ?_
      refine AllReadyH.cons (o := ⟨some 11, _, _, _, _, _⟩) rfl (fun K hK => ?_) (AllReadyH.nil)
      have hq := (HG.out.later BL0.out).c1
      go_simp
      refine hK.out _ _ hHeld (fun _ => ?_)
      clear hK K
      try simp only [Act.put, List.setIfInBounds_toArray, List.set_cons_zero, List.set_cons_succ]
      refine wpAnyH_ready (rs := [9]) (by kernel_rfl) (by simp) ?_
      refine AllReadyH.cons (o := ⟨some 16, _, _, _, _, _⟩) rfl (fun K hK => ?_) (AllReadyH.nil)
      refine wp_append_rn (o := ⟨some 16, _, _, _, _, _⟩) (.tmp 11) (.tmp 15) 77 77 rfl i0 (.agg #[.int .i64 0, .slice none 0 0, .int .i64 0, .int .u32 0]) 48 Try.underlying77 hi0 hz0 hz1 hz2 rfl (by decide) rfl (HG.out.later BL0.out).el.rn (.slice AW ws.length cW) ws.length (ws.flatMap emc) rfl ((HG.out.later BL0.out).ew.rn.sl.src Try.underlying77 (by decide) (flat_one emc_one ws)) (by unfold maxLen; omega) (by omega) ?_
      intro A7 c7 w7 hrn hfb hor
      have hfN : Fr (fun b => b = X ∨ Bk AL b ∨ w.heap.size ≤ b) v_1 w7 := hfb.mono (fun b hb => .inr (.inl hb))
      have HRN := Lib.hid hrn
      have HFB := Lib.hid hfb
      have HOR := Lib.hid hor
      clear hrn hfb hor
      have hHeld := hHeld.trans hfN
      have hz_13 := hfN.size
      refine hK.out _ _ hHeld (fun _ => ?_)
      clear hK K hfN
      try simp only [Act.put, List.setIfInBounds_toArray, List.set_cons_zero, List.set_cons_succ]
      refine wpAnyH_take (i := 10) (oi := ⟨some 17, _, _, _, _, _⟩) (v := ?vg10_14) rfl (by kernel_rfl) (by kernel_rfl) (by kernel_rfl) (fun _ _ _ h => h) (Or.inl ⟨by rfl, ?yg10_14⟩) hHeld ?rg10_14
      case yg10_14 =>
        intro wq hSw
        (try dsimp only at hSw)
        first | (go_simp; done) | (go_simp; with_reducible rfl)
      try simp only [Act.put, List.setIfInBounds_toArray, List.set_cons_zero, List.set_cons_succ]
      refine wpAnyH_take (i := 11) (oi := ⟨some 18, _, _, _, _, _⟩) (v := ?vg11_15) rfl (by kernel_rfl) (by kernel_rfl) (by kernel_rfl) (fun _ _ _ h => h) (Or.inl ⟨by rfl, ?yg11_15⟩) hHeld ?rg11_15
      case yg11_15 =>
        intro wq hSw
        (try dsimp only at hSw)
        first | (go_simp; done) | (go_simp; with_reducible rfl)
      try simp only [Act.put, List.setIfInBounds_toArray, List.set_cons_zero, List.set_cons_succ]
      refine wpAnyH_ready (rs := [12]) (by kernel_rfl) (by simp) ?_
      refine AllReadyH.cons (o := ⟨none, _, _, _, _, _⟩) rfl (fun K hK => ?_) (AllReadyH.nil)
      obtain ⟨hF8, hbx8, hrn8, hor8, q1, u1⟩ := Rg.pushL HG.out HS.out BL0.out HFB.out HRN.out HOR.out
      go_simp
      clear q1 u1
      have hfN : Fr (fun b => b = X ∨ Bk AL b ∨ w.heap.size ≤ b) w7 (w7.setCell ⟨X, 1, none⟩ (.slice A7 (ls.length + ws.length) c7)) := (Fr.refl (fun b => b = X ∨ Bk AL b ∨ w.heap.size ≤ b) _).setCell (p := ⟨X, 1, none⟩) (.inr (.inl rfl)) _
      obtain ⟨w8, hw⟩ : ∃ v, v = w7.setCell ⟨X, 1, none⟩ (.slice A7 (ls.length + ws.length) c7) := ⟨_, rfl⟩
      rw [← hw] at hfN hF8 hbx8 hrn8 ⊢
      clear hw
      have F8 := Lib.hid hF8
      have BX8 := Lib.hid hbx8
      have RN8 := Lib.hid hrn8
      have OR8 := Lib.hid hor8
      clear hF8 hbx8 hrn8 hor8
      have hHeld := hHeld.trans hfN
      have hz_16 := hfN.size
      refine hK.out _ _ hHeld (fun _ => ?_)
      clear hK K hfN
      try simp only [Act.put]
      refine wpAnyH_done (by kernel_rfl) ?_ _
      clear hHeld
      have q2 : w8.cell? ⟨X, 2, none⟩ = some (.slice AW ws.length cW) := by rw [cell_of_row _ _ _ _ _ _ BX8.out]; rfl
      have u2 : w8.frozen? ⟨X, 2, none⟩ = false := frozen_of_row _ _ _ _ _ BX8.out
      go_wp2_with fail
      go_ret
      exact ⟨rfl, flushedR9 HG.out HS.out Hgg.out F8.out BX8.out RN8.out OR8.out⟩
  · rw [hgg] at c3
    have e1 : x.flushX = 90 := by rw [Dv.flushX, hgg]; rfl
    have e2 : x.flush1 = x := by rw [Dv.flush1, hgg]; rfl
    rw [e1, e2]
    have HM := Lib.hid hstay
    clear e1 e2 hstay
    go_enter Try.func70, Try.ntmps70
    go_wp2_with fail
    go_ret
    exact ⟨rfl, HM.out⟩
theorem rfcrash_any (B : Option Addr) (nk cb : Nat) (ks : List Bool) (hk : k ≤ 100000) (h : Rf w S X k x) (hs : Sl w 1 B nk cb (bcells ks)) (hB : ∀ b o, 0 < nk → B = some ⟨b, o, none⟩ → ¬ S b) :
    Calls Try.prog 71 #[.pointer (some ⟨X, 0, none⟩), .slice B nk cb] w fun e w' => e = .returned (.tuple #[]) ∧ MutR S X k (x.crash ks) w w' := by
  obtain ⟨hS, AL, cL, ls, AW, cW, ws, hg⟩ := h
  have hnk : ks.length = nk := by have := hs.len; rw [bcells_length] at this; omega
  have hlen := hg.len
  obtain ⟨nw, hnw⟩ : ∃ nw, nw = ws.length := ⟨_, rfl⟩
  have hwl : x.wait.length = nw := by rw [hg.rel.wait, List.length_map, List.length_map, hnw]
  have HN := Lib.hid hnw
  have HW := Lib.hid hwl
  have HK := Lib.hid hnk
  have HKs := Lib.hid hs
  have HB := Lib.hid hB
  have HG0 := Lib.hid hg
  have HS0 := Lib.hid (show (∀ b, S b → b < w.heap.size) ∧ Rel x x.n (ls.map Em.ev) (ws.map Em.ev) x.gone from ⟨hS, hg.rel⟩)
  have HC0 := Lib.hid (Cj.start hg hS ks)
  obtain ⟨i0, hi0, hz0, hz1, hz2⟩ := info_parts infoE9
  rw [← hnw] at hlen
  clear hg hS hs hB hnk hnw hwl
  go_enter Try.func71, Try.ntmps71
  go_wp2_with fail
  go_loopw [4] (fun i wr => ∃ (j : Nat) (Sj : Nat → Prop) (Aj : Option Addr) (cj : Nat) (lj : List Em), j ≤ nw ∧ j ≤ nk ∧ i = .int .i64 (j : Int) ∧ Cj w S X k x ks AW cW ws wr j Sj Aj cj lj) (fun i _ => nw - (intOf i).toNat)
  case atStart => exact ⟨0, S, AL, cL, ls, by omega, by omega, rfl, HC0.out⟩
  case round =>
    obtain ⟨j, Sj, Aj, cj, lj, hjw, hjk, rfl, hC⟩ := hrel
    have HC := Lib.hid hC
    have HG := Lib.hid hC.rg
    have HS := Lib.hid hC.lt
    have c2 := hC.rg.c2
    rw [← HN.out] at c2
    have hljl := hC.len
    rw [← HN.out] at hljl
    clear hC
    by_cases hlt : j < nw
    · have hji : (j : Int) < (nw : Int) := by omega
      by_cases hkl : j < nk
      · have hki : (j : Int) < (nk : Int) := by omega
        obtain ⟨em, hm⟩ : ∃ m, ws[j]? = some m := ⟨_, List.getElem?_eq_getElem (by rw [← HN.out]; exact hlt)⟩
        have hB' := HB.out
        obtain ⟨bk, ok, rfl, hck⟩ := HKs.out.at_ hkl
        have hck2 := HC.out.fr.cell_some (hck j (.bool (ks.getD j false)) (by
          have : j < ks.length := by have := HK.out; omega
          simp [bcells, this])) (hB' bk ok (by omega) rfl)
        have Hm := Lib.hid hm
        clear hB' hck
        cases hkj : ks.getD j false
        · rw [hkj] at hck2
          have Hkj := Lib.hid hkj
          clear hkj
          go_wp2_with fail
          go_roundw
          case rel => exact ⟨j + 1, Sj, Aj, cj, lj, by omega, by omega, by go_num, HC.out.skip HS0.out.2 Hm.out Hkj.out⟩
          case measure => simp [intOf]; omega
        · rw [hkj] at hck2
          have Hkj := Lib.hid hkj
          have hgn : x.gone = false := by
            cases hgg : x.gone
            · rfl
            · have h0 := HS0.out.2
              rw [hgg] at h0
              have := h0.dead
              have hl := congrArg List.length this
              rw [List.length_map] at hl
              have := HN.out
              simp at hl
              rw [hl] at this
              simp at this
              omega
          have Hjn := Lib.hid hgn
          have hwc := HG.out.ew.cell hm
          clear hkj hgn
          obtain ⟨ga, hga, -, -, -, -, hrg⟩ := hwc
          have NGa := Lib.hid (show ¬ (ga = X ∨ Bk Aj ga ∨ wr.heap.size ≤ ga) from by
            have hbk : Bk AW ga := ⟨0, hga⟩
            rintro (q | q | q)
            · exact HG.out.ew.rn.neX HG.out.box (by decide) (by rw [← q]; exact hbk)
            · exact HG.out.apart ga q hbk
            · have := HG.out.ew.rn.lt hbk
              omega)
          subst hga
          obtain ⟨ev, Ae, ce⟩ := em
          obtain ⟨at_, eb, off, mask⟩ := ev
          have HRg := Lib.hid (show wr.rangeAt ga (j * 4) [.int .i64 (at_ : Int), .slice Ae eb.length ce, .int .i64 (off : Int), .int .u32 (mask : Int)] from hrg)
          have hnwl : nw = ws.length := HN.out
          clear hm hrg
          go_wp2_with fail
          have BL0 := Lib.hid (show Below wr.heap.size wr wr.drew from Below.drew (Below.refl _ _))
          refine wp_region_held_drew (S := fun w' => Fr (fun b => b = X ∨ Bk Aj b ∨ wr.heap.size ≤ b) wr w') (by kernel_rfl) (Fr.drew (Fr.refl _ _)) (fun hHeld => ?_)
          clear hHeld
          have hHeld : Fr (fun b => b = X ∨ Bk Aj b ∨ wr.heap.size ≤ b) wr wr.drew := Fr.drew (Fr.refl _ _)
          have hz_0 : wr.heap.size ≤ wr.drew.heap.size := Nat.le_refl _
          obtain ⟨v_1, hw⟩ : ∃ v_1, v_1 = wr.drew := ⟨_, rfl⟩
          rw [← hw] at hHeld hz_0 BL0 ⊢
          clear hw
          refine wpAnyH_take (i := 0) (oi := ⟨some 24, _, _, _, _, _⟩) (v := ?vg0_2) rfl (by kernel_rfl) (by kernel_rfl) (by kernel_rfl) (fun _ _ _ h => h) (Or.inl ⟨by rfl, ?yg0_2⟩) hHeld ?rg0_2
          case yg0_2 =>
            intro wq hSw
            (try dsimp only at hSw)
            first | (go_simp; done) | (go_simp; with_reducible rfl)
          try simp only [Act.put, List.setIfInBounds_toArray, List.set_cons_zero, List.set_cons_succ]
          refine wpAnyH_take (i := 1) (oi := ⟨some 25, _, _, _, _, _⟩) (v := ?vg1_3) rfl (by kernel_rfl) (by kernel_rfl) (by kernel_rfl) (fun _ _ _ h => h) (Or.inl ⟨by rfl, ?yg1_3⟩) hHeld ?rg1_3
          case yg1_3 =>
            intro wq hSw
            (try dsimp only at hSw)
            first | (go_simp; done) | (go_simp; with_reducible rfl)
          try simp only [Act.put, List.setIfInBounds_toArray, List.set_cons_zero, List.set_cons_succ]
          refine wpAnyH_take (i := 2) (oi := ⟨some 26, _, _, _, _, _⟩) (v := ?vg2_4) rfl (by kernel_rfl) (by kernel_rfl) (by kernel_rfl) (fun _ _ _ h => h) (Or.inl ⟨by rfl, ?yg2_4⟩) hHeld ?rg2_4
          case yg2_4 =>
            intro wq hSw
            (try dsimp only at hSw)
            first | (go_simp; done) | (go_simp; with_reducible rfl)
          try simp only [Act.put, List.setIfInBounds_toArray, List.set_cons_zero, List.set_cons_succ]
          refine wpAnyH_take (i := 3) (oi := ⟨some 27, _, _, _, _, _⟩) (v := ?vg3_5) rfl (by kernel_rfl) (by kernel_rfl) (by kernel_rfl) (fun _ _ _ h => h) (Or.inl ⟨by rfl, ?yg3_5⟩) hHeld ?rg3_5
          case yg3_5 =>
            intro wq hSw
            (try dsimp only at hSw)
            first | (go_simp; done) | (go_simp; with_reducible rfl)
          try simp only [Act.put, List.setIfInBounds_toArray, List.set_cons_zero, List.set_cons_succ]
          refine wpAnyH_take (i := 5) (oi := ⟨some 29, _, _, _, _, _⟩) (v := ?vg5_6) rfl (by kernel_rfl) (by kernel_rfl) (by kernel_rfl) (fun _ _ _ h => h) (Or.inl ⟨by rfl, ?yg5_6⟩) hHeld ?rg5_6
          case yg5_6 =>
            intro wq hSw
            (try dsimp only at hSw)
            first | (go_simp; done) | (go_simp; with_reducible rfl)
          try simp only [Act.put, List.setIfInBounds_toArray, List.set_cons_zero, List.set_cons_succ]
          refine wpAnyH_take (i := 6) (oi := ⟨some 30, _, _, _, _, _⟩) (v := ?vg6_7) rfl (by kernel_rfl) (by kernel_rfl) (by kernel_rfl) (fun _ _ _ h => h) (Or.inl ⟨by rfl, ?yg6_7⟩) hHeld ?rg6_7
          case yg6_7 =>
            intro wq hSw
            (try dsimp only at hSw)
            first | (go_simp; done) | (go_simp; with_reducible rfl)
          try simp only [Act.put, List.setIfInBounds_toArray, List.set_cons_zero, List.set_cons_succ]
          refine wpAnyH_take (i := 7) (oi := ⟨some 31, _, _, _, _, _⟩) (v := ?vg7_8) rfl (by kernel_rfl) (by kernel_rfl) (by kernel_rfl) (fun _ _ _ h => h) (Or.inl ⟨by rfl, ?yg7_8⟩) hHeld ?rg7_8
          case yg7_8 =>
            intro wq hSw
            (try dsimp only at hSw)
            first | (go_simp; done) | (go_simp; with_reducible rfl)
          try simp only [Act.put, List.setIfInBounds_toArray, List.set_cons_zero, List.set_cons_succ]
          refine wpAnyH_take (i := 9) (oi := ⟨some 33, _, _, _, _, _⟩) (v := ?vg9_9) rfl (by kernel_rfl) (by kernel_rfl) (by kernel_rfl) (fun _ _ _ h => h) (Or.inl ⟨by rfl, ?yg9_9⟩) hHeld ?rg9_9
          case yg9_9 =>
            intro wq hSw
            (try dsimp only at hSw)
            first | (go_simp; done) | (go_simp; with_reducible rfl)
          try simp only [Act.put, List.setIfInBounds_toArray, List.set_cons_zero, List.set_cons_succ]
          refine wpAnyH_ready (rs := [4, 8]) (by kernel_rfl) (by simp) ?_
          refine AllReadyH.cons (o := ⟨some 28, _, _, _, _, _⟩) rfl (fun K hK => ?_) (AllReadyH.cons (o := ⟨some 32, _, _, _, _, _⟩) rfl (fun K hK => ?_) (AllReadyH.nil))
          · have hq := (HG.out.later BL0.out).c1
            go_simp
            refine hK.out _ _ hHeld (fun _ => ?_)
            clear hK K
            try simp only [Act.put, List.setIfInBounds_toArray, List.set_cons_zero, List.set_cons_succ]
            refine wpAnyH_ready (rs := [8]) (by kernel_rfl) (by simp) ?_
            refine AllReadyH.cons (o := ⟨some 32, _, _, _, _, _⟩) rfl (fun K hK => ?_) (AllReadyH.nil)
            have hq := (HG.out.later BL0.out).c2
            go_simp
            refine hK.out _ _ hHeld (fun _ => ?_)
            clear hK K
            try simp only [Act.put, List.setIfInBounds_toArray, List.set_cons_zero, List.set_cons_succ]
            refine wpAnyH_take (i := 10) (oi := ⟨some 34, _, _, _, _, _⟩) (v := ?vg10_10) rfl (by kernel_rfl) (by kernel_rfl) (by kernel_rfl) (fun _ _ _ h => h) (Or.inl ⟨by rfl, ?yg10_10⟩) hHeld ?rg10_10
            case yg10_10 =>
              intro wq hSw
              (try dsimp only at hSw)
              first | (go_simp; done) | (go_simp; with_reducible rfl)
            try simp only [Act.put, List.setIfInBounds_toArray, List.set_cons_zero, List.set_cons_succ]
            refine wpAnyH_take (i := 11) (oi := ⟨some 35, _, _, _, _, _⟩) (v := (.agg #[.int .i64 (at_ : Int), .slice Ae eb.length ce, .int .i64 (off : Int), .int .u32 (mask : Int)])) rfl (by kernel_rfl) (by kernel_rfl) (by kernel_rfl) (fun _ _ _ h => h) (Or.inl ⟨by rfl, ?yg11_11⟩) hHeld ?rg11_11
            case yg11_11 =>
              intro wq hSw
              exact step_loadE9 (x := .tmp 34) (b := ga) (off := j * 4) rfl rfl (fun q v hv => hSw.cell_some (HRg.out q v hv) NGa.out)
            try simp only [Act.put, List.setIfInBounds_toArray, List.set_cons_zero, List.set_cons_succ]
            refine wpAnyH_ready (rs := [12]) (by kernel_rfl) (by simp) ?_
            refine AllReadyH.cons (o := ⟨some 36, _, _, _, _, _⟩) rfl (fun K hK => ?_) (AllReadyH.nil)
            refine wp_buildSlice (o := ⟨some 36, _, _, _, _, _⟩) 77 115 1 #[(0, .tmp 35)] rfl #[.int .i64 (at_ : Int), .slice Ae eb.length ce, .int .i64 (off : Int), .int .u32 (mask : Int)] i0 (.agg #[.int .i64 0, .slice none 0 0, .int .i64 0, .int .u32 0]) Try.underlying77 hi0 hz0 (by rw [hz1]; decide) (by rw [hz1]; decide) (by rw [hz1]; exact fillE9a _ _ rfl) ?_
            have hsl := Sl.made v_1 #[.int .i64 (at_ : Int), .slice Ae eb.length ce, .int .i64 (off : Int), .int .u32 (mask : Int)] 115 4 1 rfl (by decide)
            have hb := (Below.refl v_1.heap.size v_1).alloc (Nat.le_refl _) (.cells #[.int .i64 (at_ : Int), .slice Ae eb.length ce, .int .i64 (off : Int), .int .u32 (mask : Int)] 115)
            obtain ⟨v_12, hw⟩ : ∃ v, v = v_1.alloc (.cells #[.int .i64 (at_ : Int), .slice Ae eb.length ce, .int .i64 (off : Int), .int .u32 (mask : Int)] 115) := ⟨_, rfl⟩
            rw [← hw] at hb hsl ⊢
            clear hw
            have hfN := Fr.of_below (S := fun b => b = X ∨ Bk Aj b ∨ wr.heap.size ≤ b) hb
            have bl_13 := Lib.hid (BL0.out.trans (hb.mono BL0.out.size))
            have sb_14 := Lib.hid hsl
            clear hsl hb
            have hHeld := hHeld.trans hfN
            have hz_15 := hfN.size
            refine hK.out _ _ hHeld (fun _ => ?_)
            clear hK K hfN
            try simp only [Act.put, List.setIfInBounds_toArray, List.set_cons_zero, List.set_cons_succ]
            refine wpAnyH_ready (rs := [13]) (by kernel_rfl) (by simp) ?_
            refine AllReadyH.cons (o := ⟨some 37, _, _, _, _, _⟩) rfl (fun K hK => ?_) (AllReadyH.nil)
            refine wp_append_rn (o := ⟨some 37, _, _, _, _, _⟩) (.tmp 28) (.tmp 36) 77 77 rfl i0 (.agg #[.int .i64 0, .slice none 0 0, .int .i64 0, .int .u32 0]) 48 Try.underlying77 hi0 hz0 hz1 hz2 rfl (by decide) rfl (HG.out.later bl_13.out).el.rn (.slice (some ⟨v_1.heap.size, 0, none⟩) 1 1) 1 [.int .i64 (at_ : Int), .slice Ae eb.length ce, .int .i64 (off : Int), .int .u32 (mask : Int)] rfl (sb_14.out.src Try.underlying77 (by decide) (fun u hu => by simp at hu; rcases hu with rfl | rfl | rfl | rfl <;> rfl)) (by unfold maxLen; omega) (by omega) ?_
            intro A7 c7 w7 hrn hfb hor
            have hfN : Fr (fun b => b = X ∨ Bk Aj b ∨ wr.heap.size ≤ b) v_12 w7 := hfb.mono (fun b hb => .inr (.inl hb))
            have HRN := Lib.hid hrn
            have HFB := Lib.hid hfb
            have HOR := Lib.hid hor
            clear hrn hfb hor
            have hHeld := hHeld.trans hfN
            have hz_16 := hfN.size
            refine hK.out _ _ hHeld (fun _ => ?_)
            clear hK K hfN
            try simp only [Act.put, List.setIfInBounds_toArray, List.set_cons_zero, List.set_cons_succ]
            refine wpAnyH_take (i := 14) (oi := ⟨some 38, _, _, _, _, _⟩) (v := ?vg14_17) rfl (by kernel_rfl) (by kernel_rfl) (by kernel_rfl) (fun _ _ _ h => h) (Or.inl ⟨by rfl, ?yg14_17⟩) hHeld ?rg14_17
            case yg14_17 =>
              intro wq hSw
              (try dsimp only at hSw)
              first | (go_simp; done) | (go_simp; with_reducible rfl)
            try simp only [Act.put, List.setIfInBounds_toArray, List.set_cons_zero, List.set_cons_succ]
            refine wpAnyH_take (i := 15) (oi := ⟨some 39, _, _, _, _, _⟩) (v := ?vg15_18) rfl (by kernel_rfl) (by kernel_rfl) (by kernel_rfl) (fun _ _ _ h => h) (Or.inl ⟨by rfl, ?yg15_18⟩) hHeld ?rg15_18
            case yg15_18 =>
              intro wq hSw
              (try dsimp only at hSw)
              first | (go_simp; done) | (go_simp; with_reducible rfl)
            try simp only [Act.put, List.setIfInBounds_toArray, List.set_cons_zero, List.set_cons_succ]
            refine wpAnyH_ready (rs := [16]) (by kernel_rfl) (by simp) ?_
            refine AllReadyH.cons (o := ⟨none, _, _, _, _, _⟩) rfl (fun K hK => ?_) (AllReadyH.nil)
            obtain ⟨hF8, hbx8, hrn8, hor8, q1, u1⟩ := Rg.pushL HG.out HS.out bl_13.out HFB.out HRN.out HOR.out
            go_simp
            clear q1 u1
            have hfN : Fr (fun b => b = X ∨ Bk Aj b ∨ wr.heap.size ≤ b) w7 (w7.setCell ⟨X, 1, none⟩ (.slice A7 (lj.length + 1) c7)) := (Fr.refl (fun b => b = X ∨ Bk Aj b ∨ wr.heap.size ≤ b) _).setCell (p := ⟨X, 1, none⟩) (.inr (.inl rfl)) _
            obtain ⟨w8, hw⟩ : ∃ v, v = w7.setCell ⟨X, 1, none⟩ (.slice A7 (lj.length + 1) c7) := ⟨_, rfl⟩
            rw [← hw] at hfN hF8 hbx8 hrn8 ⊢
            clear hw
            have F8 := Lib.hid hF8
            have BX8 := Lib.hid hbx8
            have RN8 := Lib.hid hrn8
            have OR8 := Lib.hid hor8
            clear hF8 hbx8 hrn8 hor8
            have hHeld := hHeld.trans hfN
            have hz_19 := hfN.size
            refine hK.out _ _ hHeld (fun _ => ?_)
            clear hK K hfN
            try simp only [Act.put]
            refine wpAnyH_done (by kernel_rfl) ?_ _
            clear hHeld
            go_wp2_with fail
            go_roundw
            case rel => exact ⟨j + 1, Sn Sj wr w8, A7, c7, _, by omega, by omega, by go_num, HC.out.step HS0.out Hm.out Hkj.out Hjn.out F8.out BX8.out RN8.out OR8.out⟩
            case measure => simp [intOf]; omega
          · have hq := (HG.out.later BL0.out).c2
            go_simp
            refine hK.out _ _ hHeld (fun _ => ?_)
            clear hK K
            try simp only [Act.put, List.setIfInBounds_toArray, List.set_cons_zero, List.set_cons_succ]
            refine wpAnyH_take (i := 10) (oi := ⟨some 34, _, _, _, _, _⟩) (v := ?vg10_20) rfl (by kernel_rfl) (by kernel_rfl) (by kernel_rfl) (fun _ _ _ h => h) (Or.inl ⟨by rfl, ?yg10_20⟩) hHeld ?rg10_20
            case yg10_20 =>
              intro wq hSw
              (try dsimp only at hSw)
              first | (go_simp; done) | (go_simp; with_reducible rfl)
            try simp only [Act.put, List.setIfInBounds_toArray, List.set_cons_zero, List.set_cons_succ]
            refine wpAnyH_take (i := 11) (oi := ⟨some 35, _, _, _, _, _⟩) (v := (.agg #[.int .i64 (at_ : Int), .slice Ae eb.length ce, .int .i64 (off : Int), .int .u32 (mask : Int)])) rfl (by kernel_rfl) (by kernel_rfl) (by kernel_rfl) (fun _ _ _ h => h) (Or.inl ⟨by rfl, ?yg11_21⟩) hHeld ?rg11_21
            case yg11_21 =>
              intro wq hSw
              exact step_loadE9 (x := .tmp 34) (b := ga) (off := j * 4) rfl rfl (fun q v hv => hSw.cell_some (HRg.out q v hv) NGa.out)
            try simp only [Act.put, List.setIfInBounds_toArray, List.set_cons_zero, List.set_cons_succ]
            refine wpAnyH_ready (rs := [4, 12]) (by kernel_rfl) (by simp) ?_
            refine AllReadyH.cons (o := ⟨some 28, _, _, _, _, _⟩) rfl (fun K hK => ?_) (AllReadyH.cons (o := ⟨some 36, _, _, _, _, _⟩) rfl (fun K hK => ?_) (AllReadyH.nil))
            · have hq := (HG.out.later BL0.out).c1
              go_simp
              refine hK.out _ _ hHeld (fun _ => ?_)
              clear hK K
              try simp only [Act.put, List.setIfInBounds_toArray, List.set_cons_zero, List.set_cons_succ]
              refine wpAnyH_ready (rs := [12]) (by kernel_rfl) (by simp) ?_
              refine AllReadyH.cons (o := ⟨some 36, _, _, _, _, _⟩) rfl (fun K hK => ?_) (AllReadyH.nil)
              refine wp_buildSlice (o := ⟨some 36, _, _, _, _, _⟩) 77 115 1 #[(0, .tmp 35)] rfl #[.int .i64 (at_ : Int), .slice Ae eb.length ce, .int .i64 (off : Int), .int .u32 (mask : Int)] i0 (.agg #[.int .i64 0, .slice none 0 0, .int .i64 0, .int .u32 0]) Try.underlying77 hi0 hz0 (by rw [hz1]; decide) (by rw [hz1]; decide) (by rw [hz1]; exact fillE9a _ _ rfl) ?_
              have hsl := Sl.made v_1 #[.int .i64 (at_ : Int), .slice Ae eb.length ce, .int .i64 (off : Int), .int .u32 (mask : Int)] 115 4 1 rfl (by decide)
              have hb := (Below.refl v_1.heap.size v_1).alloc (Nat.le_refl _) (.cells #[.int .i64 (at_ : Int), .slice Ae eb.length ce, .int .i64 (off : Int), .int .u32 (mask : Int)] 115)
              obtain ⟨v_22, hw⟩ : ∃ v, v = v_1.alloc (.cells #[.int .i64 (at_ : Int), .slice Ae eb.length ce, .int .i64 (off : Int), .int .u32 (mask : Int)] 115) := ⟨_, rfl⟩
              rw [← hw] at hb hsl ⊢
              clear hw
              have hfN := Fr.of_below (S := fun b => b = X ∨ Bk Aj b ∨ wr.heap.size ≤ b) hb
              have bl_23 := Lib.hid (BL0.out.trans (hb.mono BL0.out.size))
              have sb_24 := Lib.hid hsl
              clear hsl hb
              have hHeld := hHeld.trans hfN
              have hz_25 := hfN.size
              refine hK.out _ _ hHeld (fun _ => ?_)
              clear hK K hfN
              try simp only [Act.put, List.setIfInBounds_toArray, List.set_cons_zero, List.set_cons_succ]
              refine wpAnyH_ready (rs := [13]) (by kernel_rfl) (by simp) ?_
              refine AllReadyH.cons (o := ⟨some 37, _, _, _, _, _⟩) rfl (fun K hK => ?_) (AllReadyH.nil)
              refine wp_append_rn (o := ⟨some 37, _, _, _, _, _⟩) (.tmp 28) (.tmp 36) 77 77 rfl i0 (.agg #[.int .i64 0, .slice none 0 0, .int .i64 0, .int .u32 0]) 48 Try.underlying77 hi0 hz0 hz1 hz2 rfl (by decide) rfl (HG.out.later bl_23.out).el.rn (.slice (some ⟨v_1.heap.size, 0, none⟩) 1 1) 1 [.int .i64 (at_ : Int), .slice Ae eb.length ce, .int .i64 (off : Int), .int .u32 (mask : Int)] rfl (sb_24.out.src Try.underlying77 (by decide) (fun u hu => by simp at hu; rcases hu with rfl | rfl | rfl | rfl <;> rfl)) (by unfold maxLen; omega) (by omega) ?_
              intro A7 c7 w7 hrn hfb hor
              have hfN : Fr (fun b => b = X ∨ Bk Aj b ∨ wr.heap.size ≤ b) v_22 w7 := hfb.mono (fun b hb => .inr (.inl hb))
              have HRN := Lib.hid hrn
              have HFB := Lib.hid hfb
              have HOR := Lib.hid hor
              clear hrn hfb hor
              have hHeld := hHeld.trans hfN
              have hz_26 := hfN.size
              refine hK.out _ _ hHeld (fun _ => ?_)
              clear hK K hfN
              try simp only [Act.put, List.setIfInBounds_toArray, List.set_cons_zero, List.set_cons_succ]
              refine wpAnyH_take (i := 14) (oi := ⟨some 38, _, _, _, _, _⟩) (v := ?vg14_27) rfl (by kernel_rfl) (by kernel_rfl) (by kernel_rfl) (fun _ _ _ h => h) (Or.inl ⟨by rfl, ?yg14_27⟩) hHeld ?rg14_27
              case yg14_27 =>
                intro wq hSw
                (try dsimp only at hSw)
                first | (go_simp; done) | (go_simp; with_reducible rfl)
              try simp only [Act.put, List.setIfInBounds_toArray, List.set_cons_zero, List.set_cons_succ]
              refine wpAnyH_take (i := 15) (oi := ⟨some 39, _, _, _, _, _⟩) (v := ?vg15_28) rfl (by kernel_rfl) (by kernel_rfl) (by kernel_rfl) (fun _ _ _ h => h) (Or.inl ⟨by rfl, ?yg15_28⟩) hHeld ?rg15_28
              case yg15_28 =>
                intro wq hSw
                (try dsimp only at hSw)
                first | (go_simp; done) | (go_simp; with_reducible rfl)
              try simp only [Act.put, List.setIfInBounds_toArray, List.set_cons_zero, List.set_cons_succ]
              refine wpAnyH_ready (rs := [16]) (by kernel_rfl) (by simp) ?_
              refine AllReadyH.cons (o := ⟨none, _, _, _, _, _⟩) rfl (fun K hK => ?_) (AllReadyH.nil)
              obtain ⟨hF8, hbx8, hrn8, hor8, q1, u1⟩ := Rg.pushL HG.out HS.out bl_23.out HFB.out HRN.out HOR.out
              go_simp
              clear q1 u1
              have hfN : Fr (fun b => b = X ∨ Bk Aj b ∨ wr.heap.size ≤ b) w7 (w7.setCell ⟨X, 1, none⟩ (.slice A7 (lj.length + 1) c7)) := (Fr.refl (fun b => b = X ∨ Bk Aj b ∨ wr.heap.size ≤ b) _).setCell (p := ⟨X, 1, none⟩) (.inr (.inl rfl)) _
              obtain ⟨w8, hw⟩ : ∃ v, v = w7.setCell ⟨X, 1, none⟩ (.slice A7 (lj.length + 1) c7) := ⟨_, rfl⟩
              rw [← hw] at hfN hF8 hbx8 hrn8 ⊢
              clear hw
              have F8 := Lib.hid hF8
              have BX8 := Lib.hid hbx8
              have RN8 := Lib.hid hrn8
              have OR8 := Lib.hid hor8
              clear hF8 hbx8 hrn8 hor8
              have hHeld := hHeld.trans hfN
              have hz_29 := hfN.size
              refine hK.out _ _ hHeld (fun _ => ?_)
              clear hK K hfN
              try simp only [Act.put]
              refine wpAnyH_done (by kernel_rfl) ?_ _
              clear hHeld
              go_wp2_with fail
              go_roundw
              case rel => exact ⟨j + 1, Sn Sj wr w8, A7, c7, _, by omega, by omega, by go_num, HC.out.step HS0.out Hm.out Hkj.out Hjn.out F8.out BX8.out RN8.out OR8.out⟩
              case measure => simp [intOf]; omega
            · refine wp_buildSlice (o := ⟨some 36, _, _, _, _, _⟩) 77 115 1 #[(0, .tmp 35)] rfl #[.int .i64 (at_ : Int), .slice Ae eb.length ce, .int .i64 (off : Int), .int .u32 (mask : Int)] i0 (.agg #[.int .i64 0, .slice none 0 0, .int .i64 0, .int .u32 0]) Try.underlying77 hi0 hz0 (by rw [hz1]; decide) (by rw [hz1]; decide) (by rw [hz1]; exact fillE9a _ _ rfl) ?_
              have hsl := Sl.made v_1 #[.int .i64 (at_ : Int), .slice Ae eb.length ce, .int .i64 (off : Int), .int .u32 (mask : Int)] 115 4 1 rfl (by decide)
              have hb := (Below.refl v_1.heap.size v_1).alloc (Nat.le_refl _) (.cells #[.int .i64 (at_ : Int), .slice Ae eb.length ce, .int .i64 (off : Int), .int .u32 (mask : Int)] 115)
              obtain ⟨v_30, hw⟩ : ∃ v, v = v_1.alloc (.cells #[.int .i64 (at_ : Int), .slice Ae eb.length ce, .int .i64 (off : Int), .int .u32 (mask : Int)] 115) := ⟨_, rfl⟩
              rw [← hw] at hb hsl ⊢
              clear hw
              have hfN := Fr.of_below (S := fun b => b = X ∨ Bk Aj b ∨ wr.heap.size ≤ b) hb
              have bl_31 := Lib.hid (BL0.out.trans (hb.mono BL0.out.size))
              have sb_32 := Lib.hid hsl
              clear hsl hb
              have hHeld := hHeld.trans hfN
              have hz_33 := hfN.size
              refine hK.out _ _ hHeld (fun _ => ?_)
              clear hK K hfN
              try simp only [Act.put, List.setIfInBounds_toArray, List.set_cons_zero, List.set_cons_succ]
              refine wpAnyH_ready (rs := [4]) (by kernel_rfl) (by simp) ?_
              refine AllReadyH.cons (o := ⟨some 28, _, _, _, _, _⟩) rfl (fun K hK => ?_) (AllReadyH.nil)
              have hq := (HG.out.later bl_31.out).c1
              go_simp
              refine hK.out _ _ hHeld (fun _ => ?_)
              clear hK K
              try simp only [Act.put, List.setIfInBounds_toArray, List.set_cons_zero, List.set_cons_succ]
              refine wpAnyH_ready (rs := [13]) (by kernel_rfl) (by simp) ?_
              refine AllReadyH.cons (o := ⟨some 37, _, _, _, _, _⟩) rfl (fun K hK => ?_) (AllReadyH.nil)
              refine wp_append_rn (o := ⟨some 37, _, _, _, _, _⟩) (.tmp 28) (.tmp 36) 77 77 rfl i0 (.agg #[.int .i64 0, .slice none 0 0, .int .i64 0, .int .u32 0]) 48 Try.underlying77 hi0 hz0 hz1 hz2 rfl (by decide) rfl (HG.out.later bl_31.out).el.rn (.slice (some ⟨v_1.heap.size, 0, none⟩) 1 1) 1 [.int .i64 (at_ : Int), .slice Ae eb.length ce, .int .i64 (off : Int), .int .u32 (mask : Int)] rfl (sb_32.out.src Try.underlying77 (by decide) (fun u hu => by simp at hu; rcases hu with rfl | rfl | rfl | rfl <;> rfl)) (by unfold maxLen; omega) (by omega) ?_
              intro A7 c7 w7 hrn hfb hor
              have hfN : Fr (fun b => b = X ∨ Bk Aj b ∨ wr.heap.size ≤ b) v_30 w7 := hfb.mono (fun b hb => .inr (.inl hb))
              have HRN := Lib.hid hrn
              have HFB := Lib.hid hfb
              have HOR := Lib.hid hor
              clear hrn hfb hor
              have hHeld := hHeld.trans hfN
              have hz_34 := hfN.size
              refine hK.out _ _ hHeld (fun _ => ?_)
              clear hK K hfN
              try simp only [Act.put, List.setIfInBounds_toArray, List.set_cons_zero, List.set_cons_succ]
              refine wpAnyH_take (i := 14) (oi := ⟨some 38, _, _, _, _, _⟩) (v := ?vg14_35) rfl (by kernel_rfl) (by kernel_rfl) (by kernel_rfl) (fun _ _ _ h => h) (Or.inl ⟨by rfl, ?yg14_35⟩) hHeld ?rg14_35
              case yg14_35 =>
                intro wq hSw
                (try dsimp only at hSw)
                first | (go_simp; done) | (go_simp; with_reducible rfl)
              try simp only [Act.put, List.setIfInBounds_toArray, List.set_cons_zero, List.set_cons_succ]
              refine wpAnyH_take (i := 15) (oi := ⟨some 39, _, _, _, _, _⟩) (v := ?vg15_36) rfl (by kernel_rfl) (by kernel_rfl) (by kernel_rfl) (fun _ _ _ h => h) (Or.inl ⟨by rfl, ?yg15_36⟩) hHeld ?rg15_36
              case yg15_36 =>
                intro wq hSw
                (try dsimp only at hSw)
                first | (go_simp; done) | (go_simp; with_reducible rfl)
              try simp only [Act.put, List.setIfInBounds_toArray, List.set_cons_zero, List.set_cons_succ]
              refine wpAnyH_ready (rs := [16]) (by kernel_rfl) (by simp) ?_
              refine AllReadyH.cons (o := ⟨none, _, _, _, _, _⟩) rfl (fun K hK => ?_) (AllReadyH.nil)
              obtain ⟨hF8, hbx8, hrn8, hor8, q1, u1⟩ := Rg.pushL HG.out HS.out bl_31.out HFB.out HRN.out HOR.out
              go_simp
              clear q1 u1
              have hfN : Fr (fun b => b = X ∨ Bk Aj b ∨ wr.heap.size ≤ b) w7 (w7.setCell ⟨X, 1, none⟩ (.slice A7 (lj.length + 1) c7)) := (Fr.refl (fun b => b = X ∨ Bk Aj b ∨ wr.heap.size ≤ b) _).setCell (p := ⟨X, 1, none⟩) (.inr (.inl rfl)) _
              obtain ⟨w8, hw⟩ : ∃ v, v = w7.setCell ⟨X, 1, none⟩ (.slice A7 (lj.length + 1) c7) := ⟨_, rfl⟩
              rw [← hw] at hfN hF8 hbx8 hrn8 ⊢
              clear hw
              have F8 := Lib.hid hF8
              have BX8 := Lib.hid hbx8
              have RN8 := Lib.hid hrn8
              have OR8 := Lib.hid hor8
              clear hF8 hbx8 hrn8 hor8
              have hHeld := hHeld.trans hfN
              have hz_37 := hfN.size
              refine hK.out _ _ hHeld (fun _ => ?_)
              clear hK K hfN
              try simp only [Act.put]
              refine wpAnyH_done (by kernel_rfl) ?_ _
              clear hHeld
              go_wp2_with fail
              go_roundw
              case rel => exact ⟨j + 1, Sn Sj wr w8, A7, c7, _, by omega, by omega, by go_num, HC.out.step HS0.out Hm.out Hkj.out Hjn.out F8.out BX8.out RN8.out OR8.out⟩
              case measure => simp [intOf]; omega
      · have hki : ¬ (j : Int) < (nk : Int) := by omega
        have hx : x.crash ks = (x.puts (Dv.kept (x.wait.take j) ks)).quiet := by
          rw [kept_stop x.wait ks j (by have := HK.out; omega)]; rfl
        have Hx := Lib.hid hx
        have kf := HG.out.free 2
        clear hx
        go_wp2_with fail
        go_end0
        obtain ⟨q1, q2⟩ := HG.out.calm (k' := k) HS.out (by omega)
        rw [Hx.out]
        exact ⟨rfl, Sj, q1, HC.out.fr.into (q2.mono fun b hb => by rw [hb]; exact HG.out.own) HC.out.sub, HC.out.sub⟩
    · have hji : ¬ (j : Int) < (nw : Int) := by omega
      have hx : x.crash ks = (x.puts (Dv.kept (x.wait.take j) ks)).quiet := by
        rw [List.take_of_length_le (by have := HW.out; omega)]; rfl
      have Hx := Lib.hid hx
      have kf := HG.out.free 2
      clear hx
      go_wp2_with fail
      go_end0
      obtain ⟨q1, q2⟩ := HG.out.calm (k' := k) HS.out (by omega)
      rw [Hx.out]
      exact ⟨rfl, Sj, q1, HC.out.fr.into (q2.mono fun b hb => by rw [hb]; exact HG.out.own) HC.out.sub, HC.out.sub⟩
end
end Go.Proofs.Ytjjoeaneaibklaa

namespace Go.Proofs.Ytjjoeaneaibklaa
open Go.RowKit Go.Proofs
set_option linter.unusedVariables false

section
variable {w : World} {S : Nat → Prop} {X k : Nat} {x : Dv}
set_option maxRecDepth 100000
set_option maxHeartbeats 4000000
theorem rfrot_any (z off : Int) (mask : Nat) (h1 : -9223372036854775808 ≤ z) (h2 : z < 9223372036854775808) (h3 : -9223372036854775808 ≤ off) (h4 : off < 9223372036854775808) (h5 : mask < 4294967296) (hk : k ≤ 100000) (h : Rf w S X k x) :
    Calls Try.prog 74 #[.pointer (some ⟨X, 0, none⟩), .int .i64 z, .int .i64 off, .int .u32 (mask : Int)] w fun e w' => e = .returned (.int .i64 (x.rotX z off (mask : Int))) ∧ MutR S X (k + 1) (x.rot1 z off (mask : Int)) w w' := by
  obtain ⟨hS, AL, cL, ls, AW, cW, ws, hg⟩ := h
  have hstay : MutR S X (k + 1) x w w := ⟨S, Rf.mono ⟨hS, AL, cL, ls, AW, cW, ws, hg⟩ (Nat.le_succ _), Fr.refl _ _, fun _ hb => .inl hb⟩
  have HM := Lib.hid hstay
  have c3 := hg.c3
  have hhas := rfhas_any z h1 h2 hg
  have hrt := rfrotten_any z h1 h2 hk hg
  clear hstay
  cases hgg : x.gone
  · rw [hgg] at c3
    by_cases hx : x.has z
    · rw [decide_eq_true hx] at hhas
      by_cases hok : 0 ≤ off ∧ off ≤ 60 ∧ (mask : Int) ≠ 0
      · have e0 : x.rotX z off (mask : Int) = if x.rot.getD z.toNat false = true then 91 else 0 := by
          rw [Dv.rotX, if_neg (by rw [hgg]; decide), if_neg (fun hh => hh ⟨hx, hok.1, hok.2.1, hok.2.2⟩)]
        have er : x.rottenB z = x.rot.getD z.toNat false := by rw [Dv.rottenB, decide_eq_true ⟨hgg, hx⟩, Bool.true_and]
        rw [er] at hrt
        have hz := hx
        unfold Dv.has at hz
        obtain ⟨P, rfl⟩ : ∃ i : Nat, z = (i : Int) := ⟨z.toNat, by omega⟩
        obtain ⟨O, rfl⟩ : ∃ i : Nat, off = (i : Int) := ⟨off.toNat, by omega⟩
        have hP : P < x.n := by omega
        have hO : O ≤ 60 := by omega
        have hO0 : ¬ (O : Int) < 0 := by omega
        have hOi : ¬ (60 : Int) < (O : Int) := by omega
        have hmk : ((mask : Int) == 0) = false := by have := hok.2.2; simpa using this
        have hm0 : mask ≠ 0 := by have := hok.2.2; omega
        rw [Int.toNat_natCast] at e0 hrt
        cases hr : x.rot.getD P false
        · rw [hr] at e0 hrt
          have e1 : x.rotX (P : Int) (O : Int) (mask : Int) = 0 := e0
          rw [e1]
          have c1 := hg.c1
          have hlen := hg.len
          have hrel := hg.rel
          rw [hgg] at hrel
          have HR := Lib.hid (hrel.rotAt hP hO hm0 h5 e1)
          have Hn := Lib.hid (show (x.rot1 (P : Int) (O : Int) (mask : Int)).n = x.n from by rw [Dv.rot1, if_pos e1]; simp [Dv.n, Dv.rotAt])
          have Hg := Lib.hid (show (x.rot1 (P : Int) (O : Int) (mask : Int)).gone = x.gone from by rw [Dv.rot1, if_pos e1]; rfl)
          have Hgg := Lib.hid hgg
          have HG := Lib.hid hg
          have HS := Lib.hid hS
          obtain ⟨i0, hi0, hz0, hz1, hz2⟩ := info_parts infoE9
          clear e0 e1 hg hS hx hz hok hgg hr er hrel h1 h2 h3 h4 hP hm0 hO
          go_enter Try.func74, Try.ntmps74
          go_wp2_with fail
          refine hhas.mono ?_; rintro e w1 ⟨rfl, hw1⟩
          obtain rfl : w = w1 := hw1.symm
          clear hhas
          go_wp2_with fail
          refine hrt.mono ?_; rintro e w1 ⟨rfl, hw1⟩
          obtain rfl : w = w1 := hw1.symm
          clear hrt
          have Hsb := Lib.hid (Sl.made w #[.int .i64 (P : Int), .slice none 0 0, .int .i64 (O : Int), .int .u32 (mask : Int)] 115 4 1 rfl (by decide))
          have HBl := Lib.hid (show Below w.heap.size w (w.alloc (.cells #[.int .i64 (P : Int), .slice none 0 0, .int .i64 (O : Int), .int .u32 (mask : Int)] 115)) from (Below.refl _ _).alloc (Nat.le_refl _) _)
          go_wp2_with (first
            | (refine at_dst (d := 41) ?_; refine wpList_buildSlice (o := ⟨some 41, _, _, _, _, _⟩) rfl 77 115 1 #[(0, .tmp 40)] rfl #[.int .i64 (P : Int), .slice none 0 0, .int .i64 (O : Int), .int .u32 (mask : Int)] i0 (.agg #[.int .i64 0, .slice none 0 0, .int .i64 0, .int .u32 0]) Try.underlying77 hi0 hz0 (by rw [hz1]; decide) (by rw [hz1]; decide) (by rw [hz1]; exact fillE9a _ _ rfl) ?_)
            | (refine at_dst (d := 42) ?_; refine wpList_append_rn (o := ⟨some 42, _, _, _, _, _⟩) rfl (.tmp 36) (.tmp 41) 77 77 rfl i0 (.agg #[.int .i64 0, .slice none 0 0, .int .i64 0, .int .u32 0]) 48 Try.underlying77 hi0 hz0 hz1 hz2 rfl (by decide) rfl (HG.out.later HBl.out).el.rn (.slice (some ⟨w.heap.size, 0, none⟩) 1 1) 1 [.int .i64 (P : Int), .slice none 0 0, .int .i64 (O : Int), .int .u32 (mask : Int)] rfl (Hsb.out.src Try.underlying77 (by decide) (fun u hu => by simp at hu; rcases hu with rfl | rfl | rfl | rfl <;> rfl)) (by unfold maxLen; omega) (by omega) ?pd))
          intro A7 c7 w7 hrn hfb hor
          have hor' : A7 = AL ∨ A7 = some ⟨(w.alloc (.cells #[.int .i64 (P : Int), .slice none 0 0, .int .i64 (O : Int), .int .u32 (mask : Int)] 115)).heap.size, 0, none⟩ := by simpa using hor
          obtain ⟨hF8, hbx8, hrn8, hor8, q1, u1⟩ := Rg.pushL HG.out HS.out HBl.out hfb hrn hor'
          have F8 := Lib.hid hF8
          have BX8 := Lib.hid hbx8
          have RN8 := Lib.hid hrn8
          have OR8 := Lib.hid hor8
          clear hrn hfb hor hor' hF8 hbx8 hrn8 hor8
          go_wp2_with fail
          go_ret
          obtain ⟨m1, m2, m3⟩ := HG.out.moreL (y := x.rot1 (P : Int) (O : Int) (mask : Int)) (ps := [⟨⟨P, [], O, mask⟩, none, 0⟩]) HS.out F8.out BX8.out RN8.out OR8.out (fun m hm => by
            have hm : m = ⟨⟨P, [], O, mask⟩, none, 0⟩ := by simpa using hm
            subst hm
            exact ⟨.inl ⟨rfl, rfl, rfl, rfl⟩, fun b hb => by obtain ⟨o, hb⟩ := hb; cases hb⟩) Hn.out Hg.out (by rw [List.map_append, Hgg.out]; exact HR.out)
          exact ⟨rfl, _, ⟨m1, _, _, _, _, _, _, m2⟩, m3, fun b hb => hb.1⟩
        · rw [hr] at e0 hrt
          have e1 : x.rotX (P : Int) (O : Int) (mask : Int) = 91 := e0
          have e2 : x.rot1 (P : Int) (O : Int) (mask : Int) = x := by rw [Dv.rot1, if_neg (by rw [e1]; decide)]
          rw [e1, e2]
          clear e0 e1 e2 hx hz hok hr er h1 h2 h3 h4
          go_enter Try.func74, Try.ntmps74
          go_wp2_with fail
          refine hhas.mono ?_; rintro e w1 ⟨rfl, hw1⟩
          obtain rfl : w = w1 := hw1.symm
          go_wp2_with fail
          refine hrt.mono ?_; rintro e w1 ⟨rfl, hw1⟩
          obtain rfl : w = w1 := hw1.symm
          go_wp2_with fail
          go_ret
          exact ⟨rfl, HM.out⟩
      · have e1 : x.rotX z off (mask : Int) = 2 := by rw [Dv.rotX, if_neg (by rw [hgg]; decide), if_pos (fun hh => hok hh.2)]
        have e2 : x.rot1 z off (mask : Int) = x := by rw [Dv.rot1, if_neg (by rw [e1]; decide)]
        rw [e1, e2]
        clear e1 e2
        by_cases q1 : off < 0
        · clear hok hx
          go_enter Try.func74, Try.ntmps74
          go_wp2_with fail
          refine hhas.mono ?_; rintro e w1 ⟨rfl, hw1⟩
          obtain rfl : w = w1 := hw1.symm
          go_wp2_with fail
          go_ret
          exact ⟨rfl, HM.out⟩
        · by_cases q2 : 60 < off
          · clear hok hx
            go_enter Try.func74, Try.ntmps74
            go_wp2_with fail
            refine hhas.mono ?_; rintro e w1 ⟨rfl, hw1⟩
            obtain rfl : w = w1 := hw1.symm
            go_wp2_with fail
            go_ret
            exact ⟨rfl, HM.out⟩
          · have hmz : mask = 0 := by
              have : ¬ (mask : Int) ≠ 0 := fun hh => hok ⟨by omega, by omega, hh⟩
              omega
            subst hmz
            clear hok hx
            go_enter Try.func74, Try.ntmps74
            go_wp2_with fail
            refine hhas.mono ?_; rintro e w1 ⟨rfl, hw1⟩
            obtain rfl : w = w1 := hw1.symm
            go_wp2_with fail
            go_ret
            exact ⟨rfl, HM.out⟩
    · rw [decide_eq_false hx] at hhas
      have e1 : x.rotX z off (mask : Int) = 2 := by rw [Dv.rotX, if_neg (by rw [hgg]; decide), if_pos (fun hh => hx hh.1)]
      have e2 : x.rot1 z off (mask : Int) = x := by rw [Dv.rot1, if_neg (by rw [e1]; decide)]
      rw [e1, e2]
      clear e1 e2
      go_enter Try.func74, Try.ntmps74
      go_wp2_with fail
      refine hhas.mono ?_; rintro e w1 ⟨rfl, hw1⟩
      obtain rfl : w = w1 := hw1.symm
      go_wp2_with fail
      go_ret
      exact ⟨rfl, HM.out⟩
  · rw [hgg] at c3
    have e1 : x.rotX z off (mask : Int) = 90 := by rw [Dv.rotX, if_pos hgg]
    have e2 : x.rot1 z off (mask : Int) = x := by rw [Dv.rot1, if_neg (by rw [e1]; decide)]
    rw [e1, e2]
    clear e1 e2 hhas hrt
    go_enter Try.func74, Try.ntmps74
    go_wp2_with fail
    go_ret
    exact ⟨rfl, HM.out⟩
end
end Go.Proofs.Ytjjoeaneaibklaa
