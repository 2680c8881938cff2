/-
  The document's drive as plain data (layer 9): events, and what comes of them; the same drive as Dv has it ('Rel'). No program.
-/
import Derived.Test.YtmlmlmlbdjhfhaaDrb
namespace Go.Proofs.Ytmlmlmlbdjhfhaa
open Go.RowKit Go.Proofs
set_option linter.unusedVariables false

/-- An event: a write (mask 0), or rot. -/
structure Ev where
  at_ : Nat
  b : List UInt8
  off : Nat
  mask : Nat
namespace Ev
/-- What an event does to a sector. -/
def goes (i : Nat) (b : List UInt8) (e : Ev) : List UInt8 := if e.at_ = i then (if e.mask = 0 then e.b else Dv.spoil b e.off e.mask) else b
def turns (i : Nat) (r : Bool) (e : Ev) : Bool := if e.at_ = i then decide (e.mask ≠ 0) else r
def stored (es : List Ev) (i : Nat) : List UInt8 := es.foldl (goes i) (full 0)
def rotten (es : List Ev) (i : Nat) : Bool := es.foldl (turns i) false
theorem stored_snoc (es : List Ev) (e : Ev) (i : Nat) : stored (es ++ [e]) i = goes i (stored es i) e := by rw [stored, List.foldl_append]; rfl
theorem rotten_snoc (es : List Ev) (e : Ev) (i : Nat) : rotten (es ++ [e]) i = turns i (rotten es i) e := by rw [rotten, List.foldl_append]; rfl
def wr (e : Ev) : Nat × List UInt8 := (e.at_, e.b)
/-- An event that there may be, on a drive of n sectors. -/
structure Ok (n : Nat) (e : Ev) : Prop where
  at_ : e.at_ < n
  wr : e.mask = 0 → e.b.length = 64
  rot : e.mask ≠ 0 → e.off ≤ 60 ∧ e.mask < 4294967296 ∧ e.b = []
end Ev
/-- The document's drive, and x, are the same. -/
structure Rel (x : Dv) (N : Nat) (E W : List Ev) (g : Bool) : Prop where
  n : x.n = N
  gone : x.gone = g
  ok : x.Ok
  st : g = false → ∀ i, i < N → x.st.getD i [] = Ev.stored E i
  rot : g = false → ∀ i, i < N → x.rot.getD i false = Ev.rotten E i
  wait : x.wait = W.map Ev.wr
  es : ∀ e ∈ E, e.Ok N
  ws : ∀ e ∈ W, e.Ok N ∧ e.mask = 0
section
variable {x : Dv} {n : Nat} {es ws : List Ev} {gone : Bool}
theorem Rel.new (k : Nat) : Rel (Dv.new k) k [] [] false :=
  ⟨Dv.new_n k, rfl, Dv.new_ok k, fun _ i hi => by simp [Dv.new, hi, Ev.stored], fun _ i hi => by simp [Dv.new, hi, Ev.rotten], rfl, (fun e he => by cases he), (fun e he => by cases he)⟩
theorem Rel.write (h : Rel x n es ws false) {i : Nat} (hi : i < n) {l : List UInt8} (hl : l.length = 64) : Rel (x.write (i : Int) l) n es (ws ++ [⟨i, l, 0, 0⟩]) false := by
  have hz : x.has (i : Int) := by unfold Dv.has; have := h.n; omega
  have ho := h.ok.write (i : Int) l
  rw [Dv.write_yes h.gone hz hl] at ho ⊢
  refine ⟨h.n, h.gone, ho, h.st, h.rot, ?_, h.es, fun e he => ?_⟩
  · show x.wait ++ [((i : Int).toNat, l)] = _
    rw [h.wait, List.map_append, Int.toNat_natCast]
    rfl
  · rcases List.mem_append.1 he with he | he
    · exact h.ws e he
    · have : e = ⟨i, l, 0, 0⟩ := by simpa using he
      subst this
      exact ⟨⟨hi, fun _ => hl, fun h => absurd rfl h⟩, rfl⟩
theorem getD_set {α : Type} {l : List α} {i j : Nat} {a d : α} (hi : i < l.length) : (l.set i a).getD j d = if i = j then a else l.getD j d := by
  rw [List.getD_eq_getElem?_getD, List.getElem?_set]
  by_cases he : i = j
  · rw [if_pos he, if_pos he, if_pos hi]; rfl
  · rw [if_neg he, if_neg he, ← List.getD_eq_getElem?_getD]
/-- A write that is stored. -/
theorem Rel.put (h : Rel x n es ws false) {e : Ev} (he : e.Ok n) (h0 : e.mask = 0) : Rel (x.put e.wr) n (es ++ [e]) ws false := by
  have hn := h.n
  have hst := (h.ok.live h.gone).1
  have hrt : x.rot.length = x.n := rfl
  refine ⟨by rw [Dv.put_n]; exact hn, h.gone, h.ok.put ⟨by rw [hn]; exact he.at_, he.wr h0⟩, fun _ i hi => ?_, fun _ i hi => ?_, h.wait, fun e' he' => ?_, h.ws⟩
  · rw [Ev.stored_snoc, Ev.goes, if_pos h0, ← h.st rfl i hi]
    exact getD_set (by have := he.at_; show e.at_ < _; omega)
  · rw [Ev.rotten_snoc, Ev.turns, decide_eq_false (fun hh => hh h0), ← h.rot rfl i hi]
    exact getD_set (by have := he.at_; show e.at_ < _; omega)
  · rcases List.mem_append.1 he' with q | q
    · exact h.es e' q
    · have : e' = e := by simpa using q
      rw [this]; exact he
theorem Rel.puts : ∀ (ps : List Ev) {x : Dv} {es : List Ev}, Rel x n es ws false → (∀ e ∈ ps, e.Ok n ∧ e.mask = 0) → Rel (x.puts (ps.map Ev.wr)) n (es ++ ps) ws false
  | [], x, es, h, _ => by rw [List.append_nil]; exact h
  | e :: ps, x, es, h, hp => by
    have h1 := h.put (hp e List.mem_cons_self).1 (hp e List.mem_cons_self).2
    have := Rel.puts ps h1 fun e' he' => hp e' (List.mem_cons_of_mem _ he')
    rwa [List.append_assoc] at this
theorem Rel.quiet (h : Rel x n es ws gone) : Rel x.quiet n es [] gone := ⟨h.n, h.gone, h.ok.quiet, h.st, h.rot, rfl, h.es, (fun e he => by cases he)⟩
theorem kept_map {α β : Type} (f : α → β) : ∀ (l : List α) (ks : List Bool), Dv.kept (l.map f) ks = (Dv.kept l ks).map f
  | [], ks => by cases ks <;> rfl
  | a :: l, [] => rfl
  | a :: l, k :: ks => by
    show (if k = true then f a :: Dv.kept (l.map f) ks else Dv.kept (l.map f) ks) = (if k = true then a :: Dv.kept l ks else Dv.kept l ks).map f
    rw [kept_map f l ks]
    split <;> rfl
theorem Rel.flush (h : Rel x n es ws false) : Rel x.flush1 n (es ++ ws) [] false := by
  have e : x.flush1 = x.flush := by rw [Dv.flush1, if_neg (by rw [h.gone]; decide)]
  rw [e]
  have := (Rel.puts ws h h.ws).quiet
  rw [← h.wait] at this
  exact this
theorem Rel.dead (h : Rel x n es ws true) : ws = [] := by
  have := h.ok.dead h.gone
  rw [h.wait] at this
  simpa using this
theorem Rel.crash (h : Rel x n es ws gone) (ks : List Bool) : Rel (x.crash ks) n (es ++ Dv.kept ws ks) [] gone := by
  cases gone
  · have := (Rel.puts (Dv.kept ws ks) h fun e he => h.ws e (Dv.kept_mem he)).quiet
    rw [← kept_map, ← h.wait] at this
    exact this
  · have h0 := h.dead
    subst h0
    have e : Dv.kept ([] : List Ev) ks = [] := by cases ks <;> rfl
    have e' : Dv.kept ([] : List (Nat × List UInt8)) ks = [] := by cases ks <;> rfl
    have hw : x.wait = [] := h.wait
    have hx : x.crash ks = x.quiet := by rw [Dv.crash, hw, e']; rfl
    rw [e, hx, List.append_nil]
    exact h.quiet
theorem Rel.fail (h : Rel x n es ws gone) : Rel x.fail n [] [] true := ⟨by rw [← h.n]; simp [Dv.n, Dv.fail], rfl, Dv.Ok.fail x, (fun h => by cases h), (fun h => by cases h), rfl, (fun e he => by cases he), (fun e he => by cases he)⟩
theorem Rel.replace (h : Rel x n es ws gone) : Rel x.replace n [] [] false := by
  rw [Dv.replace, h.n]
  exact Rel.new n
theorem Rel.rotAt (h : Rel x n es ws false) {i o m : Nat} (hi : i < n) (ho : o ≤ 60) (hm : m ≠ 0) (h32 : m < 4294967296) (hx : x.rotX (i : Int) (o : Int) (m : Int) = 0) : Rel (x.rot1 (i : Int) (o : Int) (m : Int)) n (es ++ [⟨i, [], o, m⟩]) ws false := by
  have hok := h.ok.rot1 (i : Int) (o : Int) (m : Int)
  have e : x.rot1 (i : Int) (o : Int) (m : Int) = x.rotAt i o m := by rw [Dv.rot1, if_pos hx]; simp
  rw [e] at hok ⊢
  have hn := h.n
  have hst := (h.ok.live h.gone).1
  have hrt : x.rot.length = x.n := rfl
  refine ⟨?_, h.gone, hok, fun _ k hk => ?_, fun _ k hk => ?_, h.wait, fun e' he' => ?_, h.ws⟩
  · rw [← hn]; simp [Dv.n, Dv.rotAt]
  · rw [Ev.stored_snoc, Ev.goes]
    show (x.st.set i (Dv.spoil (x.st.getD i []) o m)).getD k [] = _
    rw [getD_set (by omega), if_neg hm]
    by_cases he : i = k
    · subst he
      rw [if_pos rfl, if_pos rfl, h.st rfl i hi]
    · rw [if_neg he, if_neg he, h.st rfl k hk]
  · rw [Ev.rotten_snoc, Ev.turns, decide_eq_true hm]
    show (x.rot.set i true).getD k false = _
    rw [getD_set (by omega), h.rot rfl k hk]
  · rcases List.mem_append.1 he' with q | q
    · exact h.es e' q
    · have : e' = ⟨i, [], o, m⟩ := by simpa using q
      subst this
      exact ⟨hi, fun h => absurd h hm, fun _ => ⟨ho, h32, rfl⟩⟩
/-- The last write that waits, from behind. -/
theorem lastW_wr : ∀ (ws : List Ev) (i : Nat), Dv.lastW (ws.map Ev.wr) i = (ws.reverse.find? fun e => decide (e.at_ = i)).map (·.b)
  | [], _ => rfl
  | e :: ws, i => by
    show (match Dv.lastW (ws.map Ev.wr) i with | some b => some b | none => if e.at_ = i then some e.b else none) = _
    rw [lastW_wr ws i, List.reverse_cons, List.find?_append]
    cases hq : ws.reverse.find? fun e => decide (e.at_ = i) with
    | some e' => rfl
    | none =>
      by_cases he : e.at_ = i
      · simp [he]
      · simp [he]
end
end Go.Proofs.Ytmlmlmlbdjhfhaa
