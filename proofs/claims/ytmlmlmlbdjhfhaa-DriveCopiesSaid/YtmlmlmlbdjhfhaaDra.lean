/-
  A drive as plain data (layer 9): sectors, which are rotten, writes that wait; what becomes of it. No program.
-/
import Derived.Test.YtmlmlmlbdjhfhaaGa
namespace Go.Proofs.Ytmlmlmlbdjhfhaa
open Go.RowKit Go.Proofs
set_option linter.unusedVariables false

/-- A sector of one byte. -/
def full (c : UInt8) : List UInt8 := List.replicate 64 c
theorem full_length (c : UInt8) : (full c).length = 64 := List.length_replicate ..
theorem full_head (c : UInt8) : (full c).getD 0 0 = c := rfl
theorem full_inj {c d : UInt8} (h : full c = full d) : c = d := by
  have := congrArg (fun l : List UInt8 => l.getD 0 0) h
  rwa [full_head, full_head] at this

/-- A drive: what is stored, which sectors are rotten, what waits, is it dead? -/
structure Dv where
  st : List (List UInt8)
  rot : List Bool
  wait : List (Nat × List UInt8)
  gone : Bool
namespace Dv
def new (n : Nat) : Dv := ⟨List.replicate n (full 0), List.replicate n false, [], false⟩
def n (x : Dv) : Nat := x.rot.length
/-- A write is stored. -/
def put (x : Dv) (p : Nat × List UInt8) : Dv := ⟨x.st.set p.1 p.2, x.rot.set p.1 false, x.wait, x.gone⟩
def puts (x : Dv) (l : List (Nat × List UInt8)) : Dv := l.foldl put x
def quiet (x : Dv) : Dv := ⟨x.st, x.rot, [], x.gone⟩
def flush (x : Dv) : Dv := (x.puts x.wait).quiet
/-- Those of a list that are kept. -/
def kept {α : Type} : List α → List Bool → List α
  | a :: l, b :: ks => if b = true then a :: kept l ks else kept l ks
  | _, _ => []
def crash (x : Dv) (keep : List Bool) : Dv := (x.puts (kept x.wait keep)).quiet
/-- The last write that waits for a sector. -/
def lastW : List (Nat × List UInt8) → Nat → Option (List UInt8)
  | [], _ => none
  | p :: l, i => match lastW l i with
    | some b => some b
    | none => if p.1 = i then some p.2 else none
def look (x : Dv) (i : Nat) : List UInt8 := (lastW x.wait i).getD (x.st.getD i [])
/-- Four bytes of a sector are spoilt. -/
def spoil (b : List UInt8) (off mask : Nat) : List UInt8 := (List.range b.length).map fun j => if off ≤ j ∧ j < off + 4 then b.getD j 0 ^^^ UInt8.ofNat (mask >>> (8 * (j - off))) else b.getD j 0
def rotAt (x : Dv) (i off mask : Nat) : Dv := ⟨x.st.set i (spoil (x.st.getD i []) off mask), x.rot.set i true, x.wait, x.gone⟩
def fail (x : Dv) : Dv := ⟨[], List.replicate x.n false, [], true⟩
def replace (x : Dv) : Dv := new x.n
/-- What the calls answer. -/
def has (x : Dv) (z : Int) : Prop := 0 ≤ z ∧ z < (x.n : Int)
instance (x : Dv) (z : Int) : Decidable (x.has z) := inferInstanceAs (Decidable (_ ∧ _))
def readX (x : Dv) (z : Int) : Int := if x.gone = true then 90 else if x.has z then 0 else 2
def readL (x : Dv) (z : Int) : List UInt8 := if x.gone = true then [] else if x.has z then x.look z.toNat else []
def writeX (x : Dv) (z : Int) (l : List UInt8) : Int := if x.gone = true then 90 else if x.has z ∧ l.length = 64 then 0 else 2
def write (x : Dv) (z : Int) (l : List UInt8) : Dv := if x.gone = true then x else if x.has z ∧ l.length = 64 then ⟨x.st, x.rot, x.wait ++ [(z.toNat, l)], x.gone⟩ else x
def flushX (x : Dv) : Int := if x.gone = true then 90 else 0
def flush1 (x : Dv) : Dv := if x.gone = true then x else x.flush
def rotX (x : Dv) (z off mask : Int) : Int := if x.gone = true then 90 else if ¬ (x.has z ∧ 0 ≤ off ∧ off ≤ 60 ∧ mask ≠ 0) then 2 else if x.rot.getD z.toNat false = true then 91 else 0
def rot1 (x : Dv) (z off mask : Int) : Dv := if x.rotX z off mask = 0 then x.rotAt z.toNat off.toNat mask.toNat else x
def rottenB (x : Dv) (z : Int) : Bool := decide (x.gone = false ∧ x.has z) && x.rot.getD z.toNat false
def storedL (x : Dv) (z : Int) : List UInt8 := if x.gone = false ∧ x.has z then x.st.getD z.toNat [] else []

/-- Such drives there are. -/
structure Ok (x : Dv) : Prop where
  wait : ∀ p ∈ x.wait, p.1 < x.n ∧ p.2.length = 64
  live : x.gone = false → x.st.length = x.n ∧ ∀ i, i < x.n → (x.st.getD i []).length = 64
  dead : x.gone = true → x.wait = []

section
variable {x : Dv}
theorem new_n (k : Nat) : (new k).n = k := by simp [n, new]
theorem put_n (p : Nat × List UInt8) : (x.put p).n = x.n := by simp [n, put]
theorem puts_n : ∀ (l : List (Nat × List UInt8)) (x : Dv), (x.puts l).n = x.n
  | [], _ => rfl
  | p :: l, x => (puts_n l (x.put p)).trans (put_n p)
theorem puts_gone : ∀ (l : List (Nat × List UInt8)) (x : Dv), (x.puts l).gone = x.gone
  | [], _ => rfl
  | p :: l, x => (puts_gone l (x.put p)).trans rfl
theorem flush_n : x.flush.n = x.n := puts_n x.wait x
theorem flush_gone : x.flush.gone = x.gone := puts_gone x.wait x
theorem crash_n (ks : List Bool) : (x.crash ks).n = x.n := puts_n _ x
theorem crash_gone (ks : List Bool) : (x.crash ks).gone = x.gone := puts_gone _ x
/-- What is stored behind writes: the last one's bytes, or what was there. -/
theorem puts_st : ∀ (l : List (Nat × List UInt8)) (x : Dv) (i : Nat), i < x.st.length → (x.puts l).st.getD i [] = (lastW l i).getD (x.st.getD i [])
  | [], _, _, _ => rfl
  | p :: l, x, i, hi => by
    have hl : i < (x.put p).st.length := by simpa [put] using hi
    show ((x.put p).puts l).st.getD i [] = _
    rw [puts_st l (x.put p) i hl]
    show _ = (match lastW l i with | some b => some b | none => if p.1 = i then some p.2 else none).getD (x.st.getD i [])
    cases hq : lastW l i with
    | some b => rfl
    | none =>
      show (x.put p).st.getD i [] = (if p.1 = i then some p.2 else none).getD (x.st.getD i [])
      by_cases he : p.1 = i
      · rw [if_pos he, ← he]
        rw [← he] at hi
        simp [put, hi]
      · rw [if_neg he]
        simp [put, he]
theorem puts_len : ∀ (l : List (Nat × List UInt8)) (x : Dv), (x.puts l).st.length = x.st.length
  | [], _ => rfl
  | p :: l, x => (puts_len l (x.put p)).trans (by simp [put])
theorem puts_rot : ∀ (l : List (Nat × List UInt8)) (x : Dv) (i : Nat), i < x.rot.length → (x.puts l).rot.getD i false = (match lastW l i with | some _ => false | none => x.rot.getD i false)
  | [], _, _, _ => rfl
  | p :: l, x, i, hi => by
    have hl : i < (x.put p).rot.length := by simpa [put] using hi
    show ((x.put p).puts l).rot.getD i false = _
    rw [puts_rot l (x.put p) i hl]
    show _ = (match (match lastW l i with | some b => some b | none => if p.1 = i then some p.2 else none) with | some _ => false | none => x.rot.getD i false)
    cases hq : lastW l i with
    | some b => rfl
    | none =>
      show (x.put p).rot.getD i false = (match (if p.1 = i then some p.2 else none) with | some _ => false | none => x.rot.getD i false)
      by_cases he : p.1 = i
      · rw [if_pos he, ← he]
        rw [← he] at hi
        simp [put, hi]
      · rw [if_neg he]
        simp [put, he]
/-- The last write is one of them. -/
theorem lastW_mem : ∀ {l : List (Nat × List UInt8)} {i : Nat} {b : List UInt8}, lastW l i = some b → (i, b) ∈ l
  | p :: l, i, b, h => by
    have h : (match lastW l i with | some b => some b | none => if p.1 = i then some p.2 else none) = some b := h
    cases hq : lastW l i with
    | some c =>
      rw [hq] at h
      injection h with h
      subst h
      exact List.mem_cons_of_mem _ (lastW_mem hq)
    | none =>
      rw [hq] at h
      by_cases he : p.1 = i
      · have h : (if p.1 = i then some p.2 else none) = some b := h
        rw [if_pos he] at h
        injection h with h
        rw [← he, ← h]
        exact List.mem_cons_self
      · have h : (if p.1 = i then some p.2 else none) = some b := h
        rw [if_neg he] at h
        cases h
theorem lastW_snoc (l : List (Nat × List UInt8)) (p : Nat × List UInt8) (i : Nat) : lastW (l ++ [p]) i = if p.1 = i then some p.2 else lastW l i := by
  induction l with
  | nil => rfl
  | cons q l ih =>
    show (match lastW (l ++ [p]) i with | some b => some b | none => if q.1 = i then some q.2 else none) = if p.1 = i then some p.2 else (match lastW l i with | some b => some b | none => if q.1 = i then some q.2 else none)
    rw [ih]
    by_cases he : p.1 = i
    · rw [if_pos he, if_pos he]
    · rw [if_neg he, if_neg he]
theorem kept_mem {α : Type} : ∀ {l : List α} {ks : List Bool} {a : α}, a ∈ kept l ks → a ∈ l
  | b :: l, k :: ks, a, h => by
    have h : a ∈ (if k = true then b :: kept l ks else kept l ks) := h
    split at h
    · rcases List.mem_cons.1 h with h | h
      · rw [h]; exact List.mem_cons_self
      · exact List.mem_cons_of_mem _ (kept_mem h)
    · exact List.mem_cons_of_mem _ (kept_mem h)
  | [], ks, a, h => by cases ks <;> cases h
  | _ :: _, [], a, h => by cases h
theorem kept_one {α : Type} (a : α) (ks : List Bool) : kept [a] ks = if ks.getD 0 false = true then [a] else [] := by
  cases ks with
  | nil => rfl
  | cons k ks =>
    show (if k = true then a :: kept [] ks else kept [] ks) = _
    have : kept ([] : List α) ks = [] := by cases ks <;> rfl
    rw [this]
    rfl
/-- Behind a write that waits, it is what is read. -/
theorem look_write {z : Int} {l : List UInt8} (hg : x.gone = false) (hz : x.has z) (hl : l.length = 64) (i : Nat) : (x.write z l).look i = if z.toNat = i then l else x.look i := by
  rw [write, if_neg (by rw [hg]; decide), if_pos ⟨hz, hl⟩, look, look]
  show (lastW (x.wait ++ [(z.toNat, l)]) i).getD (x.st.getD i []) = _
  rw [lastW_snoc]
  by_cases he : z.toNat = i
  · rw [if_pos he, if_pos he]; rfl
  · rw [if_neg he, if_neg he]
theorem write_yes {z : Int} {l : List UInt8} (hg : x.gone = false) (hz : x.has z) (hl : l.length = 64) : x.write z l = ⟨x.st, x.rot, x.wait ++ [(z.toNat, l)], x.gone⟩ := by rw [write, if_neg (by rw [hg]; decide), if_pos ⟨hz, hl⟩]
theorem writeX_yes {z : Int} {l : List UInt8} (hg : x.gone = false) (hz : x.has z) (hl : l.length = 64) : x.writeX z l = 0 := by rw [writeX, if_neg (by rw [hg]; decide), if_pos ⟨hz, hl⟩]
theorem readX_yes {z : Int} (hg : x.gone = false) (hz : x.has z) : x.readX z = 0 := by rw [readX, if_neg (by rw [hg]; decide), if_pos hz]
theorem readL_yes {z : Int} (hg : x.gone = false) (hz : x.has z) : x.readL z = x.look z.toNat := by rw [readL, if_neg (by rw [hg]; decide), if_pos hz]
theorem flush_look (ho : Ok x) (hg : x.gone = false) {i : Nat} (hi : i < x.n) : x.flush.look i = x.look i := puts_st x.wait x i (by rw [(ho.live hg).1]; exact hi)
theorem crash_look (ho : Ok x) (hg : x.gone = false) (ks : List Bool) {i : Nat} (hi : i < x.n) : (x.crash ks).look i = (lastW (kept x.wait ks) i).getD (x.st.getD i []) := puts_st _ x i (by rw [(ho.live hg).1]; exact hi)
theorem flush_wait : x.flush.wait = [] := rfl
theorem new_ok (k : Nat) : Ok (new k) := ⟨(fun p hp => by cases hp), fun _ => ⟨by simp [n, new], fun i hi => by
  rw [new_n] at hi
  simp [new, hi, full]⟩, (fun h => by cases h)⟩
theorem new_look {k i : Nat} (h : i < k) : (new k).look i = full 0 := by
  show ((new k).st.getD i []) = _
  simp [new, h]
theorem Ok.write (ho : Ok x) (z : Int) (l : List UInt8) : Ok (x.write z l) := by
  unfold Dv.write
  split
  · exact ho
  · rename_i hg
    split
    · rename_i h
      refine ⟨fun p hp => ?_, ho.live, fun h => absurd h hg⟩
      rcases List.mem_append.1 hp with hp | hp
      · exact ho.wait p hp
      · have hp : p = (z.toNat, l) := by simpa using hp
        rw [hp]
        have h1 := h.1
        unfold has at h1
        exact ⟨by show z.toNat < x.n; omega, h.2⟩
    · exact ho
theorem Ok.put (ho : Ok x) {p : Nat × List UInt8} (hp : p.1 < x.n ∧ p.2.length = 64) : Ok (x.put p) := by
  refine ⟨fun q hq => by rw [put_n]; exact ho.wait q hq, fun hg => ?_, ho.dead⟩
  have h := ho.live hg
  rw [put_n]
  refine ⟨by simp [Dv.put]; exact h.1, fun i hi => ?_⟩
  by_cases he : p.1 = i
  · rw [← he]
    have : p.1 < x.st.length := by rw [h.1]; exact hp.1
    simp [Dv.put, this]
    exact hp.2
  · have := h.2 i hi
    simpa [Dv.put, he] using this
theorem Ok.puts : ∀ (l : List (Nat × List UInt8)) {x : Dv}, Ok x → (∀ p ∈ l, p.1 < x.n ∧ p.2.length = 64) → Ok (x.puts l)
  | [], _, ho, _ => ho
  | p :: l, x, ho, h => Ok.puts l (x := x.put p) (ho.put (h p List.mem_cons_self)) fun q hq => by rw [put_n]; exact h q (List.mem_cons_of_mem _ hq)
theorem Ok.quiet (ho : Ok x) : Ok x.quiet := ⟨(fun p hp => by cases hp), ho.live, fun _ => rfl⟩
theorem Ok.flush (ho : Ok x) : Ok x.flush := (Ok.puts x.wait ho ho.wait).quiet
theorem Ok.crash (ho : Ok x) (ks : List Bool) : Ok (x.crash ks) := (Ok.puts _ ho fun p hp => ho.wait p (kept_mem hp)).quiet
theorem Ok.fail (x : Dv) : Ok x.fail := ⟨(fun p hp => by cases hp), (fun h => by cases h), fun _ => rfl⟩
theorem spoil_length (b : List UInt8) (o m : Nat) : (spoil b o m).length = b.length := by simp [spoil]
theorem Ok.rot1 (ho : Ok x) (z off mask : Int) : Ok (x.rot1 z off mask) := by
  unfold Dv.rot1
  split
  · refine ⟨fun q hq => ?_, fun hg => ?_, ho.dead⟩
    · have := ho.wait q hq
      simpa [Dv.n, rotAt] using this
    · have h := ho.live hg
      have hn : (x.rotAt z.toNat off.toNat mask.toNat).n = x.n := by simp [Dv.n, rotAt]
      rw [hn]
      refine ⟨by simp [rotAt]; exact h.1, fun i hi => ?_⟩
      by_cases he : z.toNat = i
      · rw [← he]
        rw [← he] at hi
        have h2 : z.toNat < x.st.length := by rw [h.1]; exact hi
        have h3 := h.2 _ hi
        show ((x.st.set z.toNat (spoil (x.st.getD z.toNat []) off.toNat mask.toNat)).getD z.toNat []).length = 64
        rw [List.getD_eq_getElem?_getD, List.getElem?_set_self h2, Option.getD_some, spoil_length]
        exact h3
      · have := h.2 i hi
        show ((x.st.set z.toNat (spoil (x.st.getD z.toNat []) off.toNat mask.toNat)).getD i []).length = 64
        rw [List.getD_eq_getElem?_getD, List.getElem?_set_ne he, ← List.getD_eq_getElem?_getD]
        exact this
  · exact ho
end
end Dv
end Go.Proofs.Ytmlmlmlbdjhfhaa
