/-
  A drive as plain data (layer 9): sectors, which are rotten, writes that wait; what becomes of it. No program.
  What must be known of package drive's calls (layer 9), in words of plain drives ('DrvK'), and the same within a law's call ('Lv'). Nothing is proved of the package here. The statements' own Full: a sector of one byte.
  Rot as plain data (layer 9): a drive that was written whole, and one sector of it spoilt. No program.
  A block of the heap that is known whole, as rows of k cells each ('Rw'): read, written, carried. Lists of rows laid one behind the other. Sectors and writes as cells. No program.
  append onto a block that is known whole ('Rw'), or onto no slice at all: nothing but that block turns. Nothing here speaks of the program's own functions. No condition.
-/
import Derived.Test.YtpijfghklgmefaaDoorGa
import Derived.Deep.MidRow
namespace Go.Proofs.YtpijfghklgmefaaDoor
open Go.RowKit Go.Proofs
set_option linter.unusedVariables false

/-- A sector of one byte. -/
def full (c : UInt8) : List UInt8 := List.replicate 64 c
theorem full_length (c : UInt8) : (full c).length = 64 := List.length_replicate ..
theorem full_head (c : UInt8) : (full c).getD 0 0 = c := rfl
theorem full_inj {c d : UInt8} (h : full c = full d) : c = d := by
  have := congrArg (fun l : List UInt8 => l.getD 0 0) h
  rwa [full_head, full_head] at this

/-- A drive: what is stored, which sectors are rotten, what waits, is it dead? -/
structure Dv where
  st : List (List UInt8)
  rot : List Bool
  wait : List (Nat × List UInt8)
  gone : Bool
namespace Dv
def new (n : Nat) : Dv := ⟨List.replicate n (full 0), List.replicate n false, [], false⟩
def n (x : Dv) : Nat := x.rot.length
/-- A write is stored. -/
def put (x : Dv) (p : Nat × List UInt8) : Dv := ⟨x.st.set p.1 p.2, x.rot.set p.1 false, x.wait, x.gone⟩
def puts (x : Dv) (l : List (Nat × List UInt8)) : Dv := l.foldl put x
def quiet (x : Dv) : Dv := ⟨x.st, x.rot, [], x.gone⟩
def flush (x : Dv) : Dv := (x.puts x.wait).quiet
/-- Those of a list that are kept. -/
def kept {α : Type} : List α → List Bool → List α
  | a :: l, b :: ks => if b = true then a :: kept l ks else kept l ks
  | _, _ => []
def crash (x : Dv) (keep : List Bool) : Dv := (x.puts (kept x.wait keep)).quiet
/-- The last write that waits for a sector. -/
def lastW : List (Nat × List UInt8) → Nat → Option (List UInt8)
  | [], _ => none
  | p :: l, i => match lastW l i with
    | some b => some b
    | none => if p.1 = i then some p.2 else none
def look (x : Dv) (i : Nat) : List UInt8 := (lastW x.wait i).getD (x.st.getD i [])
/-- Four bytes of a sector are spoilt. -/
def spoil (b : List UInt8) (off mask : Nat) : List UInt8 := (List.range b.length).map fun j => if off ≤ j ∧ j < off + 4 then b.getD j 0 ^^^ UInt8.ofNat (mask >>> (8 * (j - off))) else b.getD j 0
def rotAt (x : Dv) (i off mask : Nat) : Dv := ⟨x.st.set i (spoil (x.st.getD i []) off mask), x.rot.set i true, x.wait, x.gone⟩
def fail (x : Dv) : Dv := ⟨[], List.replicate x.n false, [], true⟩
def replace (x : Dv) : Dv := new x.n
/-- What the calls answer. -/
def has (x : Dv) (z : Int) : Prop := 0 ≤ z ∧ z < (x.n : Int)
instance (x : Dv) (z : Int) : Decidable (x.has z) := inferInstanceAs (Decidable (_ ∧ _))
def readX (x : Dv) (z : Int) : Int := if x.gone = true then 90 else if x.has z then 0 else 2
def readL (x : Dv) (z : Int) : List UInt8 := if x.gone = true then [] else if x.has z then x.look z.toNat else []
def writeX (x : Dv) (z : Int) (l : List UInt8) : Int := if x.gone = true then 90 else if x.has z ∧ l.length = 64 then 0 else 2
def write (x : Dv) (z : Int) (l : List UInt8) : Dv := if x.gone = true then x else if x.has z ∧ l.length = 64 then ⟨x.st, x.rot, x.wait ++ [(z.toNat, l)], x.gone⟩ else x
def flushX (x : Dv) : Int := if x.gone = true then 90 else 0
def flush1 (x : Dv) : Dv := if x.gone = true then x else x.flush
def rotX (x : Dv) (z off mask : Int) : Int := if x.gone = true then 90 else if ¬ (x.has z ∧ 0 ≤ off ∧ off ≤ 60 ∧ mask ≠ 0) then 2 else if x.rot.getD z.toNat false = true then 91 else 0
def rot1 (x : Dv) (z off mask : Int) : Dv := if x.rotX z off mask = 0 then x.rotAt z.toNat off.toNat mask.toNat else x
def rottenB (x : Dv) (z : Int) : Bool := decide (x.gone = false ∧ x.has z) && x.rot.getD z.toNat false
def storedL (x : Dv) (z : Int) : List UInt8 := if x.gone = false ∧ x.has z then x.st.getD z.toNat [] else []

/-- Such drives there are. -/
structure Ok (x : Dv) : Prop where
  wait : ∀ p ∈ x.wait, p.1 < x.n ∧ p.2.length = 64
  live : x.gone = false → x.st.length = x.n ∧ ∀ i, i < x.n → (x.st.getD i []).length = 64
  dead : x.gone = true → x.wait = []

section
variable {x : Dv}
theorem new_n (k : Nat) : (new k).n = k := by simp [n, new]
theorem put_n (p : Nat × List UInt8) : (x.put p).n = x.n := by simp [n, put]
theorem puts_n : ∀ (l : List (Nat × List UInt8)) (x : Dv), (x.puts l).n = x.n
  | [], _ => rfl
  | p :: l, x => (puts_n l (x.put p)).trans (put_n p)
theorem puts_gone : ∀ (l : List (Nat × List UInt8)) (x : Dv), (x.puts l).gone = x.gone
  | [], _ => rfl
  | p :: l, x => (puts_gone l (x.put p)).trans rfl
theorem flush_n : x.flush.n = x.n := puts_n x.wait x
theorem flush_gone : x.flush.gone = x.gone := puts_gone x.wait x
theorem crash_n (ks : List Bool) : (x.crash ks).n = x.n := puts_n _ x
theorem crash_gone (ks : List Bool) : (x.crash ks).gone = x.gone := puts_gone _ x
/-- What is stored behind writes: the last one's bytes, or what was there. -/
theorem puts_st : ∀ (l : List (Nat × List UInt8)) (x : Dv) (i : Nat), i < x.st.length → (x.puts l).st.getD i [] = (lastW l i).getD (x.st.getD i [])
  | [], _, _, _ => rfl
  | p :: l, x, i, hi => by
    have hl : i < (x.put p).st.length := by simpa [put] using hi
    show ((x.put p).puts l).st.getD i [] = _
    rw [puts_st l (x.put p) i hl]
    show _ = (match lastW l i with | some b => some b | none => if p.1 = i then some p.2 else none).getD (x.st.getD i [])
    cases hq : lastW l i with
    | some b => rfl
    | none =>
      show (x.put p).st.getD i [] = (if p.1 = i then some p.2 else none).getD (x.st.getD i [])
      by_cases he : p.1 = i
      · rw [if_pos he, ← he]
        rw [← he] at hi
        simp [put, hi]
      · rw [if_neg he]
        simp [put, he]
theorem puts_len : ∀ (l : List (Nat × List UInt8)) (x : Dv), (x.puts l).st.length = x.st.length
  | [], _ => rfl
  | p :: l, x => (puts_len l (x.put p)).trans (by simp [put])
theorem puts_rot : ∀ (l : List (Nat × List UInt8)) (x : Dv) (i : Nat), i < x.rot.length → (x.puts l).rot.getD i false = (match lastW l i with | some _ => false | none => x.rot.getD i false)
  | [], _, _, _ => rfl
  | p :: l, x, i, hi => by
    have hl : i < (x.put p).rot.length := by simpa [put] using hi
    show ((x.put p).puts l).rot.getD i false = _
    rw [puts_rot l (x.put p) i hl]
    show _ = (match (match lastW l i with | some b => some b | none => if p.1 = i then some p.2 else none) with | some _ => false | none => x.rot.getD i false)
    cases hq : lastW l i with
    | some b => rfl
    | none =>
      show (x.put p).rot.getD i false = (match (if p.1 = i then some p.2 else none) with | some _ => false | none => x.rot.getD i false)
      by_cases he : p.1 = i
      · rw [if_pos he, ← he]
        rw [← he] at hi
        simp [put, hi]
      · rw [if_neg he]
        simp [put, he]
/-- The last write is one of them. -/
theorem lastW_mem : ∀ {l : List (Nat × List UInt8)} {i : Nat} {b : List UInt8}, lastW l i = some b → (i, b) ∈ l
  | p :: l, i, b, h => by
    have h : (match lastW l i with | some b => some b | none => if p.1 = i then some p.2 else none) = some b := h
    cases hq : lastW l i with
    | some c =>
      rw [hq] at h
      injection h with h
      subst h
      exact List.mem_cons_of_mem _ (lastW_mem hq)
    | none =>
      rw [hq] at h
      by_cases he : p.1 = i
      · have h : (if p.1 = i then some p.2 else none) = some b := h
        rw [if_pos he] at h
        injection h with h
        rw [← he, ← h]
        exact List.mem_cons_self
      · have h : (if p.1 = i then some p.2 else none) = some b := h
        rw [if_neg he] at h
        cases h
theorem lastW_snoc (l : List (Nat × List UInt8)) (p : Nat × List UInt8) (i : Nat) : lastW (l ++ [p]) i = if p.1 = i then some p.2 else lastW l i := by
  induction l with
  | nil => rfl
  | cons q l ih =>
    show (match lastW (l ++ [p]) i with | some b => some b | none => if q.1 = i then some q.2 else none) = if p.1 = i then some p.2 else (match lastW l i with | some b => some b | none => if q.1 = i then some q.2 else none)
    rw [ih]
    by_cases he : p.1 = i
    · rw [if_pos he, if_pos he]
    · rw [if_neg he, if_neg he]
theorem kept_mem {α : Type} : ∀ {l : List α} {ks : List Bool} {a : α}, a ∈ kept l ks → a ∈ l
  | b :: l, k :: ks, a, h => by
    have h : a ∈ (if k = true then b :: kept l ks else kept l ks) := h
    split at h
    · rcases List.mem_cons.1 h with h | h
      · rw [h]; exact List.mem_cons_self
      · exact List.mem_cons_of_mem _ (kept_mem h)
    · exact List.mem_cons_of_mem _ (kept_mem h)
  | [], ks, a, h => by cases ks <;> cases h
  | _ :: _, [], a, h => by cases h
theorem kept_one {α : Type} (a : α) (ks : List Bool) : kept [a] ks = if ks.getD 0 false = true then [a] else [] := by
  cases ks with
  | nil => rfl
  | cons k ks =>
    show (if k = true then a :: kept [] ks else kept [] ks) = _
    have : kept ([] : List α) ks = [] := by cases ks <;> rfl
    rw [this]
    rfl
/-- Behind a write that waits, it is what is read. -/
theorem look_write {z : Int} {l : List UInt8} (hg : x.gone = false) (hz : x.has z) (hl : l.length = 64) (i : Nat) : (x.write z l).look i = if z.toNat = i then l else x.look i := by
  rw [write, if_neg (by rw [hg]; decide), if_pos ⟨hz, hl⟩, look, look]
  show (lastW (x.wait ++ [(z.toNat, l)]) i).getD (x.st.getD i []) = _
  rw [lastW_snoc]
  by_cases he : z.toNat = i
  · rw [if_pos he, if_pos he]; rfl
  · rw [if_neg he, if_neg he]
theorem write_yes {z : Int} {l : List UInt8} (hg : x.gone = false) (hz : x.has z) (hl : l.length = 64) : x.write z l = ⟨x.st, x.rot, x.wait ++ [(z.toNat, l)], x.gone⟩ := by rw [write, if_neg (by rw [hg]; decide), if_pos ⟨hz, hl⟩]
theorem writeX_yes {z : Int} {l : List UInt8} (hg : x.gone = false) (hz : x.has z) (hl : l.length = 64) : x.writeX z l = 0 := by rw [writeX, if_neg (by rw [hg]; decide), if_pos ⟨hz, hl⟩]
theorem readX_yes {z : Int} (hg : x.gone = false) (hz : x.has z) : x.readX z = 0 := by rw [readX, if_neg (by rw [hg]; decide), if_pos hz]
theorem readL_yes {z : Int} (hg : x.gone = false) (hz : x.has z) : x.readL z = x.look z.toNat := by rw [readL, if_neg (by rw [hg]; decide), if_pos hz]
theorem flush_look (ho : Ok x) (hg : x.gone = false) {i : Nat} (hi : i < x.n) : x.flush.look i = x.look i := puts_st x.wait x i (by rw [(ho.live hg).1]; exact hi)
theorem crash_look (ho : Ok x) (hg : x.gone = false) (ks : List Bool) {i : Nat} (hi : i < x.n) : (x.crash ks).look i = (lastW (kept x.wait ks) i).getD (x.st.getD i []) := puts_st _ x i (by rw [(ho.live hg).1]; exact hi)
theorem flush_wait : x.flush.wait = [] := rfl
theorem new_ok (k : Nat) : Ok (new k) := ⟨(fun p hp => by cases hp), fun _ => ⟨by simp [n, new], fun i hi => by
  rw [new_n] at hi
  simp [new, hi, full]⟩, (fun h => by cases h)⟩
theorem new_look {k i : Nat} (h : i < k) : (new k).look i = full 0 := by
  show ((new k).st.getD i []) = _
  simp [new, h]
theorem Ok.write (ho : Ok x) (z : Int) (l : List UInt8) : Ok (x.write z l) := by
  unfold Dv.write
  split
  · exact ho
  · rename_i hg
    split
    · rename_i h
      refine ⟨fun p hp => ?_, ho.live, fun h => absurd h hg⟩
      rcases List.mem_append.1 hp with hp | hp
      · exact ho.wait p hp
      · have hp : p = (z.toNat, l) := by simpa using hp
        rw [hp]
        have h1 := h.1
        unfold has at h1
        exact ⟨by show z.toNat < x.n; omega, h.2⟩
    · exact ho
theorem Ok.put (ho : Ok x) {p : Nat × List UInt8} (hp : p.1 < x.n ∧ p.2.length = 64) : Ok (x.put p) := by
  refine ⟨fun q hq => by rw [put_n]; exact ho.wait q hq, fun hg => ?_, ho.dead⟩
  have h := ho.live hg
  rw [put_n]
  refine ⟨by simp [Dv.put]; exact h.1, fun i hi => ?_⟩
  by_cases he : p.1 = i
  · rw [← he]
    have : p.1 < x.st.length := by rw [h.1]; exact hp.1
    simp [Dv.put, this]
    exact hp.2
  · have := h.2 i hi
    simpa [Dv.put, he] using this
theorem Ok.puts : ∀ (l : List (Nat × List UInt8)) {x : Dv}, Ok x → (∀ p ∈ l, p.1 < x.n ∧ p.2.length = 64) → Ok (x.puts l)
  | [], _, ho, _ => ho
  | p :: l, x, ho, h => Ok.puts l (x := x.put p) (ho.put (h p List.mem_cons_self)) fun q hq => by rw [put_n]; exact h q (List.mem_cons_of_mem _ hq)
theorem Ok.quiet (ho : Ok x) : Ok x.quiet := ⟨(fun p hp => by cases hp), ho.live, fun _ => rfl⟩
theorem Ok.flush (ho : Ok x) : Ok x.flush := (Ok.puts x.wait ho ho.wait).quiet
theorem Ok.crash (ho : Ok x) (ks : List Bool) : Ok (x.crash ks) := (Ok.puts _ ho fun p hp => ho.wait p (kept_mem hp)).quiet
theorem Ok.fail (x : Dv) : Ok x.fail := ⟨(fun p hp => by cases hp), (fun h => by cases h), fun _ => rfl⟩
theorem spoil_length (b : List UInt8) (o m : Nat) : (spoil b o m).length = b.length := by simp [spoil]
theorem Ok.rot1 (ho : Ok x) (z off mask : Int) : Ok (x.rot1 z off mask) := by
  unfold Dv.rot1
  split
  · refine ⟨fun q hq => ?_, fun hg => ?_, ho.dead⟩
    · have := ho.wait q hq
      simpa [Dv.n, rotAt] using this
    · have h := ho.live hg
      have hn : (x.rotAt z.toNat off.toNat mask.toNat).n = x.n := by simp [Dv.n, rotAt]
      rw [hn]
      refine ⟨by simp [rotAt]; exact h.1, fun i hi => ?_⟩
      by_cases he : z.toNat = i
      · rw [← he]
        rw [← he] at hi
        have h2 : z.toNat < x.st.length := by rw [h.1]; exact hi
        have h3 := h.2 _ hi
        show ((x.st.set z.toNat (spoil (x.st.getD z.toNat []) off.toNat mask.toNat)).getD z.toNat []).length = 64
        rw [List.getD_eq_getElem?_getD, List.getElem?_set_self h2, Option.getD_some, spoil_length]
        exact h3
      · have := h.2 i hi
        show ((x.st.set z.toNat (spoil (x.st.getD z.toNat []) off.toNat mask.toNat)).getD i []).length = 64
        rw [List.getD_eq_getElem?_getD, List.getElem?_set_ne he, ← List.getD_eq_getElem?_getD]
        exact this
  · exact ho
end
end Dv
end Go.Proofs.YtpijfghklgmefaaDoor

namespace Go.Proofs.YtpijfghklgmefaaDoor
open Go.RowKit Go.Proofs
set_option linter.unusedVariables false

/-- A call that turns a drive: its own blocks alone turn, and new ones are made. -/
def MutD (Rep : World → (Nat → Prop) → Nat → Dv → Prop) (S : Nat → Prop) (D : Nat) (x : Dv) (w w' : World) : Prop := ∃ S', Rep w' S' D x ∧ Fr S w w' ∧ ∀ b, S' b → S b ∨ w.heap.size ≤ b
/-- Bytes in new memory. -/
def NewB (w : World) (A : Option Addr) (n c : Nat) (l : List UInt8) (w' : World) : Prop := Sl w' 1 A n c (cells l) ∧ Below w.heap.size w w' ∧ ∀ b o, 0 < n → A = some ⟨b, o, none⟩ → w.heap.size ≤ b
/-- A drive that a law's call made, which began in world w0; X: blocks that are not the drive's. -/
structure Lv (Rep : World → (Nat → Prop) → Nat → Dv → Prop) (w0 w : World) (X : Nat → Prop) (D : Nat) (x : Dv) : Prop where
  ex : ∃ S, Rep w S D x ∧ ∀ b, S b → w0.heap.size ≤ b ∧ ¬ X b
  bel : Below w0.heap.size w0 w
  xlt : ∀ b, X b → b < w.heap.size
/-- The blocks that a law's drive may turn. -/
def Own9 (w0 : World) (X : Nat → Prop) : Nat → Prop := fun b => w0.heap.size ≤ b ∧ ¬ X b
section
variable {Rep : World → (Nat → Prop) → Nat → Dv → Prop} {w0 w w' : World} {X : Nat → Prop} {D : Nat} {x y : Dv}
theorem Lv.mut (h : Lv Rep w0 w X D x) (hm : ∀ S, Rep w S D x → (∀ b, S b → w0.heap.size ≤ b ∧ ¬ X b) → MutD Rep S D y w w') : Lv Rep w0 w' X D y ∧ Fr (Own9 w0 X) w w' := by
  obtain ⟨S, hr, hS⟩ := h.ex
  obtain ⟨S', hr', hf, hs'⟩ := hm S hr hS
  refine ⟨⟨⟨S', hr', fun b hb => ?_⟩, h.bel.trans (hf.below h.bel.size fun b hb => (hS b hb).1), fun b hb => Nat.lt_of_lt_of_le (h.xlt b hb) hf.size⟩, hf.mono fun b hb => hS b hb⟩
  rcases hs' b hb with q | q
  · exact hS b q
  · exact ⟨Nat.le_trans h.bel.size q, fun hx => by have := h.xlt b hx; omega⟩
theorem Lv.of_mut (h : Lv Rep w0 w X D x) {S : Nat → Prop} (hS : ∀ b, S b → w0.heap.size ≤ b ∧ ¬ X b) (hm : MutD Rep S D y w w') : Lv Rep w0 w' X D y ∧ Fr (Own9 w0 X) w w' := by
  obtain ⟨S', hr', hf, hs'⟩ := hm
  refine ⟨⟨⟨S', hr', fun b hb => ?_⟩, h.bel.trans (hf.below h.bel.size fun b hb => (hS b hb).1), fun b hb => Nat.lt_of_lt_of_le (h.xlt b hb) hf.size⟩, hf.mono fun b hb => hS b hb⟩
  rcases hs' b hb with q | q
  · exact hS b q
  · exact ⟨Nat.le_trans h.bel.size q, fun hx => by have := h.xlt b hx; omega⟩
end

/-- The first bytes of a sector are c. -/
def part9 (c : UInt8) (k : Nat) : List UInt8 := List.replicate k c ++ List.replicate (64 - k) 0
theorem part9_len (c : UInt8) (k : Nat) (h : k ≤ 64) : (part9 c k).length = 64 := by simp [part9]; omega
theorem part9_at (c : UInt8) (k : Nat) (h : k < 64) : (part9 c k)[k]? = some 0 := by
  rw [part9, List.getElem?_append_right (by simp), List.length_replicate, Nat.sub_self, List.getElem?_replicate, if_pos (by omega)]
theorem part9_set (c : UInt8) (k : Nat) (h : k < 64) : (part9 c k).set k c = part9 c (k + 1) := by
  apply List.ext_getElem?
  intro i
  rw [List.getElem?_set]
  by_cases hi : k = i
  · subst hi
    rw [if_pos rfl, if_pos (by rw [part9_len c k (by omega)]; exact h), part9, List.getElem?_append_left (by simp), List.getElem?_replicate, if_pos (by omega)]
  · rw [if_neg hi]
    rcases Nat.lt_or_ge i k with h1 | h1
    · rw [part9, part9, List.getElem?_append_left (by simpa using h1), List.getElem?_append_left (by simp; omega), List.getElem?_replicate, List.getElem?_replicate, if_pos h1, if_pos (by omega)]
    · rw [part9, part9, List.getElem?_append_right (by simpa using h1), List.getElem?_append_right (by simp; omega)]
      simp only [List.length_replicate, List.getElem?_replicate]
      by_cases h2 : i < 64
      · rw [if_pos (by omega), if_pos (by omega)]
      · rw [if_neg (by omega), if_neg (by omega)]
end Go.Proofs.YtpijfghklgmefaaDoor

namespace Go.Proofs.YtpijfghklgmefaaDoor
open Go.RowKit Go.Proofs
set_option linter.unusedVariables false

namespace Dv
/-- The first i sectors wait, c in each. -/
def laid (n : Nat) (c : UInt8) (i : Nat) : Dv := ⟨List.replicate n (full 0), List.replicate n false, (List.range i).map fun k => (k, full c), false⟩
def whole (n : Nat) (c : UInt8) : Dv := ⟨List.replicate n (full c), List.replicate n false, [], false⟩
def rotd (n : Nat) (c : UInt8) (p o m : Nat) : Dv := ⟨(List.replicate n (full c)).set p (spoil (full c) o m), (List.replicate n false).set p true, [], false⟩
def rotw (n : Nat) (c : UInt8) (p o m : Nat) : Dv := ⟨(rotd n c p o m).st, (rotd n c p o m).rot, [(p, full c)], false⟩
variable {n p o m i : Nat} {c : UInt8}
theorem laid_zero (n : Nat) (c : UInt8) : laid n c 0 = new n := rfl
theorem laid_n : (laid n c i).n = n := by simp [laid, Dv.n]
theorem laid_writeX (h : i < n) : (laid n c i).writeX (i : Int) (full c) = 0 := by
  have hh : (laid n c i).has (i : Int) := ⟨by omega, by rw [laid_n]; omega⟩
  unfold writeX
  rw [if_neg (by simp [laid]), if_pos ⟨hh, full_length c⟩]
theorem laid_write (h : i < n) : (laid n c i).write (i : Int) (full c) = laid n c (i + 1) := by
  have hh : (laid n c i).has (i : Int) := ⟨by omega, by rw [laid_n]; omega⟩
  unfold write
  rw [if_neg (by simp [laid]), if_pos ⟨hh, full_length c⟩]
  simp [laid, List.range_succ]
theorem lastW_laid : ∀ (k i : Nat), lastW ((List.range k).map fun j => (j, full c)) i = if i < k then some (full c) else none
  | 0, i => rfl
  | k + 1, i => by
    rw [List.range_succ, List.map_append, List.map_singleton, lastW_snoc, lastW_laid k i]
    by_cases h : k = i
    · rw [if_pos h, if_pos (by omega)]
    · rw [if_neg h]
      by_cases h2 : i < k
      · rw [if_pos h2, if_pos (by omega)]
      · rw [if_neg h2, if_neg (by omega)]
theorem ext' {x y : Dv} (h1 : x.st.length = y.st.length) (h2 : ∀ i, i < y.st.length → x.st.getD i [] = y.st.getD i []) (h3 : x.n = y.n) (h4 : ∀ i, i < y.n → x.rot.getD i false = y.rot.getD i false) (h5 : x.wait = y.wait) (h6 : x.gone = y.gone) : x = y := by
  obtain ⟨a, b, d, e⟩ := x
  obtain ⟨a', b', d', e'⟩ := y
  simp only at h5 h6 h1 h2
  subst h5 h6
  have e1 : a = a' := List.ext_getElem h1 fun i g1 g2 => by
    have := h2 i g2
    rwa [List.getD_eq_getElem?_getD, List.getD_eq_getElem?_getD, List.getElem?_eq_getElem g1, List.getElem?_eq_getElem g2] at this
  have e2 : b = b' := List.ext_getElem h3 fun i g1 g2 => by
    have := h4 i g2
    simp only at this
    rwa [List.getD_eq_getElem?_getD, List.getD_eq_getElem?_getD, List.getElem?_eq_getElem g1, List.getElem?_eq_getElem g2] at this
  rw [e1, e2]
theorem laid_flush : (laid n c n).flush1 = whole n c := by
  unfold flush1
  rw [if_neg (by simp [laid])]
  have hl : (laid n c n).st.length = n := by simp [laid]
  refine ext' ?_ (fun i hi => ?_) ?_ (fun i hi => ?_) rfl ?_
  · show ((laid n c n).puts _).st.length = _
    rw [puts_len]
    simp [laid, whole]
  · have hi : i < n := by simpa [whole] using hi
    show ((laid n c n).puts (laid n c n).wait).st.getD i [] = _
    rw [puts_st _ _ _ (by rw [hl]; exact hi)]
    show (lastW ((List.range n).map fun j => (j, full c)) i).getD _ = _
    rw [lastW_laid, if_pos hi]
    simp [whole, hi]
  · show ((laid n c n).puts _).n = _
    rw [puts_n, laid_n]
    simp [whole, Dv.n]
  · have hi : i < n := by simpa [whole, Dv.n] using hi
    show ((laid n c n).puts (laid n c n).wait).rot.getD i false = _
    rw [puts_rot _ _ _ (by simpa [laid] using hi)]
    show (match lastW ((List.range n).map fun j => (j, full c)) i with | some _ => false | none => _) = _
    rw [lastW_laid, if_pos hi]
    simp [whole, hi]
  · show ((laid n c n).puts _).gone = _
    rw [puts_gone]
    rfl
theorem laid_flushX : (laid n c i).flushX = 0 := rfl
theorem whole_n : (whole n c).n = n := by simp [whole, Dv.n]
theorem rotd_n : (rotd n c p o m).n = n := by simp [rotd, Dv.n]
theorem whole_rotX (hp : p < n) (ho : o ≤ 60) (hm : m ≠ 0) : (whole n c).rotX (p : Int) (o : Int) (m : Int) = 0 := by
  unfold rotX
  rw [if_neg (by simp [whole]), if_neg (Decidable.not_not.mpr ⟨⟨by omega, by rw [whole_n]; omega⟩, by omega, by omega, by omega⟩), if_neg]
  simp [whole, hp]
theorem whole_rot (hp : p < n) (ho : o ≤ 60) (hm : m ≠ 0) : (whole n c).rot1 (p : Int) (o : Int) (m : Int) = rotd n c p o m := by
  unfold rot1
  rw [if_pos (whole_rotX hp ho hm)]
  simp [rotAt, whole, rotd, hp]
theorem rotd_rotX (hp : p < n) (ho : o ≤ 60) (hm : m ≠ 0) : (rotd n c p o m).rotX (p : Int) (o : Int) (m : Int) = 91 := by
  unfold rotX
  rw [if_neg (by simp [rotd]), if_neg (Decidable.not_not.mpr ⟨⟨by omega, by rw [rotd_n]; omega⟩, by omega, by omega, by omega⟩), if_pos]
  simp [rotd, hp]
theorem rotd_rot (hp : p < n) (ho : o ≤ 60) (hm : m ≠ 0) : (rotd n c p o m).rot1 (p : Int) (o : Int) (m : Int) = rotd n c p o m := by
  unfold rot1
  rw [if_neg (by rw [rotd_rotX hp ho hm]; decide)]
theorem rotd_rotten (hi : i < n) : (rotd n c p o m).rottenB (i : Int) = decide (i = p) := by
  have hh : (rotd n c p o m).has (i : Int) := ⟨by omega, by rw [rotd_n]; omega⟩
  unfold rottenB
  rw [decide_eq_true (show (rotd n c p o m).gone = false ∧ _ from ⟨rfl, hh⟩), Bool.true_and]
  by_cases h : i = p
  · subst h
    simp [rotd, hi]
  · simp [rotd, hi, h, show ¬ p = i from fun e => h e.symm]
theorem rotd_readX (hi : i < n) : (rotd n c p o m).readX (i : Int) = 0 := by
  have hh : (rotd n c p o m).has (i : Int) := ⟨by omega, by rw [rotd_n]; omega⟩
  unfold readX
  rw [if_neg (by simp [rotd]), if_pos hh]
theorem rotd_readL (hi : i < n) : (rotd n c p o m).readL (i : Int) = if i = p then spoil (full c) o m else full c := by
  have hh : (rotd n c p o m).has (i : Int) := ⟨by omega, by rw [rotd_n]; omega⟩
  unfold readL
  rw [if_neg (by simp [rotd]), if_pos hh]
  show ((List.replicate n (full c)).set p (spoil (full c) o m)).getD (i : Int).toNat [] = _
  by_cases h : i = p
  · subst h
    rw [if_pos rfl]
    simp [hi]
  · rw [if_neg h]
    simp [hi, show ¬ p = i from fun e => h e.symm]
theorem rotd_writeX (hp : p < n) : (rotd n c p o m).writeX (p : Int) (full c) = 0 := by
  have hh : (rotd n c p o m).has (p : Int) := ⟨by omega, by rw [rotd_n]; omega⟩
  unfold writeX
  rw [if_neg (by simp [rotd]), if_pos ⟨hh, full_length c⟩]
theorem rotd_write (hp : p < n) : (rotd n c p o m).write (p : Int) (full c) = rotw n c p o m := by
  have hh : (rotd n c p o m).has (p : Int) := ⟨by omega, by rw [rotd_n]; omega⟩
  unfold write
  rw [if_neg (by simp [rotd]), if_pos ⟨hh, full_length c⟩]
  rfl
theorem rotw_rotten (hp : p < n) : (rotw n c p o m).rottenB (p : Int) = true := by
  have := rotd_rotten (c := c) (o := o) (m := m) (p := p) hp
  rw [decide_eq_true rfl] at this
  exact this
theorem rotw_flushX : (rotw n c p o m).flushX = 0 := rfl
theorem rep_set {α : Type} (n p : Nat) (a : α) : (List.replicate n a).set p a = List.replicate n a := by
  apply List.ext_getElem
  · simp
  · intro i h1 h2
    rw [List.getElem_set]
    split <;> simp
theorem rotw_flush : (rotw n c p o m).flush1 = whole n c := by
  unfold flush1
  rw [if_neg (by simp [rotw])]
  show Dv.mk (((List.replicate n (full c)).set p (spoil (full c) o m)).set p (full c)) (((List.replicate n false).set p true).set p false) [] false = _
  rw [List.set_set, List.set_set, rep_set, rep_set]
  rfl
theorem whole_rotten (hp : p < n) : (whole n c).rottenB (p : Int) = false := by
  unfold rottenB
  simp [whole, hp]
/-- A dead drive, and one in its place. -/
theorem dead_readX (x : Dv) (z : Int) : x.fail.readX z = 90 := rfl
theorem dead_readL (x : Dv) (z : Int) : x.fail.readL z = [] := rfl
theorem dead_writeX (x : Dv) (z : Int) (l : List UInt8) : x.fail.writeX z l = 90 := rfl
theorem dead_write (x : Dv) (z : Int) (l : List UInt8) : x.fail.write z l = x.fail := rfl
theorem dead_gone (x : Dv) : x.fail.gone = true := rfl
theorem dead_replace (x : Dv) : x.fail.replace = new x.n := by simp [replace, fail, Dv.n]
theorem new_readX (hp : p < n) : (new n).readX (p : Int) = 0 := by
  have hh : (new n).has (p : Int) := ⟨by omega, by rw [new_n]; omega⟩
  unfold readX
  rw [if_neg (by simp [new]), if_pos hh]
theorem new_readL (hp : p < n) : (new n).readL (p : Int) = full 0 := by
  have hh : (new n).has (p : Int) := ⟨by omega, by rw [new_n]; omega⟩
  unfold readL
  rw [if_neg (by simp [new]), if_pos hh]
  show (List.replicate n (full 0)).getD (p : Int).toNat [] = _
  simp [hp]
theorem new_rotten (hp : p < n) : (new n).rottenB (p : Int) = false := by
  unfold rottenB
  simp [new, hp]
/-- k of the four bytes are spoilt. -/
def spoilK (c : UInt8) (o m k : Nat) : List UInt8 := (List.range 64).map fun j => if o ≤ j ∧ j < o + k then c ^^^ UInt8.ofNat (m >>> (8 * (j - o))) else c
theorem spoilK_len (k : Nat) : (spoilK c o m k).length = 64 := by simp [spoilK]
theorem spoilK_zero : spoilK c o m 0 = full c := by
  apply List.ext_getElem
  · rw [spoilK_len, full_length]
  · intro i h1 h2
    simp only [spoilK, List.getElem_map, List.getElem_range, full, List.getElem_replicate]
    rw [if_neg (by omega)]
theorem spoilK_at (k : Nat) (h : o + k < 64) : (spoilK c o m k)[o + k]? = some c := by
  rw [List.getElem?_eq_getElem (by rw [spoilK_len]; exact h)]
  simp only [spoilK, List.getElem_map, List.getElem_range]
  rw [if_neg (by omega)]
theorem spoilK_set (k : Nat) (h : o + k < 64) : (spoilK c o m k).set (o + k) (c ^^^ UInt8.ofNat (m >>> (8 * k))) = spoilK c o m (k + 1) := by
  apply List.ext_getElem
  · rw [List.length_set, spoilK_len, spoilK_len]
  · intro i h1 h2
    rw [List.getElem_set]
    simp only [spoilK, List.getElem_map, List.getElem_range]
    by_cases hi : o + k = i
    · rw [if_pos hi, if_pos (by omega), show i - o = k from by omega]
    · rw [if_neg hi]
      by_cases h3 : o ≤ i ∧ i < o + k
      · rw [if_pos h3, if_pos (by omega)]
      · rw [if_neg h3, if_neg (by omega)]
theorem spoilK_four : spoilK c o m 4 = spoil (full c) o m := by
  unfold spoilK spoil
  rw [full_length]
  apply List.map_congr_left
  intro j hj
  have hj : j < 64 := List.mem_range.mp hj
  have : (full c).getD j 0 = c := by
    unfold full
    rw [List.getD_eq_getElem?_getD, List.getElem?_replicate, if_pos hj]
    rfl
  rw [this]
end Dv
theorem byte_at (c : UInt8) (m j : Nat) : bits .xor .u8 (c.toNat : Int) ((m : Int) / 2 ^ (8 * j) % 256) = ((c ^^^ UInt8.ofNat (m >>> (8 * j))).toNat : Int) := by
  rw [← xor_b, UInt8.toNat_ofNat', Nat.shiftRight_eq_div_pow]
  simp
end Go.Proofs.YtpijfghklgmefaaDoor

namespace Go.Proofs.YtpijfghklgmefaaDoor
open Go.RowKit Go.Proofs
set_option linter.unusedVariables false

/-- Guards for walks: the operation that comes next writes slot d; it writes none. -/
theorem at_dst {P : Program} {ops : Array Oper} {Q : Exit → Act → World → Prop} {d : Nat} {op : Op} {ty : TypeId} {pos : String} {af : Array Edge} {gd : Option (Tmp × Bool)} {rest : List Oper} {a : Act} {w : World} (h : wpList P ops Q (⟨some d, op, ty, pos, af, gd⟩ :: rest) a w) : wpList P ops Q (⟨some d, op, ty, pos, af, gd⟩ :: rest) a w := h
theorem at_none {P : Program} {ops : Array Oper} {Q : Exit → Act → World → Prop} {t : TypeId} {x y : Operand} {ty : TypeId} {pos : String} {af : Array Edge} {gd : Option (Tmp × Bool)} {rest : List Oper} {a : Act} {w : World} (h : wpList P ops Q (⟨none, .store t x y, ty, pos, af, gd⟩ :: rest) a w) : wpList P ops Q (⟨none, .store t x y, ty, pos, af, gd⟩ :: rest) a w := h
/-- Block b: room for cap elements of k cells each, the first n of them read as xs. -/
structure Rw (w : World) (b : Nat) (T : TypeId) (k n cap : Nat) (xs : List Value) : Prop where
  ex : ∃ cur, w.heap[b]? = some (.cells cur T (0, 0)) ∧ cur.size = cap * k ∧ cur.toList.take (n * k) = xs
  le : n ≤ cap
  top : cap ≤ maxLen
section
variable {w w' : World} {b : Nat} {T : TypeId} {k n cap : Nat} {xs : List Value}
theorem Rw.lt (h : Rw w b T k n cap xs) : b < w.heap.size := by
  obtain ⟨cur, hb, _⟩ := h.ex
  exact block_lt hb
theorem Rw.len (h : Rw w b T k n cap xs) : xs.length = n * k := by
  obtain ⟨cur, _, hs, rfl⟩ := h.ex
  rw [List.length_take, Array.length_toList, hs]
  exact Nat.min_eq_left (Nat.mul_le_mul_right _ h.le)
theorem Rw.fr {S : Nat → Prop} (h : Rw w b T k n cap xs) (hf : Fr S w w') (hb : ¬ S b) : Rw w' b T k n cap xs := by
  obtain ⟨cur, h1, h2, h3⟩ := h.ex
  exact ⟨⟨cur, hf.row_some h1 hb, h2, h3⟩, h.le, h.top⟩
theorem Rw.later (h : Rw w b T k n cap xs) (hb : Below w.heap.size w w') : Rw w' b T k n cap xs := h.fr (Fr.of_below hb : Fr (fun _ => False) _ _) (fun h => h)
theorem Rw.cell (h : Rw w b T k n cap xs) {j : Nat} {v : Value} (hj : xs[j]? = some v) : w.cell? ⟨b, j, none⟩ = some v := by
  obtain ⟨cur, h1, h2, h3⟩ := h.ex
  rw [cell_of_row _ _ _ _ _ _ h1]
  have hl := (List.getElem?_eq_some_iff.1 hj).1
  rw [h.len] at hl
  rw [← h3, List.getElem?_take_of_lt hl] at hj
  simpa using hj
theorem Rw.free (h : Rw w b T k n cap xs) (j : Nat) : w.frozen? ⟨b, j, none⟩ = false := by
  obtain ⟨cur, h1, h2, h3⟩ := h.ex
  exact frozen_of_row _ _ _ _ _ h1
theorem Rw.sl (h : Rw w b T k n cap xs) : Sl w k (some ⟨b, 0, none⟩) n cap xs := ⟨h.len, h.le, h.top, fun j u hu => ⟨b, 0, rfl, by rw [Nat.zero_add]; exact h.cell hu⟩⟩
theorem Rw.range (h : Rw w b T k n cap xs) {o : Nat} {cs : List Value} (hc : ∀ j, j < cs.length → xs[o + j]? = cs[j]?) : w.rangeAt b o cs := fun j v hv => h.cell (by rw [hc j (List.getElem?_eq_some_iff.1 hv).1]; exact hv)
theorem Rw.there (h : Rw w b T k n cap xs) {o m : Nat} (hm : o + m ≤ n * k) : w.there b o m := fun j hj => ⟨by
  have hl : o + j < xs.length := by rw [h.len]; omega
  rw [h.cell (List.getElem?_eq_getElem hl)]; rfl, h.free _⟩
theorem Rw.owns (h : Rw w b T k n cap xs) : w.ownsRow 0 T k (.slice (some ⟨b, 0, none⟩) n cap) n xs := by
  obtain ⟨cur, h1, h2, h3⟩ := h.ex
  exact ⟨h.len, .inr ⟨b, cap, cur, rfl, Nat.zero_le _, h1, h.le, h.top, h2, h3⟩⟩
theorem Rw.of_owns {A : Option Addr} (h : w.ownsRow 0 T k (.slice A n cap) n xs) (hn : 0 < n) : ∃ b, A = some ⟨b, 0, none⟩ ∧ Rw w b T k n cap xs := by
  obtain ⟨hl, ⟨_, h0⟩ | ⟨g, c, cur, hv, _, hg, h1, h2, h3, h4⟩⟩ := h
  · omega
  · injection hv with hA _ hc
    subst hA
    subst hc
    exact ⟨g, rfl, ⟨cur, hg, h3, h4⟩, h1, h2⟩
theorem Rw.new (w : World) (cs : Array Value) (T : TypeId) (k n : Nat) (hs : cs.size = n * k) (hn : n ≤ maxLen) : Rw (w.alloc (.cells cs T)) w.heap.size T k n n cs.toList := by
  refine ⟨⟨cs, heap_alloc_new w _, hs, ?_⟩, Nat.le_refl _, hn⟩
  rw [← hs, ← Array.length_toList, List.take_length]
theorem take_mid {α : Type} (c vs : List α) (o m : Nat) (h : o + vs.length ≤ m) (hm : m ≤ c.length) : (c.take o ++ vs ++ c.drop (o + vs.length)).take m = (c.take m).take o ++ vs ++ (c.take m).drop (o + vs.length) := by
  apply List.ext_getElem?
  intro i
  simp only [List.getElem?_take, List.getElem?_append, List.length_append, List.length_take, List.getElem?_drop]
  have e1 : min o c.length = o := by omega
  have e2 : min o (min m c.length) = o := by omega
  rw [e1, e2]
  by_cases h1 : i < o + vs.length
  · have : i < m := by omega
    by_cases h2 : i < o
    · simp [h1, h2, this]
    · simp [h1, h2, this]
  · by_cases h2 : i < m
    · have : o + vs.length + (i - (o + vs.length)) < m := by omega
      simp [h1, h2, this]
    · have : ¬ o + vs.length + (i - (o + vs.length)) < m := by omega
      simp [h1, h2, this]
theorem Rw.store (h : Rw w b T k n cap xs) {o : Nat} {vs : List Value} (hm : o + vs.length ≤ n * k) (h1 : ∀ v ∈ vs, v.oneCell' = true) : Rw (w.setCells b o vs) b T k n cap (xs.take o ++ vs ++ xs.drop (o + vs.length)) := by
  obtain ⟨cur, hb, hs, rfl⟩ := h.ex
  have hnc : n * k ≤ cap * k := Nat.mul_le_mul_right _ h.le
  rw [setCells_row (P := default) hb (by omega) h1]
  refine ⟨⟨_, setRow_heap w b cur _ T _ hb, ?_, ?_⟩, h.le, h.top⟩
  · simp
    omega
  · show (cur.toList.take o ++ vs ++ cur.toList.drop (o + vs.length)).take (n * k) = _
    exact take_mid _ _ _ _ hm (by simp; omega)
end
theorem Fr.setCells {S : Nat → Prop} : ∀ (vs : List Value) {a w : World} {b o : Nat}, Fr S a w → S b → Fr S a (w.setCells b o vs)
  | [], _, _, _, _, h, _ => h
  | v :: vs, _, _, b, o, h, hb => Fr.setCells vs (h.setCell (p := ⟨b, o, none⟩) (.inr hb) v) hb

/-! Rows of k cells, one behind the other. -/
section
variable {α β : Type} {f : α → List β} {k : Nat}
theorem flat_len (h : ∀ a, (f a).length = k) : ∀ l : List α, (l.flatMap f).length = l.length * k
  | [] => by simp
  | a :: l => by rw [List.flatMap_cons, List.length_append, h, flat_len h l, List.length_cons, Nat.add_mul]; omega
theorem flat_get (h : ∀ a, (f a).length = k) : ∀ {l : List α} {i : Nat} {a : α}, l[i]? = some a → ∀ j, j < k → (l.flatMap f)[i * k + j]? = (f a)[j]?
  | a :: l, 0, b, hb, j, hj => by
    have hb : a = b := by simpa using hb
    subst hb
    rw [List.flatMap_cons, Nat.zero_mul, Nat.zero_add, List.getElem?_append_left (by rw [h]; exact hj)]
  | a :: l, i + 1, b, hb, j, hj => by
    have hb : l[i]? = some b := by simpa using hb
    have e : (i + 1) * k + j = i * k + j + k := by rw [Nat.add_mul]; omega
    rw [List.flatMap_cons, e, List.getElem?_append_right (by rw [h]; omega), h, Nat.add_sub_cancel]
    exact flat_get h hb j hj
theorem flat_set (h : ∀ a, (f a).length = k) : ∀ (l : List α) (i : Nat) (a : α), i < l.length → (l.flatMap f).take (i * k) ++ f a ++ (l.flatMap f).drop (i * k + k) = (l.set i a).flatMap f
  | [], _, _, hi => absurd hi (Nat.not_lt_zero _)
  | b :: l, 0, a, _ => by
    have := h b
    simp [List.flatMap_cons, this]
  | b :: l, i + 1, a, hi => by
    have e1 : (i + 1) * k = k + i * k := by rw [Nat.add_mul]; omega
    have hb := h b
    rw [List.set_cons_succ, List.flatMap_cons, List.flatMap_cons, ← flat_set h l i a (by simpa using hi), e1]
    rw [List.take_append, List.drop_append, hb, show k + i * k - k = i * k from by omega, show k + i * k + k - k = i * k + k from by omega]
    rw [List.take_of_length_le (by omega), List.drop_of_length_le (by omega)]
    simp
end

/-- A sector's 64 bytes. -/
def pad9 (b : List UInt8) : List UInt8 := (List.range 64).map fun j => b.getD j 0
theorem pad9_len (b : List UInt8) : (pad9 b).length = 64 := by simp [pad9]
theorem pad9_eq {b : List UInt8} (h : b.length = 64) : pad9 b = b := by
  apply List.ext_getElem?
  intro i
  by_cases hi : i < 64
  · have : i < b.length := by omega
    simp [pad9, hi, this]
  · rw [List.getElem?_eq_none (by rw [pad9_len]; omega), List.getElem?_eq_none (by omega)]
theorem pad9_get (b : List UInt8) {j : Nat} (h : j < 64) : (pad9 b)[j]? = some (b.getD j 0) := by simp [pad9, h]
/-- A sector that is stored, as cells; a write that waits. -/
def sec9 (d : List UInt8 × Bool) : List Value := cells (pad9 d.1) ++ [.bool d.2]
def wrc9 (p : Nat × List UInt8) : List Value := .int .i64 (p.1 : Int) :: cells (pad9 p.2)
theorem sec9_len (d : List UInt8 × Bool) : (sec9 d).length = 65 := by rw [sec9, List.length_append, cells_length, pad9_len]; rfl
theorem wrc9_len (p : Nat × List UInt8) : (wrc9 p).length = 65 := by rw [wrc9, List.length_cons, cells_length, pad9_len]
theorem sec9_one (d : List UInt8 × Bool) : ∀ v ∈ sec9 d, v.oneCell' = true := by
  intro v hv
  rcases List.mem_append.1 hv with h | h
  · exact cells_one _ v h
  · have : v = .bool d.2 := by simpa using h
    rw [this]; rfl
theorem wrc9_one (p : Nat × List UInt8) : ∀ v ∈ wrc9 p, v.oneCell' = true := by
  intro v hv
  rcases List.mem_cons.1 hv with h | h
  · rw [h]; rfl
  · exact cells_one _ v h
theorem flat_one {α : Type} {f : α → List Value} (h : ∀ a, ∀ v ∈ f a, v.oneCell' = true) (l : List α) : ∀ v ∈ l.flatMap f, v.oneCell' = true := by
  intro v hv
  obtain ⟨a, _, ha⟩ := List.mem_flatMap.1 hv
  exact h a v ha
section
variable {w : World} {b : Nat} {T : TypeId} {n cap i : Nat}
theorem Rw.sec_text {ds : List (List UInt8 × Bool)} {d : List UInt8 × Bool} (h : Rw w b T 65 n cap (ds.flatMap sec9)) (hd : ds[i]? = some d) : w.rangeAt b (i * 65) (cells (pad9 d.1)) := by
  refine h.range fun j hj => ?_
  rw [cells_length, pad9_len] at hj
  rw [flat_get sec9_len hd j (by omega), sec9, List.getElem?_append_left (by rw [cells_length, pad9_len]; exact hj)]
theorem Rw.sec_bad {ds : List (List UInt8 × Bool)} {d : List UInt8 × Bool} (h : Rw w b T 65 n cap (ds.flatMap sec9)) (hd : ds[i]? = some d) : w.cell? ⟨b, i * 65 + 64, none⟩ = some (.bool d.2) := by
  refine h.cell ?_
  rw [flat_get sec9_len hd 64 (by omega), sec9, List.getElem?_append_right (by rw [cells_length, pad9_len]; exact Nat.le_refl _), cells_length, pad9_len]
  rfl
theorem Rw.sec_byte {ds : List (List UInt8 × Bool)} {d : List UInt8 × Bool} (h : Rw w b T 65 n cap (ds.flatMap sec9)) (hd : ds[i]? = some d) {j : Nat} (hj : j < 64) : w.cell? ⟨b, i * 65 + j, none⟩ = some (bv (d.1.getD j 0)) := by
  refine h.cell ?_
  rw [flat_get sec9_len hd j (by omega), sec9, List.getElem?_append_left (by rw [cells_length, pad9_len]; exact hj), cells, List.getElem?_map, pad9_get _ hj]
  rfl
theorem Rw.wr_text {ps : List (Nat × List UInt8)} {p : Nat × List UInt8} (h : Rw w b T 65 n cap (ps.flatMap wrc9)) (hp : ps[i]? = some p) : w.rangeAt b (i * 65 + 1) (cells (pad9 p.2)) := by
  refine h.range fun j hj => ?_
  rw [cells_length, pad9_len] at hj
  rw [show i * 65 + 1 + j = i * 65 + (j + 1) from by omega, flat_get wrc9_len hp (j + 1) (by omega), wrc9, List.getElem?_cons_succ]
theorem Rw.wr_all {ps : List (Nat × List UInt8)} {p : Nat × List UInt8} (h : Rw w b T 65 n cap (ps.flatMap wrc9)) (hp : ps[i]? = some p) : w.rangeAt b (i * 65) (wrc9 p) := by
  refine h.range fun j hj => ?_
  rw [wrc9_len] at hj
  exact flat_get wrc9_len hp j hj
theorem Rw.sec_put {ds : List (List UInt8 × Bool)} (h : Rw w b T 65 n cap (ds.flatMap sec9)) (hi : i < n) (d : List UInt8 × Bool) : Rw (w.setCells b (i * 65) (sec9 d)) b T 65 n cap ((ds.set i d).flatMap sec9) := by
  have hl : ds.length = n := by have := h.len; rw [flat_len sec9_len] at this; omega
  have := h.store (o := i * 65) (vs := sec9 d) (by rw [sec9_len]; omega) (sec9_one d)
  rw [sec9_len, flat_set sec9_len ds i d (by omega)] at this
  exact this
end
end Go.Proofs.YtpijfghklgmefaaDoor

namespace Go.Proofs.YtpijfghklgmefaaDoor
open Go.RowKit Go.Proofs
set_option linter.unusedVariables false

/-- No slice at all, or a block that is known whole. -/
def Rn (w : World) (A : Option Addr) (T : TypeId) (k n c : Nat) (xs : List Value) : Prop := (n = 0 ∧ A = none ∧ c = 0 ∧ xs = []) ∨ ∃ b, A = some ⟨b, 0, none⟩ ∧ Rw w b T k n c xs
/-- The block of an address. -/
def Bk (A : Option Addr) : Nat → Prop := fun b => ∃ o, A = some ⟨b, o, none⟩
/-- The blocks that append and the store behind it turn. -/
def Bk7 (D : Nat) (A : Option Addr) : Nat → Prop := fun b => b = D ∨ Bk A b
section
variable {w w' : World} {A : Option Addr} {T : TypeId} {size n c : Nat} {xs : List Value}
theorem Rn.sl (h : Rn w A T size n c xs) : Sl w size A n c xs := by
  rcases h with ⟨rfl, rfl, rfl, rfl⟩ | ⟨b, rfl, hr⟩
  · exact Sl.nil w size 0 (by decide)
  · exact hr.sl
theorem Rn.fr {S : Nat → Prop} (h : Rn w A T size n c xs) (hf : Fr S w w') (hA : ∀ b, Bk A b → ¬ S b) : Rn w' A T size n c xs := by
  rcases h with q | ⟨b, rfl, hr⟩
  · exact .inl q
  · exact .inr ⟨b, rfl, hr.fr hf (hA b ⟨0, rfl⟩)⟩
theorem Rn.later (h : Rn w A T size n c xs) (hb : Below w.heap.size w w') : Rn w' A T size n c xs := h.fr (Fr.of_below hb : Fr (fun _ => False) _ _) (fun _ _ h => h)
theorem Rn.lt (h : Rn w A T size n c xs) {b : Nat} (hb : Bk A b) : b < w.heap.size := by
  obtain ⟨o, ho⟩ := hb
  rcases h with ⟨_, hA, _⟩ | ⟨g, hA, hr⟩
  · rw [hA] at ho; cases ho
  · rw [hA] at ho
    injection ho with ho
    injection ho with ho _
    rw [← ho]
    exact hr.lt
theorem run_append_rw {P : Program} (t tx ty : TypeId) (i : TypeInfo) (z : Value) (bytes : Nat) (ht : P.underlying t = some (.slice T)) (hi : P.info? T = some i) (hz : i.zero = some z)
    (hsize : i.size = size) (hby : i.bytes = bytes) (hzs : z.cells.size = size) (hsz : 0 < size) (h : Rn w A T size n c xs)
    (x : Value) (m : Nat) (ys : List Value) (hs : Src P size tx x m ys w) (hm : 0 < m) (h63 : n + m ≤ maxLen) (hbytes : (n + m) * bytes ≤ 140737488355328) :
    ∃ b c' w', (Builtin.append_ #[t, tx] ty #[.slice A n c, x]).run P w = .ok (.slice (some ⟨b, 0, none⟩) (n + m) c') w' ∧ Rw w' b T size (n + m) c' (xs ++ ys) ∧ Fr (Bk A) w w' ∧ (A = some ⟨b, 0, none⟩ ∨ b = w.heap.size) := by
  subst hsize
  subst hby
  have hcap : n ≤ c := h.sl.cap
  by_cases hroom : n + m ≤ c
  · obtain ⟨g, rfl, hr⟩ : ∃ b, A = some ⟨b, 0, none⟩ ∧ Rw w b T i.size n c xs := by
      rcases h with ⟨_, _, h0, _⟩ | h
      · omega
      · exact h
    obtain ⟨cur, hg, hcs, htake⟩ := hr.ex
    have hl := hr.len
    have hfit : n * i.size + ys.length ≤ cur.size := by rw [hs.newsLen, hcs, ← Nat.add_mul]; exact Nat.mul_le_mul_right _ hroom
    have hrun := run_append_room_src (P := P) w t tx ty T i ht hi g 0 n c x m ys hs hroom (fun j hj => by simp [World.cell?, hg]; omega) (fun j hj => by simp [World.frozen?, hg])
    rw [Nat.zero_add, setCells_row P hg hfit hs.one] at hrun
    have hlen : (xs ++ ys).length = (n + m) * i.size := by rw [List.length_append, hl, hs.newsLen, Nat.add_mul]
    refine ⟨g, c, _, hrun, ⟨⟨_, setRow_heap w g cur _ T _ hg, ?_, ?_⟩, hroom, hr.top⟩, ⟨rfl, rfl, rfl, by simp, fun k hk hnk => setRow_other w g k _ (fun e => hnk ⟨0, by rw [e]⟩)⟩, .inl rfl⟩
    · simp only [List.size_toArray, List.length_append, List.length_take, List.length_drop, Array.length_toList]
      omega
    · rw [htake, ← hlen]
      exact List.take_left
  · have hc : c < n + m := by omega
    have hsl := h.sl
    have hrun := run_append_grow_src (P := P) w t tx ty T i z ht hi hz A n c xs (hsl.drew.firstCells) x m ys hs hc (by unfold maxLen at h63; omega) (growslice_fits hc hbytes)
    have hge := grownCap_ge w (n + m) c T
    have hcm : grownCap w (n + m) c T ≤ maxLen := grownCap_le_maxLen w (n + m) c T h63
    have hlen : (xs ++ ys).length = (n + m) * i.size := by rw [List.length_append, hsl.len, hs.newsLen, Nat.add_mul]
    refine ⟨w.heap.size, _, _, hrun, ⟨⟨_, heap_alloc_new w.drew _, ?_, ?_⟩, hge, hcm⟩, ((Fr.refl _ _).drew).alloc _, .inr rfl⟩
    · simp only [Array.size_append, List.size_toArray, size_zeroCells, hzs, hlen, ← Nat.add_mul]
      congr 1
      omega
    · simp only [Array.toList_append]
      rw [← hlen]
      exact List.take_left
theorem wp_append_rw {P : Program} {o : Oper} {a : Act} {K : Act → World → Prop} {Q : Exit → Act → World → Prop} (s x : Operand) (t tx : TypeId)
    (ho : o.op = .call { callee := .builtin .append, args := #[s, x], argTypes := #[t, tx] })
    (i : TypeInfo) (z : Value) (bytes : Nat) (ht : P.underlying t = some (.slice T)) (hi : P.info? T = some i) (hz : i.zero = some z)
    (hsize : i.size = size) (hby : i.bytes = bytes) (hzs : z.cells.size = size) (hsz : 0 < size) (hv : a.eval s = .slice A n c) (h : Rn w A T size n c xs)
    (xv : Value) (m : Nat) (ys : List Value) (hx : a.eval x = xv) (hs : Src P size tx xv m ys w) (hm : 0 < m) (h63 : n + m ≤ maxLen) (hbytes : (n + m) * bytes ≤ 140737488355328)
    (hk : ∀ b c' w', Rw w' b T size (n + m) c' (xs ++ ys) → Fr (Bk A) w w' → (A = some ⟨b, 0, none⟩ ∨ b = w.heap.size) → K (a.put o.dst (.slice (some ⟨b, 0, none⟩) (n + m) c')) w') : o.wp P a w K Q := by
  obtain ⟨b, c', w', hr, h2, h3, h4⟩ := run_append_rw (P := P) t tx o.type i z bytes ht hi hz hsize hby hzs hsz h xv m ys hs hm h63 hbytes
  unfold Oper.wp execOp
  simp only [ho, resolve, invoke, builtin, Sem.run_bind, Sem.run_pure, Result.andThen_ok, List.map_toArray, List.map_cons, List.map_nil, hv, hx, hr]
  exact hk b c' w' h2 h3 h4
theorem wpList_append_rw {P : Program} {ops : Array Oper} {rest : List Oper} {o : Oper} {a : Act} {Q : Exit → Act → World → Prop} (hgd : o.guard = none) (s x : Operand) (t tx : TypeId)
    (ho : o.op = .call { callee := .builtin .append, args := #[s, x], argTypes := #[t, tx] })
    (i : TypeInfo) (z : Value) (bytes : Nat) (ht : P.underlying t = some (.slice T)) (hi : P.info? T = some i) (hz : i.zero = some z)
    (hsize : i.size = size) (hby : i.bytes = bytes) (hzs : z.cells.size = size) (hsz : 0 < size) (hv : a.eval s = .slice A n c) (h : Rn w A T size n c xs)
    (xv : Value) (m : Nat) (ys : List Value) (hx : a.eval x = xv) (hs : Src P size tx xv m ys w) (hm : 0 < m) (h63 : n + m ≤ maxLen) (hbytes : (n + m) * bytes ≤ 140737488355328)
    (hk : ∀ b c' w', Rw w' b T size (n + m) c' (xs ++ ys) → Fr (Bk A) w w' → (A = some ⟨b, 0, none⟩ ∨ b = w.heap.size) → wpList P ops Q rest (a.put o.dst (.slice (some ⟨b, 0, none⟩) (n + m) c')) w') : wpList P ops Q (o :: rest) a w :=
  wpList_plain hgd fun _ hK => wp_append_rw s x t tx ho i z bytes ht hi hz hsize hby hzs hsz hv h xv m ys hx hs hm h63 hbytes fun b c' w' h2 h3 h4 => hK _ _ (hk b c' w' h2 h3 h4)
theorem wpList_append_no {P : Program} {ops : Array Oper} {rest : List Oper} {o : Oper} {a : Act} {Q : Exit → Act → World → Prop} (hgd : o.guard = none) (s x : Operand) (t tx : TypeId)
    (ho : o.op = .call { callee := .builtin .append, args := #[s, x], argTypes := #[t, tx] })
    (i : TypeInfo) (ht : P.underlying t = some (.slice T)) (hi : P.info? T = some i) (hsize : i.size = size) (hv : a.eval s = .slice A n c) (hc : n ≤ c)
    (xv : Value) (hx : a.eval x = xv) (hs : Src P size tx xv 0 [] w)
    (hk : wpList P ops Q rest (a.put o.dst (.slice A n c)) w) : wpList P ops Q (o :: rest) a w := by
  subst hsize
  have hr := run_append_nothing (P := P) w t tx o.type T i ht hi A n c hc xv hs
  refine wpList_plain hgd fun _ hK => ?_
  unfold Oper.wp execOp
  simp only [ho, resolve, invoke, builtin, Sem.run_bind, Sem.run_pure, Result.andThen_ok, List.map_toArray, List.map_cons, List.map_nil, hv, hx, hr]
  exact hK _ _ hk
/-- The same, of whatever number of elements, none among them. -/
theorem run_append_rn {P : Program} (t tx ty : TypeId) (i : TypeInfo) (z : Value) (bytes : Nat) (ht : P.underlying t = some (.slice T)) (hi : P.info? T = some i) (hz : i.zero = some z)
    (hsize : i.size = size) (hby : i.bytes = bytes) (hzs : z.cells.size = size) (hsz : 0 < size) (h : Rn w A T size n c xs)
    (x : Value) (m : Nat) (ys : List Value) (hs : Src P size tx x m ys w) (h63 : n + m ≤ maxLen) (hbytes : (n + m) * bytes ≤ 140737488355328) :
    ∃ A' c' w', (Builtin.append_ #[t, tx] ty #[.slice A n c, x]).run P w = .ok (.slice A' (n + m) c') w' ∧ Rn w' A' T size (n + m) c' (xs ++ ys) ∧ Fr (Bk A) w w' ∧ (A' = A ∨ A' = some ⟨w.heap.size, 0, none⟩) := by
  by_cases hm : m = 0
  · subst hm
    have hy : ys = [] := List.eq_nil_of_length_eq_zero (by have := hs.newsLen; omega)
    subst hy
    subst hsize
    have hcap : n ≤ c := h.sl.cap
    exact ⟨A, c, w, run_append_nothing w t tx ty T i ht hi A n c hcap x hs, by simpa using h, Fr.refl _ _, .inl rfl⟩
  · obtain ⟨b, c', w', h1, h2, h3, h4⟩ := run_append_rw (P := P) t tx ty i z bytes ht hi hz hsize hby hzs hsz h x m ys hs (by omega) h63 hbytes
    exact ⟨_, c', w', h1, .inr ⟨b, rfl, h2⟩, h3, h4.imp (fun e => e.symm) (fun e => by rw [e])⟩
theorem wp_append_rn {P : Program} {o : Oper} {a : Act} {K : Act → World → Prop} {Q : Exit → Act → World → Prop} (s x : Operand) (t tx : TypeId)
    (ho : o.op = .call { callee := .builtin .append, args := #[s, x], argTypes := #[t, tx] })
    (i : TypeInfo) (z : Value) (bytes : Nat) (ht : P.underlying t = some (.slice T)) (hi : P.info? T = some i) (hz : i.zero = some z)
    (hsize : i.size = size) (hby : i.bytes = bytes) (hzs : z.cells.size = size) (hsz : 0 < size) (hv : a.eval s = .slice A n c) (h : Rn w A T size n c xs)
    (xv : Value) (m : Nat) (ys : List Value) (hx : a.eval x = xv) (hs : Src P size tx xv m ys w) (h63 : n + m ≤ maxLen) (hbytes : (n + m) * bytes ≤ 140737488355328)
    (hk : ∀ A' c' w', Rn w' A' T size (n + m) c' (xs ++ ys) → Fr (Bk A) w w' → (A' = A ∨ A' = some ⟨w.heap.size, 0, none⟩) → K (a.put o.dst (.slice A' (n + m) c')) w') : o.wp P a w K Q := by
  obtain ⟨A', c', w', hr, h2, h3, h4⟩ := run_append_rn (P := P) t tx o.type i z bytes ht hi hz hsize hby hzs hsz h xv m ys hs h63 hbytes
  unfold Oper.wp execOp
  simp only [ho, resolve, invoke, builtin, Sem.run_bind, Sem.run_pure, Result.andThen_ok, List.map_toArray, List.map_cons, List.map_nil, hv, hx, hr]
  exact hk A' c' w' h2 h3 h4
theorem wpList_append_rn {P : Program} {ops : Array Oper} {rest : List Oper} {o : Oper} {a : Act} {Q : Exit → Act → World → Prop} (hgd : o.guard = none) (s x : Operand) (t tx : TypeId)
    (ho : o.op = .call { callee := .builtin .append, args := #[s, x], argTypes := #[t, tx] })
    (i : TypeInfo) (z : Value) (bytes : Nat) (ht : P.underlying t = some (.slice T)) (hi : P.info? T = some i) (hz : i.zero = some z)
    (hsize : i.size = size) (hby : i.bytes = bytes) (hzs : z.cells.size = size) (hsz : 0 < size) (hv : a.eval s = .slice A n c) (h : Rn w A T size n c xs)
    (xv : Value) (m : Nat) (ys : List Value) (hx : a.eval x = xv) (hs : Src P size tx xv m ys w) (h63 : n + m ≤ maxLen) (hbytes : (n + m) * bytes ≤ 140737488355328)
    (hk : ∀ A' c' w', Rn w' A' T size (n + m) c' (xs ++ ys) → Fr (Bk A) w w' → (A' = A ∨ A' = some ⟨w.heap.size, 0, none⟩) → wpList P ops Q rest (a.put o.dst (.slice A' (n + m) c')) w') : wpList P ops Q (o :: rest) a w :=
  wpList_plain hgd fun _ hK => wp_append_rn s x t tx ho i z bytes ht hi hz hsize hby hzs hsz hv h xv m ys hx hs h63 hbytes fun A' c' w' h2 h3 h4 => hK _ _ (hk A' c' w' h2 h3 h4)
end
end Go.Proofs.YtpijfghklgmefaaDoor
