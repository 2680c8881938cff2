/-
  Words of our own on what a call may turn in memory: blocks of a set S alone, beside new ones ('Fr'). Nothing here speaks of the program's own text. No condition.
-/
import Derived.Test.YtccnoflgbopjlaaKit
namespace Go.Proofs.Ytccnoflgbopjlaa
open Go.RowKit

/-- Of what lay in memory only blocks of S may have turned; the streams are as they were. -/
structure Fr (S : Nat → Prop) (w w' : World) : Prop where
  os : w'.os = w.os
  tape : w'.tape = w.tape
  output : w'.output = w.output
  size : w.heap.size ≤ w'.heap.size
  block : ∀ k, k < w.heap.size → ¬ S k → w'.heap[k]? = w.heap[k]?

section
variable {S : Nat → Prop} {w w' a b c : World}
theorem Fr.refl (S : Nat → Prop) (w : World) : Fr S w w := ⟨rfl, rfl, rfl, Nat.le_refl _, fun _ _ _ => rfl⟩
theorem Fr.trans (h : Fr S a b) (k : Fr S b c) : Fr S a c :=
  ⟨k.os.trans h.os, k.tape.trans h.tape, k.output.trans h.output, Nat.le_trans h.size k.size, fun i hi hs => (k.block i (Nat.lt_of_lt_of_le hi h.size) hs).trans (h.block i hi hs)⟩
theorem Fr.mono {S' : Nat → Prop} (h : Fr S w w') (hs : ∀ k, S k → S' k) : Fr S' w w' := ⟨h.os, h.tape, h.output, h.size, fun i hi hn => h.block i hi fun hk => hn (hs i hk)⟩
theorem Fr.drew (h : Fr S a w) : Fr S a w.drew := ⟨h.os, h.tape, h.output, h.size, h.block⟩
theorem Fr.drewN (h : Fr S a w) (n : Nat) : Fr S a (w.drewN n) := ⟨h.os, h.tape, h.output, h.size, h.block⟩
theorem Fr.of_below (h : Below w.heap.size w w') : Fr S w w' := ⟨h.os, h.tape, h.output, h.size, fun k hk _ => h.block k hk⟩
theorem Fr.alloc (h : Fr S a w) (o : Obj) : Fr S a (w.alloc o) := h.trans (Fr.of_below ((Below.refl _ _).alloc (Nat.le_refl _) o))
theorem Fr.setCell (h : Fr S a w) {p : Addr} (hp : a.heap.size ≤ p.block ∨ S p.block) (u : Value) : Fr S a (w.setCell p u) :=
  ⟨h.os, h.tape, h.output, by simpa [World.setCell] using h.size, fun k hk hs => (Below.heap_setCell _ _ _ _ (by
    rintro rfl
    rcases hp with hp | hp
    · omega
    · exact hs hp)).trans (h.block k hk hs)⟩
theorem Fr.below {B : Nat} (h : Fr S w w') (hB : B ≤ w.heap.size) (hs : ∀ k, S k → B ≤ k) : Below B w w' :=
  ⟨h.os, h.tape, h.output, h.size, fun k hk => h.block k (Nat.lt_of_lt_of_le hk hB) fun hS => by have := hs k hS; omega⟩
theorem Fr.belowAll (h : Fr S w w') (hs : ∀ k, S k → w.heap.size ≤ k) : Below w.heap.size w w' := h.below (Nat.le_refl _) hs
theorem Fr.of_belowAt {B : Nat} (h : Below B w w') (hs : ∀ k, B ≤ k → S k) : Fr S w w' :=
  ⟨h.os, h.tape, h.output, h.size, fun k _ hn => h.block k (by
    rcases Nat.lt_or_ge k B with h' | h'
    · exact h'
    · exact absurd (hs k h') hn)⟩
theorem Fr.cell (h : Fr S w w') {p : Addr} (hp : p.block < w.heap.size) (hs : ¬ S p.block) : w'.cell? p = w.cell? p := World.cell?_of_block (w := w) (h.block p.block hp hs)
theorem Fr.cell_some (h : Fr S w w') {p : Addr} {v : Value} (hp : w.cell? p = some v) (hs : ¬ S p.block) : w'.cell? p = some v := (h.cell (World.block_lt_of_cell? w _ hp) hs).trans hp
theorem Fr.row_some (h : Fr S w w') {k : Nat} {o : Obj} (hp : w.heap[k]? = some o) (hs : ¬ S k) : w'.heap[k]? = some o := by
  have h0 : k < w.heap.size := by
    rcases Nat.lt_or_ge k w.heap.size with h' | h'
    · exact h'
    · rw [Array.getElem?_eq_none h'] at hp
      cases hp
  exact (h.block k h0 hs).trans hp
end

theorem block_lt {w : World} {k : Nat} {o : Obj} (h : w.heap[k]? = some o) : k < w.heap.size := by
  rcases Nat.lt_or_ge k w.heap.size with h' | h'
  · exact h'
  · rw [Array.getElem?_eq_none h'] at h
    cases h

section
variable {S : Nat → Prop} {w w' : World} {size n c B : Nat} {A : Option Addr} {xs : List Value} {e : TypeId}
theorem Sl.fr (h : Sl w size A n c xs) (hf : Fr S w w') (hA : ∀ b o, 0 < n → A = some ⟨b, o, none⟩ → ¬ S b) : Sl w' size A n c xs :=
  ⟨h.len, h.cap, h.top, fun j u hu => by
    obtain ⟨b, o, e, hc⟩ := h.cell j u hu
    refine ⟨b, o, e, hf.cell_some hc (hA b o ?_ e)⟩
    rcases Nat.eq_zero_or_pos n with rfl | hn
    · have := h.len
      rw [Nat.zero_mul] at this
      rw [List.eq_nil_of_length_eq_zero this] at hu
      cases hu
    · exact hn⟩
theorem Mine.fr (h : Mine w B e A n xs) (hf : Fr S w w') (hS : ∀ k, S k → k < B) : Mine w' B e A n xs := by
  intro hn
  obtain ⟨g, cur, hA, hB, hg, hs, ht⟩ := h hn
  exact ⟨g, cur, hA, hB, hf.row_some hg fun hk => by have := hS g hk; omega, hs, ht⟩
theorem Mine.slFr (h : Mine w B e A n xs) (hs : Sl w size A n c xs) (hf : Fr S w w') (hS : ∀ k, S k → k < B) : Sl w' size A n c xs :=
  hs.fr hf fun b o hn hA hk => by
    obtain ⟨g, cur, hA', hB, _⟩ := h hn
    rw [hA] at hA'
    injection hA' with hA'
    injection hA' with hA' _
    have := hS b hk
    omega
theorem Mine.lower {B' : Nat} (h : Mine w B e A n xs) (hB : B' ≤ B) : Mine w B' e A n xs := by
  intro hn
  obtain ⟨g, cur, hA, hb, r⟩ := h hn
  exact ⟨g, cur, hA, Nat.le_trans hB hb, r⟩
end
/-- Any call that answers true, and makes at most new memory. -/
def SaysTrue (w : World) (e : Ending) (w' : World) : Prop := e = .returned (.bool true) ∧ Below w.heap.size w w'

end Go.Proofs.Ytccnoflgbopjlaa
