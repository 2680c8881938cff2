/-
  What a drive holds, sector by sector, as bytes (layer 9): words for the laws' loops. No program.
-/
import Derived.Test.YtmlmlmlbdjhfhaaDrc
namespace Go.Proofs.Ytmlmlmlbdjhfhaa
open Go.RowKit Go.Proofs
set_option linter.unusedVariables false

/-- What is read of a drive that lives: at each sector a byte of l; k writes wait. -/
structure Hol (x : Dv) (N k : Nat) (l : List UInt8) : Prop where
  n : x.n = N
  gone : x.gone = false
  wait : x.wait.length = k
  len : l.length = N
  look : ∀ j, j < N → x.look j = full (l.getD j 0)
section
variable {x : Dv} {N k q : Nat} {l : List UInt8} {c : UInt8}
theorem Hol.new (N : Nat) : Hol (Dv.new N) N 0 (List.replicate N 0) :=
  ⟨Dv.new_n N, rfl, rfl, by simp, fun j hj => by rw [Dv.new_look hj]; simp [hj]⟩
theorem Hol.has (h : Hol x N k l) (hq : q < N) : x.has (q : Int) := ⟨by omega, by rw [h.n]; omega⟩
theorem Hol.writeX (h : Hol x N k l) (hq : q < N) (c : UInt8) : x.writeX (q : Int) (full c) = 0 := Dv.writeX_yes h.gone (h.has hq) (full_length c)
theorem Hol.write (h : Hol x N k l) (hq : q < N) (c : UInt8) : Hol (x.write (q : Int) (full c)) N (k + 1) (l.set q c) := by
  have hw := Dv.write_yes h.gone (h.has hq) (full_length c)
  refine ⟨by rw [hw]; exact h.n, by rw [hw]; exact h.gone, by rw [hw]; simp [h.wait], by rw [List.length_set]; exact h.len, fun j hj => ?_⟩
  rw [Dv.look_write h.gone (h.has hq) (full_length c), show ((q : Int)).toNat = q from by omega, List.getD_eq_getElem?_getD, List.getElem?_set]
  by_cases he : q = j
  · rw [if_pos he, if_pos he, if_pos (by rw [h.len]; omega)]
    rfl
  · rw [if_neg he, if_neg he, ← List.getD_eq_getElem?_getD]
    exact h.look j hj
theorem Hol.readX (h : Hol x N k l) (hq : q < N) : x.readX (q : Int) = 0 := Dv.readX_yes h.gone (h.has hq)
theorem Hol.readL (h : Hol x N k l) (hq : q < N) : x.readL (q : Int) = full (l.getD q 0) := by
  rw [Dv.readL_yes h.gone (h.has hq)]
  exact h.look q hq
theorem set_getD {q : Nat} (hq : q < l.length) : (l.set q c).getD q 0 = c := by simp [hq]
theorem Hol.flushX (h : Hol x N k l) : x.flushX = 0 := by rw [Dv.flushX, if_neg (by rw [h.gone]; decide)]
theorem Hol.flush (h : Hol x N k l) (ho : x.Ok) : Hol x.flush1 N 0 l := by
  have hf : x.flush1 = x.flush := by rw [Dv.flush1, if_neg (by rw [h.gone]; decide)]
  rw [hf]
  exact ⟨by rw [Dv.flush_n]; exact h.n, by rw [Dv.flush_gone]; exact h.gone, rfl, h.len, fun j hj => by
    rw [Dv.flush_look ho h.gone (by rw [h.n]; exact hj)]
    exact h.look j hj⟩
/-- One write waits, and the power goes away. -/
theorem Hol.crash1 (h : Hol x N 0 l) (hq : q < N) (c : UInt8) (ks : List Bool) (ho : x.Ok) : Hol ((x.write (q : Int) (full c)).crash ks) N 0 (if ks.getD 0 false = true then l.set q c else l) := by
  have h1 := h.write hq c
  have hw := Dv.write_yes h.gone (h.has hq) (full_length c)
  have ho1 := ho.write (q : Int) (full c)
  have hw0 : x.wait = [] := List.eq_nil_of_length_eq_zero h.wait
  have hl0 : ∀ j, x.look j = x.st.getD j [] := fun j => by
    show (Dv.lastW x.wait j).getD _ = _
    rw [hw0]
    rfl
  refine ⟨by rw [Dv.crash_n]; exact h1.n, by rw [Dv.crash_gone]; exact h1.gone, rfl, by split <;> simp [h.len], fun j hj => ?_⟩
  rw [Dv.crash_look ho1 h1.gone ks (by rw [h1.n]; exact hj), hw]
  show (Dv.lastW (Dv.kept (x.wait ++ [((q : Int).toNat, full c)]) ks) j).getD (x.st.getD j []) = _
  rw [hw0, List.nil_append, Dv.kept_one, show ((q : Int)).toNat = q from by omega]
  by_cases hk : ks.getD 0 false = true
  · rw [if_pos hk, if_pos hk]
    show (if q = j then some (full c) else none).getD (x.st.getD j []) = _
    rw [List.getD_eq_getElem?_getD (l := l.set q c), List.getElem?_set]
    by_cases he : q = j
    · rw [if_pos he, if_pos he, if_pos (by rw [h.len]; omega)]
      rfl
    · rw [if_neg he, if_neg he, ← List.getD_eq_getElem?_getD, ← h.look j hj, hl0]
      rfl
  · rw [if_neg hk, if_neg hk]
    show x.st.getD j [] = _
    rw [← hl0]
    exact h.look j hj
theorem held9 {j : Nat} {u : UInt8} {b : Bool} (hu : l[j]? = some u) (h : ¬ (j = q ∧ b = true)) : (if b = true then l.set q c else l).getD j 0 = u := by
  have h0 : l.getD j 0 = u := by rw [List.getD_eq_getElem?_getD, hu]; rfl
  by_cases hb : b = true
  · rw [if_pos hb, List.getD_eq_getElem?_getD, List.getElem?_set_ne (fun e => h ⟨e.symm, hb⟩), ← List.getD_eq_getElem?_getD]
    exact h0
  · rw [if_neg hb]
    exact h0
theorem held9_yes (hq : q < l.length) {b : Bool} (hb : b = true) : (if b = true then l.set q c else l).getD q 0 = c := by rw [if_pos hb, set_getD hq]
theorem first9 {ks : List Bool} {nk : Nat} (hn : nk = ks.length) (h : 0 < nk) : (bcells ks)[0]? = some (.bool (ks.getD 0 false)) := by
  cases ks with
  | nil => simp at hn; omega
  | cons b ks => rfl
theorem first9_no {ks : List Bool} {nk : Nat} (hn : nk = ks.length) (h : ¬ 0 < nk) : ks.getD 0 false = false := by
  cases ks with
  | nil => rfl
  | cons b ks => simp at hn; omega
end
section
variable {Rep : World → (Nat → Prop) → Nat → Dv → Prop} {w0 w w' : World} {X : Nat → Prop} {D : Nat} {x : Dv} {e : TypeId} {B n g : Nat} {xs : List Value}
/-- A block of the law's own. -/
theorem Lv.block (K : DrvK Rep) (h : Lv Rep w0 w (fun _ => False) D x) (o : Obj) : Lv Rep w0 (w.alloc o) (fun b => b = w.heap.size) D x := by
  obtain ⟨S, hr, hS⟩ := h.ex
  have hb : Below w.heap.size w (w.alloc o) := (Below.refl _ _).alloc (Nat.le_refl _) o
  have hsz : (w.alloc o).heap.size = w.heap.size + 1 := by simp
  exact ⟨⟨S, K.fr hr (Fr.of_below hb : Fr (fun _ => False) _ _) (fun _ _ h => h), fun b hb' => ⟨(hS b hb').1, fun hx => by
    have := K.old hr b hb'
    have hx : b = w.heap.size := hx
    omega⟩⟩, h.bel.trans (hb.mono h.bel.size), fun b hx => by have hx : b = w.heap.size := hx; omega⟩
theorem Mine.frG (h : Mine w B e (some ⟨g, 0, none⟩) n xs) (hf : Fr (Own9 w0 (fun b => b = g)) w w') : Mine w' B e (some ⟨g, 0, none⟩) n xs := by
  intro hn
  obtain ⟨g', cur, hA, hB, hg, hs, ht⟩ := h hn
  injection hA with hA
  injection hA with hA _
  subst hA
  exact ⟨g, cur, rfl, hB, hf.row_some hg fun hk => hk.2 rfl, hs, ht⟩
theorem Mine.laterB (h : Mine w B e (some ⟨g, 0, none⟩) n xs) (hb : Below w.heap.size w w') : Mine w' B e (some ⟨g, 0, none⟩) n xs := by
  intro hn
  obtain ⟨g', cur, hA, hB, hg, hs, ht⟩ := h hn
  exact ⟨g', cur, hA, hB, (Fr.of_below hb : Fr (fun _ => False) _ _).row_some hg (fun h => h), hs, ht⟩
end
/-- A place within the drive, as the law draws it in. -/
def AtQ (N : Nat) (w : World) (v : Value) (wx : World) : Prop := ∃ q : Nat, q < N ∧ v = .int .i64 (q : Int) ∧ w = wx
end Go.Proofs.Ytmlmlmlbdjhfhaa
