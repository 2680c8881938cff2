/-
  A block of the heap that is known whole, as rows of k cells each ('Rw'): read, written, carried. Lists of rows laid one behind the other. Sectors and writes as cells. No program.
-/
import Derived.Test.YtmlmlmlbdjhfhaaDrb
import Derived.Deep.MidRow
namespace Go.Proofs.Ytmlmlmlbdjhfhaa
open Go.RowKit Go.Proofs
set_option linter.unusedVariables false

/-- Guards for walks: the operation that comes next writes slot d; it writes none. -/
theorem at_dst {P : Program} {ops : Array Oper} {Q : Exit → Act → World → Prop} {d : Nat} {op : Op} {ty : TypeId} {pos : String} {af : Array Edge} {gd : Option (Tmp × Bool)} {rest : List Oper} {a : Act} {w : World} (h : wpList P ops Q (⟨some d, op, ty, pos, af, gd⟩ :: rest) a w) : wpList P ops Q (⟨some d, op, ty, pos, af, gd⟩ :: rest) a w := h
theorem at_none {P : Program} {ops : Array Oper} {Q : Exit → Act → World → Prop} {t : TypeId} {x y : Operand} {ty : TypeId} {pos : String} {af : Array Edge} {gd : Option (Tmp × Bool)} {rest : List Oper} {a : Act} {w : World} (h : wpList P ops Q (⟨none, .store t x y, ty, pos, af, gd⟩ :: rest) a w) : wpList P ops Q (⟨none, .store t x y, ty, pos, af, gd⟩ :: rest) a w := h
/-- Block b: room for cap elements of k cells each, the first n of them read as xs. -/
structure Rw (w : World) (b : Nat) (T : TypeId) (k n cap : Nat) (xs : List Value) : Prop where
  ex : ∃ cur, w.heap[b]? = some (.cells cur T (0, 0)) ∧ cur.size = cap * k ∧ cur.toList.take (n * k) = xs
  le : n ≤ cap
  top : cap ≤ maxLen
section
variable {w w' : World} {b : Nat} {T : TypeId} {k n cap : Nat} {xs : List Value}
theorem Rw.lt (h : Rw w b T k n cap xs) : b < w.heap.size := by
  obtain ⟨cur, hb, _⟩ := h.ex
  exact block_lt hb
theorem Rw.len (h : Rw w b T k n cap xs) : xs.length = n * k := by
  obtain ⟨cur, _, hs, rfl⟩ := h.ex
  rw [List.length_take, Array.length_toList, hs]
  exact Nat.min_eq_left (Nat.mul_le_mul_right _ h.le)
theorem Rw.fr {S : Nat → Prop} (h : Rw w b T k n cap xs) (hf : Fr S w w') (hb : ¬ S b) : Rw w' b T k n cap xs := by
  obtain ⟨cur, h1, h2, h3⟩ := h.ex
  exact ⟨⟨cur, hf.row_some h1 hb, h2, h3⟩, h.le, h.top⟩
theorem Rw.later (h : Rw w b T k n cap xs) (hb : Below w.heap.size w w') : Rw w' b T k n cap xs := h.fr (Fr.of_below hb : Fr (fun _ => False) _ _) (fun h => h)
theorem Rw.cell (h : Rw w b T k n cap xs) {j : Nat} {v : Value} (hj : xs[j]? = some v) : w.cell? ⟨b, j, none⟩ = some v := by
  obtain ⟨cur, h1, h2, h3⟩ := h.ex
  rw [cell_of_row _ _ _ _ _ _ h1]
  have hl := (List.getElem?_eq_some_iff.1 hj).1
  rw [h.len] at hl
  rw [← h3, List.getElem?_take_of_lt hl] at hj
  simpa using hj
theorem Rw.free (h : Rw w b T k n cap xs) (j : Nat) : w.frozen? ⟨b, j, none⟩ = false := by
  obtain ⟨cur, h1, h2, h3⟩ := h.ex
  exact frozen_of_row _ _ _ _ _ h1
theorem Rw.sl (h : Rw w b T k n cap xs) : Sl w k (some ⟨b, 0, none⟩) n cap xs := ⟨h.len, h.le, h.top, fun j u hu => ⟨b, 0, rfl, by rw [Nat.zero_add]; exact h.cell hu⟩⟩
theorem Rw.range (h : Rw w b T k n cap xs) {o : Nat} {cs : List Value} (hc : ∀ j, j < cs.length → xs[o + j]? = cs[j]?) : w.rangeAt b o cs := fun j v hv => h.cell (by rw [hc j (List.getElem?_eq_some_iff.1 hv).1]; exact hv)
theorem Rw.there (h : Rw w b T k n cap xs) {o m : Nat} (hm : o + m ≤ n * k) : w.there b o m := fun j hj => ⟨by
  have hl : o + j < xs.length := by rw [h.len]; omega
  rw [h.cell (List.getElem?_eq_getElem hl)]; rfl, h.free _⟩
theorem Rw.owns (h : Rw w b T k n cap xs) : w.ownsRow 0 T k (.slice (some ⟨b, 0, none⟩) n cap) n xs := by
  obtain ⟨cur, h1, h2, h3⟩ := h.ex
  exact ⟨h.len, .inr ⟨b, cap, cur, rfl, Nat.zero_le _, h1, h.le, h.top, h2, h3⟩⟩
theorem Rw.of_owns {A : Option Addr} (h : w.ownsRow 0 T k (.slice A n cap) n xs) (hn : 0 < n) : ∃ b, A = some ⟨b, 0, none⟩ ∧ Rw w b T k n cap xs := by
  obtain ⟨hl, ⟨_, h0⟩ | ⟨g, c, cur, hv, _, hg, h1, h2, h3, h4⟩⟩ := h
  · omega
  · injection hv with hA _ hc
    subst hA
    subst hc
    exact ⟨g, rfl, ⟨cur, hg, h3, h4⟩, h1, h2⟩
theorem Rw.new (w : World) (cs : Array Value) (T : TypeId) (k n : Nat) (hs : cs.size = n * k) (hn : n ≤ maxLen) : Rw (w.alloc (.cells cs T)) w.heap.size T k n n cs.toList := by
  refine ⟨⟨cs, heap_alloc_new w _, hs, ?_⟩, Nat.le_refl _, hn⟩
  rw [← hs, ← Array.length_toList, List.take_length]
theorem take_mid {α : Type} (c vs : List α) (o m : Nat) (h : o + vs.length ≤ m) (hm : m ≤ c.length) : (c.take o ++ vs ++ c.drop (o + vs.length)).take m = (c.take m).take o ++ vs ++ (c.take m).drop (o + vs.length) := by
  apply List.ext_getElem?
  intro i
  simp only [List.getElem?_take, List.getElem?_append, List.length_append, List.length_take, List.getElem?_drop]
  have e1 : min o c.length = o := by omega
  have e2 : min o (min m c.length) = o := by omega
  rw [e1, e2]
  by_cases h1 : i < o + vs.length
  · have : i < m := by omega
    by_cases h2 : i < o
    · simp [h1, h2, this]
    · simp [h1, h2, this]
  · by_cases h2 : i < m
    · have : o + vs.length + (i - (o + vs.length)) < m := by omega
      simp [h1, h2, this]
    · have : ¬ o + vs.length + (i - (o + vs.length)) < m := by omega
      simp [h1, h2, this]
theorem Rw.store (h : Rw w b T k n cap xs) {o : Nat} {vs : List Value} (hm : o + vs.length ≤ n * k) (h1 : ∀ v ∈ vs, v.oneCell' = true) : Rw (w.setCells b o vs) b T k n cap (xs.take o ++ vs ++ xs.drop (o + vs.length)) := by
  obtain ⟨cur, hb, hs, rfl⟩ := h.ex
  have hnc : n * k ≤ cap * k := Nat.mul_le_mul_right _ h.le
  rw [setCells_row (P := default) hb (by omega) h1]
  refine ⟨⟨_, setRow_heap w b cur _ T _ hb, ?_, ?_⟩, h.le, h.top⟩
  · simp
    omega
  · show (cur.toList.take o ++ vs ++ cur.toList.drop (o + vs.length)).take (n * k) = _
    exact take_mid _ _ _ _ hm (by simp; omega)
end
theorem Fr.setCells {S : Nat → Prop} : ∀ (vs : List Value) {a w : World} {b o : Nat}, Fr S a w → S b → Fr S a (w.setCells b o vs)
  | [], _, _, _, _, h, _ => h
  | v :: vs, _, _, b, o, h, hb => Fr.setCells vs (h.setCell (p := ⟨b, o, none⟩) (.inr hb) v) hb

/-! Rows of k cells, one behind the other. -/
section
variable {α β : Type} {f : α → List β} {k : Nat}
theorem flat_len (h : ∀ a, (f a).length = k) : ∀ l : List α, (l.flatMap f).length = l.length * k
  | [] => by simp
  | a :: l => by rw [List.flatMap_cons, List.length_append, h, flat_len h l, List.length_cons, Nat.add_mul]; omega
theorem flat_get (h : ∀ a, (f a).length = k) : ∀ {l : List α} {i : Nat} {a : α}, l[i]? = some a → ∀ j, j < k → (l.flatMap f)[i * k + j]? = (f a)[j]?
  | a :: l, 0, b, hb, j, hj => by
    have hb : a = b := by simpa using hb
    subst hb
    rw [List.flatMap_cons, Nat.zero_mul, Nat.zero_add, List.getElem?_append_left (by rw [h]; exact hj)]
  | a :: l, i + 1, b, hb, j, hj => by
    have hb : l[i]? = some b := by simpa using hb
    have e : (i + 1) * k + j = i * k + j + k := by rw [Nat.add_mul]; omega
    rw [List.flatMap_cons, e, List.getElem?_append_right (by rw [h]; omega), h, Nat.add_sub_cancel]
    exact flat_get h hb j hj
theorem flat_set (h : ∀ a, (f a).length = k) : ∀ (l : List α) (i : Nat) (a : α), i < l.length → (l.flatMap f).take (i * k) ++ f a ++ (l.flatMap f).drop (i * k + k) = (l.set i a).flatMap f
  | [], _, _, hi => absurd hi (Nat.not_lt_zero _)
  | b :: l, 0, a, _ => by
    have := h b
    simp [List.flatMap_cons, this]
  | b :: l, i + 1, a, hi => by
    have e1 : (i + 1) * k = k + i * k := by rw [Nat.add_mul]; omega
    have hb := h b
    rw [List.set_cons_succ, List.flatMap_cons, List.flatMap_cons, ← flat_set h l i a (by simpa using hi), e1]
    rw [List.take_append, List.drop_append, hb, show k + i * k - k = i * k from by omega, show k + i * k + k - k = i * k + k from by omega]
    rw [List.take_of_length_le (by omega), List.drop_of_length_le (by omega)]
    simp
end

/-- A sector's 64 bytes. -/
def pad9 (b : List UInt8) : List UInt8 := (List.range 64).map fun j => b.getD j 0
theorem pad9_len (b : List UInt8) : (pad9 b).length = 64 := by simp [pad9]
theorem pad9_eq {b : List UInt8} (h : b.length = 64) : pad9 b = b := by
  apply List.ext_getElem?
  intro i
  by_cases hi : i < 64
  · have : i < b.length := by omega
    simp [pad9, hi, this]
  · rw [List.getElem?_eq_none (by rw [pad9_len]; omega), List.getElem?_eq_none (by omega)]
theorem pad9_get (b : List UInt8) {j : Nat} (h : j < 64) : (pad9 b)[j]? = some (b.getD j 0) := by simp [pad9, h]
/-- A sector that is stored, as cells; a write that waits. -/
def sec9 (d : List UInt8 × Bool) : List Value := cells (pad9 d.1) ++ [.bool d.2]
def wrc9 (p : Nat × List UInt8) : List Value := .int .i64 (p.1 : Int) :: cells (pad9 p.2)
theorem sec9_len (d : List UInt8 × Bool) : (sec9 d).length = 65 := by rw [sec9, List.length_append, cells_length, pad9_len]; rfl
theorem wrc9_len (p : Nat × List UInt8) : (wrc9 p).length = 65 := by rw [wrc9, List.length_cons, cells_length, pad9_len]
theorem sec9_one (d : List UInt8 × Bool) : ∀ v ∈ sec9 d, v.oneCell' = true := by
  intro v hv
  rcases List.mem_append.1 hv with h | h
  · exact cells_one _ v h
  · have : v = .bool d.2 := by simpa using h
    rw [this]; rfl
theorem wrc9_one (p : Nat × List UInt8) : ∀ v ∈ wrc9 p, v.oneCell' = true := by
  intro v hv
  rcases List.mem_cons.1 hv with h | h
  · rw [h]; rfl
  · exact cells_one _ v h
theorem flat_one {α : Type} {f : α → List Value} (h : ∀ a, ∀ v ∈ f a, v.oneCell' = true) (l : List α) : ∀ v ∈ l.flatMap f, v.oneCell' = true := by
  intro v hv
  obtain ⟨a, _, ha⟩ := List.mem_flatMap.1 hv
  exact h a v ha
section
variable {w : World} {b : Nat} {T : TypeId} {n cap i : Nat}
theorem Rw.sec_text {ds : List (List UInt8 × Bool)} {d : List UInt8 × Bool} (h : Rw w b T 65 n cap (ds.flatMap sec9)) (hd : ds[i]? = some d) : w.rangeAt b (i * 65) (cells (pad9 d.1)) := by
  refine h.range fun j hj => ?_
  rw [cells_length, pad9_len] at hj
  rw [flat_get sec9_len hd j (by omega), sec9, List.getElem?_append_left (by rw [cells_length, pad9_len]; exact hj)]
theorem Rw.sec_bad {ds : List (List UInt8 × Bool)} {d : List UInt8 × Bool} (h : Rw w b T 65 n cap (ds.flatMap sec9)) (hd : ds[i]? = some d) : w.cell? ⟨b, i * 65 + 64, none⟩ = some (.bool d.2) := by
  refine h.cell ?_
  rw [flat_get sec9_len hd 64 (by omega), sec9, List.getElem?_append_right (by rw [cells_length, pad9_len]; exact Nat.le_refl _), cells_length, pad9_len]
  rfl
theorem Rw.sec_byte {ds : List (List UInt8 × Bool)} {d : List UInt8 × Bool} (h : Rw w b T 65 n cap (ds.flatMap sec9)) (hd : ds[i]? = some d) {j : Nat} (hj : j < 64) : w.cell? ⟨b, i * 65 + j, none⟩ = some (bv (d.1.getD j 0)) := by
  refine h.cell ?_
  rw [flat_get sec9_len hd j (by omega), sec9, List.getElem?_append_left (by rw [cells_length, pad9_len]; exact hj), cells, List.getElem?_map, pad9_get _ hj]
  rfl
theorem Rw.wr_text {ps : List (Nat × List UInt8)} {p : Nat × List UInt8} (h : Rw w b T 65 n cap (ps.flatMap wrc9)) (hp : ps[i]? = some p) : w.rangeAt b (i * 65 + 1) (cells (pad9 p.2)) := by
  refine h.range fun j hj => ?_
  rw [cells_length, pad9_len] at hj
  rw [show i * 65 + 1 + j = i * 65 + (j + 1) from by omega, flat_get wrc9_len hp (j + 1) (by omega), wrc9, List.getElem?_cons_succ]
theorem Rw.wr_all {ps : List (Nat × List UInt8)} {p : Nat × List UInt8} (h : Rw w b T 65 n cap (ps.flatMap wrc9)) (hp : ps[i]? = some p) : w.rangeAt b (i * 65) (wrc9 p) := by
  refine h.range fun j hj => ?_
  rw [wrc9_len] at hj
  exact flat_get wrc9_len hp j hj
theorem Rw.sec_put {ds : List (List UInt8 × Bool)} (h : Rw w b T 65 n cap (ds.flatMap sec9)) (hi : i < n) (d : List UInt8 × Bool) : Rw (w.setCells b (i * 65) (sec9 d)) b T 65 n cap ((ds.set i d).flatMap sec9) := by
  have hl : ds.length = n := by have := h.len; rw [flat_len sec9_len] at this; omega
  have := h.store (o := i * 65) (vs := sec9 d) (by rw [sec9_len]; omega) (sec9_one d)
  rw [sec9_len, flat_set sec9_len ds i d (by omega)] at this
  exact this
end
end Go.Proofs.Ytmlmlmlbdjhfhaa
