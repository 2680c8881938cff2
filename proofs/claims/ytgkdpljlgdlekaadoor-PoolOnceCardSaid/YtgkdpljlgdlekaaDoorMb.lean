/-
  Layer 12's takes: the page's examples come. Condition: the table reads as the row lists it ('Tz').
  The walk of BitmapNil; Least and Run of whatever number. Condition: the table reads as the row lists it ('Tz').
  The walk of BitmapRuns. Condition: the table reads as the row lists it ('Tz').
  The walk of BitmapLeast. Condition: the table reads as the row lists it ('Tz').
  The document's map (layer 12): New, Has, Free, First, Run and Least. No condition but bounds.
  The document's map (layer 12): Free, First, Run and Least. No condition but bounds.
  The document's map (layer 12): Run. No condition but bounds.
  The document's map (layer 12): Set. No condition but bounds.
-/
import Derived.Test.YtgkdpljlgdlekaaDoorMa
namespace Go.Proofs.YtgkdpljlgdlekaaDoor
open Go.RowKit Go.Proofs
set_option linter.unusedVariables false

/-- Places that were laid in new memory, as the document's list. -/
def fe12 : Nat → Bool := setF 5 (fun _ => false) 1 true
theorem fe12_cnt : cntL 5 fe12 = 1 := by decide
theorem fe12_least : leastL 3 (plc 5 0 fe12 false) = [0, 2, 3] := by decide
theorem fe12_run : runE 2 (goesP (runF 2) (0, 0) (plc 5 0 fe12 false)) = 2 := by decide
theorem fe12_first : headZ (plc 5 1 fe12 false) = 2 := by decide
end Go.Proofs.YtgkdpljlgdlekaaDoor

namespace Go.Proofs.YtgkdpljlgdlekaaDoor
open Go.RowKit Go.Proofs
set_option linter.unusedVariables false

/-- What Least and Run answer, whatever they are handed. -/
def leastD (n : Nat) (f : Nat → Bool) (y : Int) : List Nat := if y < 1 then [] else leastL y.toNat (plc n 0 f false)
def runD12 (n : Nat) (f : Nat → Bool) (z y : Int) : Int := if y < 1 then -1 else runE y.toNat (goesP (runF y.toNat) (0, 0) (plc n z.toNat f false))
theorem least_z (v : Value) (n : Nat) (f : Nat → Bool) (y : Int) (hy : y < 9223372036854775808) (w : World) (h : Mp w v n f) (hN : Tz w) :
    Calls Tryd.prog 26 #[v, .int .i64 y] w (RetNums w (leastD n f y)) := by
  by_cases h1 : y < 1
  · rw [leastD, if_pos h1]
    exact least_no v y h1 w
  · rw [leastD, if_neg h1]
    have := least_any v n f y.toNat (by omega) (by omega) w h hN
    rwa [show ((y.toNat : Nat) : Int) = y by omega] at this
theorem least_zero (f : Nat → Bool) (y : Int) : leastD 0 f y = [] := by
  unfold leastD
  split
  · rfl
  · rw [leastL, plc_end (Nat.zero_le _), if_neg (by simp; omega)]
theorem run_zero (f : Nat → Bool) (z y : Int) : runD12 0 f z y = -1 := by
  unfold runD12
  split
  · rfl
  · rw [plc_end (Nat.zero_le _)]
    show (if _ then _ else _) = _
    rw [if_neg (by show ¬ ((y.toNat : Nat) : Int) ≤ ((0 : Nat) : Int) - ((0 : Nat) : Int); omega)]
/-- A Map that isn't there, or that nobody made. -/
def No12 (w : World) (v : Value) : Prop := Mp w v 0 (fun _ => false) ∧ (v = .pointer none ∨ ∃ M, v = .pointer (some ⟨M, 0, none⟩) ∧ w.cell? ⟨M, 0, none⟩ = some (.bool false))
theorem No12.keep {w w' : World} {v : Value} (h : No12 w v) (hb : Below w.heap.size w w') : No12 w' v :=
  ⟨h.1.keep hb, h.2.imp id fun ⟨M, e, hM⟩ => ⟨M, e, (Fr.of_below hb : Fr (fun _ => False) w w').cell_some hM (fun h => h)⟩⟩
theorem No12.copy {w : World} {v : Value} (h : No12 w v) : Calls Tryd.prog 40 #[v] w fun e w' => e = .returned (.pointer none) ∧ w' = w := by
  rcases h.2 with rfl | ⟨M, rfl, hM⟩
  · exact copy_nil w
  · exact copy_zero M w hM
theorem No12.zero (w : World) : No12 (w.alloc (.cells #[.bool false, .int .i64 0, .slice none 0 0] 62)) (.pointer (some ⟨w.heap.size, 0, none⟩)) := by
  have hx := heap_alloc_new w (.cells #[.bool false, .int .i64 0, .slice none 0 0] 62)
  refine ⟨⟨by decide, .inr ⟨w.heap.size, none, 0, 0, [], rfl, by rw [cell_of_row _ _ _ _ _ _ hx]; rfl, by rw [cell_of_row _ _ _ _ _ _ hx]; rfl, Sl.nil _ 1 0 (by decide), ⟨by decide, fun j => by simp, fun i h => absurd h (by omega)⟩⟩⟩, .inr ⟨w.heap.size, rfl, by rw [cell_of_row _ _ _ _ _ _ hx]; rfl⟩⟩

end Go.Proofs.YtgkdpljlgdlekaaDoor

namespace Go.Proofs.YtgkdpljlgdlekaaDoor
open Go.RowKit Go.Proofs
set_option linter.unusedVariables false

theorem step_min12 {ρ : Operand → Value} {o : Oper} {x y : Operand} {w : World} {a b : Int} (ho : o.op = .call { callee := .builtin .min, args := #[x, y], argTypes := #[3, 3] }) (hx : ρ x = .int .i64 a) (hy : ρ y = .int .i64 b) : (execOp ρ o).run Tryd.prog w = .ok (.value (.int .i64 (min a b))) w := by
  have e : (if b < a then b else a) = min a b := by split <;> omega
  unfold execOp
  simp only [ho, resolve, invoke, builtin, Sem.run_bind, Sem.run_pure, Result.andThen_ok, List.map_toArray, List.map_cons, List.map_nil, hx, hy, run_min_int2, e]
theorem step_max12 {ρ : Operand → Value} {o : Oper} {x y : Operand} {w : World} {a b c : Int} (ho : o.op = .call { callee := .builtin .max, args := #[x, y], argTypes := #[3, 3] }) (hx : ρ x = .int .i64 a) (hy : ρ y = .int .i64 b) (hc : max a b = c) : (execOp ρ o).run Tryd.prog w = .ok (.value (.int .i64 c)) w := by
  subst hc
  have e : (if b > a then b else a) = max a b := by split <;> omega
  unfold execOp
  simp only [ho, resolve, invoke, builtin, Sem.run_bind, Sem.run_pure, Result.andThen_ok, List.map_toArray, List.map_cons, List.map_nil, hx, hy, run_max_int2, e]
theorem wpList_step12 {P : Program} {ops : Array Oper} {rest : List Oper} {o : Oper} {a : Act} {w : World} {Q : Exit → Act → World → Prop} (hgd : o.guard = none) (v : Value) (w' : World) (hr : (execOp a.eval o).run P w = .ok (.value v) w') (hk : wpList P ops Q rest (a.put o.dst v) w') : wpList P ops Q (o :: rest) a w :=
  wpList_plain hgd fun _ hK => by
    unfold Oper.wp
    rw [hr]
    exact hK _ _ hk

/-- While runs are looked for, place by place from a on: the last s are free, and no run of m ends yet. -/
structure Sc (n : Nat) (f : Nat → Bool) (a m i s : Nat) : Prop where
  le : a + s ≤ i
  lt : s < m
  free : ∀ x, i ≤ x + s → x < i → f x = false
  most : i = a + s ∨ (a + s + 1 ≤ i ∧ f (i - s - 1) = true)
  no : ∀ t, a ≤ t → t + m ≤ i → ∃ j, j < m ∧ f (t + j) = true
section
variable {n a m i s : Nat} {f : Nat → Bool}
theorem Sc.start (hm : 1 ≤ m) : Sc n f a m a 0 := ⟨Nat.le_refl _, by omega, fun x h1 h2 => absurd h2 (by omega), .inl rfl, fun t h1 h2 => absurd h2 (by omega)⟩
theorem Sc.taken (h : Sc n f a m i s) (hf : f i = true) : Sc n f a m (i + 1) 0 := by
  have h1 := h.le
  have h2 := h.lt
  refine ⟨by omega, by omega, fun x h3 h4 => absurd h4 (by omega), .inr ⟨by omega, by simpa using hf⟩, fun t h3 h4 => ?_⟩
  by_cases e : t + m ≤ i
  · exact h.no t h3 e
  · exact ⟨i - t, by omega, by rw [show t + (i - t) = i by omega]; exact hf⟩
theorem Sc.more (h : Sc n f a m i s) (hf : f i = false) (hs : s + 1 < m) : Sc n f a m (i + 1) (s + 1) := by
  have h1 := h.le
  refine ⟨by omega, hs, fun x h3 h4 => ?_, ?_, fun t h3 h4 => ?_⟩
  · by_cases e : x = i
    · rw [e]; exact hf
    · exact h.free x (by omega) (by omega)
  · rcases h.most with e | ⟨e1, e2⟩
    · left; omega
    · right
      exact ⟨by omega, by rw [show i + 1 - (s + 1) - 1 = i - s - 1 by omega]; exact e2⟩
  · by_cases e : t + m ≤ i
    · exact h.no t h3 e
    · rcases h.most with e1 | ⟨e1, e2⟩
      · omega
      · exact ⟨i - s - 1 - t, by omega, by rw [show t + (i - s - 1 - t) = i - s - 1 by omega]; exact e2⟩
theorem Sc.found (h : Sc n f a m i s) (hi : i < n) (hf : f i = false) (hs : s + 1 = m) : IsRunL (plc n a f false) m ((i : Int) - (m : Int) + 1) := by
  have h1 := h.le
  refine .inr ⟨i - s, by omega, fun j hj => plc_mem.2 ⟨by omega, by omega, ?_⟩, fun t h3 hr => ?_⟩
  · by_cases e : i - s + j = i
    · rw [e]; exact hf
    · exact h.free _ (by omega) (by omega)
  · have h4 := (plc_mem.1 (hr 0 (by omega))).1
    obtain ⟨j, hj, e⟩ := h.no t h4 (by omega)
    have := (plc_mem.1 (hr j hj)).2.2
    rw [this] at e
    cases e
theorem Sc.end_ (h : Sc n f a m i s) (hi : n ≤ i) (hm : 1 ≤ m) : IsRunL (plc n a f false) m (-1) := by
  refine .inl ⟨rfl, fun t hr => ?_⟩
  have h4 := (plc_mem.1 (hr 0 (by omega))).1
  have h5 := (plc_mem.1 (hr (m - 1) (by omega))).2.1
  obtain ⟨j, hj, e⟩ := h.no t h4 (by omega)
  have := (plc_mem.1 (hr j hj)).2.2
  rw [this] at e
  cases e
theorem plc_min : plc n (min a n) f false = plc n a f false := by
  rcases Nat.le_total a n with h | h
  · rw [Nat.min_eq_left h]
  · rw [Nat.min_eq_right h, plc_end (Nat.le_refl _), plc_end h]
theorem run_code_z {z : Int} {y : Nat} (hy : 1 ≤ y) : IsRunL (plc n z.toNat f false) y (runD12 n f z (y : Int)) := by
  rw [runD12, if_neg (by omega), Int.toNat_natCast]
  exact run_code y hy _ plc_up
theorem run_one_first (z : Int) : runD12 n f z 1 = headZ (plc n z.toNat f false) := (run_code_z (n := n) (f := f) (z := z) (y := 1) (by omega)).one (IsRunL.first plc_up)
theorem run_none (z : Int) : runD12 n f z 0 = -1 := rfl
end

end Go.Proofs.YtgkdpljlgdlekaaDoor

namespace Go.Proofs.YtgkdpljlgdlekaaDoor
open Go.RowKit Go.Proofs
set_option linter.unusedVariables false

theorem cnt_put {n i : Nat} {f : Nat → Bool} (hi : i < n) (hf : f i = false) : cntL n (putB f i true) = cntL n f + 1 := by
  have e1 : plc i 0 (putB f i true) true = plc i 0 f true := plc_congr fun j _ hj => by rw [putB, if_neg (by omega)]
  have e2 : plc n (i + 1) (putB f i true) true = plc n (i + 1) f true := plc_congr fun j hj _ => by rw [putB, if_neg (by omega)]
  rw [cntL, cntL, plc_split (Nat.zero_le i) (Nat.le_of_lt hi), plc_split (f := f) (Nat.zero_le i) (Nat.le_of_lt hi), plc_step_yes hi (by rw [putB, if_pos rfl]), plc_step_no (f := f) hi (by rw [hf]; rfl), e1, e2]
  simp
  omega
theorem set_free {n p : Nat} {f : Nat → Bool} (hp : p < n) (hf : f p = false) : setB n f (p : Int) true = true ∧ setF n f (p : Int) true = putB f p true := by
  have h : inB n (p : Int) = true := by simp [inB]; omega
  rw [setB, setF, h, if_pos rfl, Int.toNat_natCast, hf]
  exact ⟨rfl, rfl⟩
theorem free_len {n : Nat} {f : Nat → Bool} : cntL n f + (plc n 0 f false).length = n := plc_both n
theorem leastD_no {n : Nat} {f : Nat → Bool} {y : Int} (h : y < 1 ∨ (n : Int) - (cntL n f : Int) < y) : leastD n f y = [] := by
  unfold leastD
  split
  · rfl
  · have := free_len (n := n) (f := f)
    rw [leastL, if_neg (by omega)]
/-- The m least free places, taken one after another. -/
structure Lt12 (n m : Nat) (f0 : Nat → Bool) (l : List Nat) : Prop where
  len : l.length = m
  free : ∀ i, i < m → l.getD i 0 < n ∧ f0 (l.getD i 0) = false
  new : ∀ i, i < m → l.getD i 0 ∉ l.take i
  all : 1 ≤ m → ∀ j, j ≤ l.getD (m - 1) 0 → f0 j = true ∨ j ∈ l
theorem leastD_yes {n : Nat} {f : Nat → Bool} {m : Nat} (h1 : 1 ≤ m) (h : m + cntL n f ≤ n) : Lt12 n m f (leastD n f (m : Int)) := by
  have hfl := free_len (n := n) (f := f)
  have e : leastD n f (m : Int) = (plc n 0 f false).take m := by
    rw [leastD, if_neg (by omega), Int.toNat_natCast, leastL, if_pos (by omega)]
  rw [e]
  have hup := plc_up (n := n) (a := 0) (f := f) (t := false)
  have hmem := fun x => plc_mem (n := n) (a := 0) (f := f) (t := false) (i := x)
  obtain ⟨l, hl⟩ : ∃ l, l = plc n 0 f false := ⟨_, rfl⟩
  rw [← hl] at hup hmem hfl ⊢
  have hlen : (l.take m).length = m := by rw [List.length_take]; omega
  have hget : ∀ i, i < m → (l.take m).getD i 0 = l.getD i 0 := by
    intro i hi
    rw [List.getD_eq_getElem?_getD, List.getElem?_take_of_lt hi, List.getD_eq_getElem?_getD]
  refine ⟨hlen, fun i hi => ?_, fun i hi hm => ?_, fun _ j hj => ?_⟩
  · rw [hget i hi]
    have := (hmem _).1 (up_mem (l := l) (i := i) (by omega))
    exact ⟨this.2.1, this.2.2⟩
  · rw [hget i hi] at hm
    obtain ⟨k, hk, e⟩ := up_at hm
    rw [List.length_take, List.length_take] at hk
    have e2 : ((l.take m).take i).getD k 0 = l.getD k 0 := by
      rw [List.getD_eq_getElem?_getD, List.getElem?_take_of_lt (by omega), ← List.getD_eq_getElem?_getD, hget k (by omega)]
    rw [e2] at e
    have := up_lt hup (i := k) (j := i) (by omega) (by omega)
    omega
  · rw [hget (m - 1) (by omega)] at hj
    have hb := (hmem _).1 (up_mem (l := l) (i := m - 1) (by omega))
    cases hf : f j
    · right
      obtain ⟨k, hk, e⟩ := up_at ((hmem j).2 ⟨Nat.zero_le _, by omega, hf⟩)
      have hkm : k < m := by
        rcases Nat.lt_or_ge k m with h' | h'
        · exact h'
        · have := up_lt hup (i := m - 1) (j := k) hk (by omega)
          omega
      rw [← e, ← hget k hkm]
      exact up_mem (by rw [hlen]; exact hkm)
    · left; rfl
/-- So many of them are taken. -/
structure Tk12 (n : Nat) (f0 : Nat → Bool) (l : List Nat) (i : Nat) (f : Nat → Bool) : Prop where
  is : ∀ j, j < n → f j = (f0 j || decide (j ∈ l.take i))
  cnt : cntL n f = cntL n f0 + i
theorem Tk12.next {n m i : Nat} {f0 f : Nat → Bool} {l : List Nat} (h : Tk12 n f0 l i f) (hl : Lt12 n m f0 l) (hi : i < m) : f (l.getD i 0) = false ∧ Tk12 n f0 l (i + 1) (putB f (l.getD i 0) true) := by
  obtain ⟨h1, h2⟩ := hl.free i hi
  have h3 : f (l.getD i 0) = false := by rw [h.is _ h1, h2, decide_eq_false (hl.new i hi)]; rfl
  have hil : i < l.length := by rw [hl.len]; exact hi
  have e : l.take (i + 1) = l.take i ++ [l.getD i 0] := by
    rw [List.getD_eq_getElem?_getD, List.getElem?_eq_getElem hil]
    simp
  refine ⟨h3, fun j hj => ?_, by rw [cnt_put h1 h3, h.cnt]; omega⟩
  rw [putB, e]
  by_cases hjl : j = l.getD i 0
  · rw [if_pos hjl, decide_eq_true (by rw [hjl]; simp), Bool.or_true]
  · rw [if_neg hjl, h.is j hj]
    congr 1
    rw [decide_eq_decide]
    constructor
    · intro hm; exact List.mem_append_left _ hm
    · intro hm
      rcases List.mem_append.1 hm with h' | h'
      · exact h'
      · exact absurd (List.mem_singleton.1 h') hjl

end Go.Proofs.YtgkdpljlgdlekaaDoor

namespace Go.Proofs.YtgkdpljlgdlekaaDoor
open Go.RowKit Go.Proofs
set_option linter.unusedVariables false

section
variable {w w' : World} {X n : Nat} {f : Nat → Bool} {A : Option Addr}
end
theorem cnt_le {n : Nat} {f : Nat → Bool} : cntL n f ≤ n := plc_len_le

theorem plc_none (n a : Nat) : plc n a (fun _ => false) true = [] := by
  rw [plc, List.filter_eq_nil_iff]
  intro i _
  simp
end Go.Proofs.YtgkdpljlgdlekaaDoor

namespace Go.Proofs.YtgkdpljlgdlekaaDoor
open Go.RowKit Go.Proofs
set_option linter.unusedVariables false

theorem head_yes {n i : Nat} {f : Nat → Bool} (hi : i < n) (hf : f i = true) : (plc i 0 f true).length < cntL n f ∧ (plc n 0 f true).getD (plc i 0 f true).length 0 = i := by
  have e := plc_split (f := f) (t := true) (Nat.zero_le i) (Nat.le_of_lt hi)
  rw [cntL, e, plc_step_yes hi hf]
  constructor
  · simp
  · rw [List.getD_eq_getElem?_getD, List.getElem?_append_right (Nat.le_refl _), Nat.sub_self]
    rfl
theorem head_no {n i : Nat} {f : Nat → Bool} (hi : i < n) (hf : f i = false) (hk : (plc i 0 f true).length < cntL n f) : (plc n 0 f true).getD (plc i 0 f true).length 0 ≠ i := by
  intro h
  have e := plc_split (f := f) (t := true) (Nat.zero_le i) (Nat.le_of_lt hi)
  rw [cntL, e, List.length_append] at hk
  rw [e, List.getD_eq_getElem?_getD, List.getElem?_append_right (Nat.le_refl _), Nat.sub_self, ← List.getD_eq_getElem?_getD] at h
  have := up_mem (l := plc n i f true) (i := 0) (by omega)
  rw [h] at this
  have := (plc_mem.1 this).2.2
  rw [hf] at this
  cases this
theorem len_le {n i : Nat} {f : Nat → Bool} (hi : i ≤ n) : (plc i 0 f true).length ≤ cntL n f := by
  rw [cntL, plc_split (f := f) (t := true) (Nat.zero_le i) hi, List.length_append]
  omega

end Go.Proofs.YtgkdpljlgdlekaaDoor

namespace Go.Proofs.YtgkdpljlgdlekaaDoor
open Go.RowKit Go.Proofs
set_option linter.unusedVariables false

end Go.Proofs.YtgkdpljlgdlekaaDoor

namespace Go.Proofs.YtgkdpljlgdlekaaDoor
open Go.RowKit Go.Proofs
set_option linter.unusedVariables false

/-- How the document's Set goes through the list. -/
def insS (i : Nat) (s : List Nat × Bool) (x : Nat) : List Nat × Bool :=
  if s.2 = false ∧ i < x then (s.1 ++ [i] ++ [x], true) else if x = i then s else (s.1 ++ [x], s.2)
def insR (l : List Nat) (i : Nat) (on : Bool) : List Nat := if (l.foldl (insS i) ([], !on)).2 then (l.foldl (insS i) ([], !on)).1 else (l.foldl (insS i) ([], !on)).1 ++ [i]
theorem fold_lt {i : Nat} : ∀ (a k : List Nat), (∀ x ∈ a, x < i) → a.foldl (insS i) (k, false) = (k ++ a, false)
  | [], k, _ => by simp
  | x :: a, k, h => by
    have hx := h x (by simp)
    rw [List.foldl_cons, show insS i (k, false) x = (k ++ [x], false) by rw [insS, if_neg (by simp; omega), if_neg (by omega)], fold_lt a _ (fun y hy => h y (List.mem_cons_of_mem _ hy))]
    simp
theorem fold_put {i : Nat} : ∀ (b k : List Nat), (∀ x ∈ b, x ≠ i) → b.foldl (insS i) (k, true) = (k ++ b, true)
  | [], k, _ => by simp
  | x :: b, k, h => by
    have hx := h x (by simp)
    rw [List.foldl_cons, show insS i (k, true) x = (k ++ [x], true) by rw [insS, if_neg (by simp), if_neg hx], fold_put b _ (fun y hy => h y (List.mem_cons_of_mem _ hy))]
    simp
theorem ins_eq {n i : Nat} {f : Nat → Bool} {on : Bool} (hi : i < n) (hf : f i = !on) : insR (plc n 0 f true) i on = plc n 0 (putB f i on) true := by
  have e1 : plc i 0 (putB f i on) true = plc i 0 f true := plc_congr fun j _ hj => by rw [putB, if_neg (by omega)]
  have e2 : plc n (i + 1) (putB f i on) true = plc n (i + 1) f true := plc_congr fun j hj _ => by rw [putB, if_neg (by omega)]
  have ha : ∀ x ∈ plc i 0 f true, x < i := fun x hx => (plc_mem.1 hx).2.1
  have hb : ∀ x ∈ plc n (i + 1) f true, i < x := fun x hx => (plc_mem.1 hx).1
  rw [insR, plc_split (f := f) (Nat.zero_le i) (Nat.le_of_lt hi), plc_split (f := putB f i on) (Nat.zero_le i) (Nat.le_of_lt hi), e1]
  cases on with
  | true =>
    rw [plc_step_no (f := f) hi (by simp [hf]), plc_step_yes (f := putB f i true) hi (by simp [putB]), e2]
    rw [List.foldl_append, show (!true) = false from rfl, fold_lt _ _ ha, List.nil_append]
    cases hc : plc n (i + 1) f true with
    | nil => simp
    | cons x c =>
      have hx := hb x (by rw [hc]; simp)
      rw [List.foldl_cons, show insS i (plc i 0 f true, false) x = (plc i 0 f true ++ [i] ++ [x], true) by rw [insS, if_pos ⟨rfl, hx⟩], fold_put _ _ (fun y hy => by have := hb y (by rw [hc]; exact List.mem_cons_of_mem _ hy); omega)]
      simp
  | false =>
    rw [plc_step_yes (f := f) hi (by simp [hf]), plc_step_no (f := putB f i false) hi (by simp [putB]), e2]
    rw [List.foldl_append, show (!false) = true from rfl, fold_put _ _ (fun x hx => by have := ha x hx; omega), List.nil_append, List.foldl_cons, show insS i (plc i 0 f true, true) i = (plc i 0 f true, true) by rw [insS, if_neg (by simp), if_pos rfl], fold_put _ _ (fun x hx => by have := hb x hx; omega)]
    simp

end Go.Proofs.YtgkdpljlgdlekaaDoor
