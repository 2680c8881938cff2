/-
  Places below a number, told by a test: lists of them, the first one, runs. Bits of words. No program.
-/
import Derived.Test.YthkflghekgbgcaaDoorGa
import Derived.Lib.TrailingZeros
namespace Go.Proofs.YthkflghekgbgcaaDoor
open Go.RowKit
set_option linter.unusedVariables false

/-- The places below n, from a on, of which f tells t, rising. -/
def plc (n a : Nat) (f : Nat → Bool) (t : Bool) : List Nat := (List.range' a (n - a)).filter fun i => f i == t
/-- r is the first place from a on, below n, of which f tells t, or there is none and r is past the end. -/
structure Nxp (n : Nat) (f : Nat → Bool) (a : Nat) (t : Bool) (r : Nat) : Prop where
  le : a ≤ r
  no : ∀ i, a ≤ i → i < r → i < n → f i = !t
  yes : r < n → f r = t
section
variable {n a r i : Nat} {f : Nat → Bool} {t : Bool}
theorem plc_mem : i ∈ plc n a f t ↔ a ≤ i ∧ i < n ∧ f i = t := by
  rw [plc, List.mem_filter, List.mem_range'_1]
  constructor
  · rintro ⟨⟨h1, h2⟩, h3⟩
    exact ⟨h1, by omega, by simpa using h3⟩
  · rintro ⟨h1, h2, h3⟩
    exact ⟨⟨h1, by omega⟩, by simpa using h3⟩
theorem plc_up : (plc n a f t).Pairwise (· < ·) := (List.pairwise_lt_range' (s := a) (n := n - a)).filter _
theorem Nxp.nil (h : Nxp n f a t r) (hr : n ≤ r) : plc n a f t = [] := by
  rw [plc, List.filter_eq_nil_iff]
  intro i hi
  rw [List.mem_range'_1] at hi
  rw [h.no i hi.1 (by omega) (by omega)]
  cases t <;> simp
theorem Nxp.cons (h : Nxp n f a t r) (hr : r < n) : plc n a f t = r :: plc n (r + 1) f t := by
  have hle := h.le
  have e : n - a = (r - a) + (n - (r + 1) + 1) := by omega
  have e2 : a + (r - a) = r := by omega
  have h0 : (List.range' a (r - a)).filter (fun i => f i == t) = [] := by
    rw [List.filter_eq_nil_iff]
    intro i hi
    rw [List.mem_range'_1] at hi
    rw [h.no i hi.1 (by omega) (by omega)]
    cases t <;> simp
  rw [plc, e, ← List.range'_append_1, List.filter_append, h0, List.nil_append, e2, List.range'_succ, List.filter_cons_of_pos (by rw [h.yes hr]; simp), plc]
theorem plc_len_le : (plc n a f t).length ≤ n := by
  rw [plc]
  refine Nat.le_trans (List.length_filter_le _ _) ?_
  rw [List.length_range']
  omega
theorem plc_end (h : n ≤ a) : plc n a f t = [] := by rw [plc, show n - a = 0 by omega]; rfl
theorem plc_step_yes (ha : a < n) (h : f a = t) : plc n a f t = a :: plc n (a + 1) f t := (Nxp.cons ⟨Nat.le_refl _, fun i h1 h2 _ => absurd h2 (by omega), fun _ => h⟩ ha)
theorem plc_step_no (ha : a < n) (h : f a = !t) : plc n a f t = plc n (a + 1) f t := by
  rw [plc, show n - a = n - (a + 1) + 1 by omega, List.range'_succ, List.filter_cons_of_neg (by rw [h]; cases t <;> simp), plc]
/-- One more place at the end. -/
theorem plc_snoc (ha : a ≤ n) : plc (n + 1) a f t = plc n a f t ++ (if f n = t then [n] else []) := by
  rw [plc, show n + 1 - a = n - a + 1 by omega, List.range'_1_concat, List.filter_append, show a + (n - a) = n by omega, plc]
  congr 1
  by_cases h : f n = t
  · rw [if_pos h, List.filter_cons_of_pos (by simpa using h), List.filter_nil]
  · rw [if_neg h, List.filter_cons_of_neg (by simpa using h), List.filter_nil]
theorem plc_split {b : Nat} (h1 : a ≤ b) (h2 : b ≤ n) : plc n a f t = plc b a f t ++ plc n b f t := by
  rw [plc, show n - a = (b - a) + (n - b) by omega, ← List.range'_append_1, List.filter_append, show a + (b - a) = b by omega]
  rfl
theorem plc_congr {g : Nat → Bool} (h : ∀ i, a ≤ i → i < n → f i = g i) : plc n a f t = plc n a g t := by
  rw [plc, plc]
  apply List.filter_congr
  intro i hi
  rw [List.mem_range'_1] at hi
  rw [h i hi.1 (by omega)]
theorem plc_both : ∀ n, (plc n 0 f true).length + (plc n 0 f false).length = n
  | 0 => by simp [plc]
  | n + 1 => by
    have := plc_both n
    rw [plc_snoc (Nat.zero_le _), plc_snoc (Nat.zero_le _), List.length_append, List.length_append]
    cases h : f n <;> simp <;> omega
end
theorem up_unique : ∀ {l k : List Nat}, l.Pairwise (· < ·) → k.Pairwise (· < ·) → (∀ x, x ∈ l ↔ x ∈ k) → l = k
  | [], [], _, _, _ => rfl
  | [], b :: k, _, _, h => by have := (h b).2 (by simp); cases this
  | a :: l, [], _, _, h => by have := (h a).1 (by simp); cases this
  | a :: l, b :: k, hl, hk, h => by
    rw [List.pairwise_cons] at hl hk
    have e : a = b := by
      rcases List.mem_cons.1 ((h a).1 (by simp)) with h1 | h1
      · exact h1
      · rcases List.mem_cons.1 ((h b).2 (by simp)) with h2 | h2
        · exact h2.symm
        · have := hk.1 a h1
          have := hl.1 b h2
          omega
    subst e
    rw [up_unique hl.2 hk.2 fun x => ?_]
    constructor
    · intro hx
      rcases List.mem_cons.1 ((h x).1 (List.mem_cons_of_mem _ hx)) with h1 | h1
      · have := hl.1 x hx; omega
      · exact h1
    · intro hx
      rcases List.mem_cons.1 ((h x).2 (List.mem_cons_of_mem _ hx)) with h1 | h1
      · have := hk.1 x hx; omega
      · exact h1

/-- A function is handed one place after another, with what was found so far, till it says that that is all. -/
def goesP {α : Type} (F : α → Nat → α × Bool) : α → List Nat → α
  | v, [] => v
  | v, p :: l => if (F v p).2 then (F v p).1 else goesP F (F v p).1 l
theorem goes_count (l : List Nat) : ∀ c : Nat, goesP (fun (c : Nat) _ => (c + 1, false)) c l = c + l.length := by
  induction l with
  | nil => intro c; rfl
  | cons p l ih => intro c; show goesP _ (c + 1) l = _; rw [ih, List.length_cons]; omega
def headZ (l : List Nat) : Int := match l with | [] => -1 | p :: _ => (p : Int)
theorem goes_first (l : List Nat) : goesP (fun (_ : Int) p => ((p : Int), true)) (-1) l = headZ l := by
  cases l <;> rfl
theorem goes_list (l : List Nat) : ∀ k : List Nat, goesP (fun (k : List Nat) p => (k ++ [p], false)) k l = k ++ l := by
  induction l with
  | nil => intro c; simp [goesP]
  | cons p l ih => intro k; show goesP _ (k ++ [p]) l = _; rw [ih]; simp
def leastF (m : Nat) (k : List Nat) (p : Nat) : List Nat × Bool := (k ++ [p], decide (k.length + 1 = m))
theorem goes_least (m : Nat) (l : List Nat) : ∀ k : List Nat, k.length < m → goesP (leastF m) k l = k ++ l.take (m - k.length) := by
  induction l with
  | nil => intro k h; simp [goesP]
  | cons p l ih =>
    intro k h
    by_cases e : k.length + 1 = m
    · rw [goesP, show (leastF m k p).2 = true by simp [leastF, e], if_pos rfl, show m - k.length = 0 + 1 by omega]
      simp [leastF]
    · rw [goesP, show (leastF m k p).2 = false by simp [leastF, e], if_neg (by simp), show (leastF m k p).1 = k ++ [p] from rfl, ih _ (by simp; omega)]
      rw [show m - k.length = (m - (k ++ [p]).length) + 1 by simp; omega]
      simp

/-! Runs. -/
def RunIn (l : List Nat) (s m : Nat) : Prop := ∀ j, j < m → s + j ∈ l
def IsRunL (l : List Nat) (m : Nat) (z : Int) : Prop := (z = -1 ∧ ∀ s, ¬ RunIn l s m) ∨ ∃ s : Nat, z = (s : Int) ∧ RunIn l s m ∧ ∀ s', s' < s → ¬ RunIn l s' m
theorem IsRunL.one {l : List Nat} {m : Nat} {y z : Int} (h : IsRunL l m y) (k : IsRunL l m z) : y = z := by
  rcases h with ⟨rfl, h⟩ | ⟨s, rfl, h1, h2⟩ <;> rcases k with ⟨rfl, k⟩ | ⟨s', rfl, k1, k2⟩
  · rfl
  · exact absurd k1 (h s')
  · exact absurd h1 (k s)
  · rcases Nat.lt_trichotomy s s' with e | e | e
    · exact absurd h1 (k2 s e)
    · rw [e]
    · exact absurd k1 (h2 s' e)
theorem IsRunL.first {l : List Nat} (hl : l.Pairwise (· < ·)) : IsRunL l 1 (headZ l) := by
  cases l with
  | nil => exact .inl ⟨rfl, fun s h => by have := h 0 (by omega); cases this⟩
  | cons p l =>
    rw [List.pairwise_cons] at hl
    refine .inr ⟨p, rfl, fun j hj => by simp [show j = 0 by omega], fun s' hs h => ?_⟩
    have := h 0 (by omega)
    rcases List.mem_cons.1 this with h | h
    · omega
    · have := hl.1 _ h; omega
def runF (m : Nat) (r : Nat × Nat) (p : Nat) : (Nat × Nat) × Bool := ((if p = r.2 then r.1 else p, p + 1), decide ((m : Int) ≤ ((p + 1 : Nat) : Int) - ((if p = r.2 then r.1 else p : Nat) : Int)))
def runE (m : Nat) (r : Nat × Nat) : Int := if (m : Int) ≤ (r.2 : Int) - (r.1 : Int) then (r.1 : Int) else -1
theorem goes_run (m : Nat) (hm : 1 ≤ m) (suf : List Nat) : ∀ (pre : List Nat) (f b : Nat), (pre ++ suf).Pairwise (· < ·) → (∀ x ∈ pre, x < b) → (∀ x ∈ suf, b ≤ x) → f ≤ b → (∀ x, f ≤ x → x < b → x ∈ pre) → (f = 0 ∨ f - 1 ∉ pre) → (b : Int) - (f : Int) < (m : Int) → (∀ s, ¬ RunIn pre s m) → IsRunL (pre ++ suf) m (runE m (goesP (runF m) (f, b) suf)) := by
  induction suf with
  | nil =>
    intro pre f b _ _ _ _ _ _ hlt hno
    rw [List.append_nil]
    exact .inl ⟨by show (if _ then _ else _) = _; rw [if_neg (by show ¬ (m : Int) ≤ (b : Int) - (f : Int); omega)], hno⟩
  | cons p suf ih =>
    intro pre f b hup hpb hsb hfb hrun hmax hlt hno
    have hbp := hsb p (by simp)
    obtain ⟨f', hf'⟩ : ∃ f', f' = if p = b then f else p := ⟨_, rfl⟩
    have hf1 : f' ≤ p := by rw [hf']; split <;> omega
    have hrun' : ∀ x, f' ≤ x → x < p + 1 → x ∈ pre ++ [p] := by
      intro x h1 h2
      by_cases e : x = p
      · subst e; simp
      · by_cases e2 : p = b
        · rw [hf', if_pos e2] at h1
          exact List.mem_append_left _ (hrun x h1 (by omega))
        · rw [hf', if_neg e2] at h1
          omega
    have hmax' : f' = 0 ∨ f' - 1 ∉ pre ++ [p] := by
      by_cases e2 : p = b
      · rw [hf', if_pos e2]
        rcases hmax with h | h
        · exact .inl h
        · by_cases h0 : f = 0
          · exact .inl h0
          right
          intro hm
          rcases List.mem_append.1 hm with h1 | h1
          · exact h h1
          · have : f - 1 = p := by simpa using h1
            omega
      · rw [hf', if_neg e2]
        by_cases h0 : p = 0
        · exact .inl h0
        right
        intro hm
        rcases List.mem_append.1 hm with h1 | h1
        · have := hpb _ h1; omega
        · have : p - 1 = p := by simpa using h1
          omega
    have hpb' : ∀ x ∈ pre ++ [p], x < p + 1 := by
      intro x hx
      rcases List.mem_append.1 hx with h1 | h1
      · have := hpb _ h1; omega
      · have : x = p := by simpa using h1
        omega
    have e1 : pre ++ p :: suf = (pre ++ [p]) ++ suf := by simp
    have hup2 := hup
    rw [e1] at hup2
    have hsb' : ∀ x ∈ suf, p + 1 ≤ x := by
      intro x hx
      have := (List.pairwise_append.1 hup2).2.2 p (by simp) x hx
      omega
    -- a run that lies in pre ++ [p] and isn't in pre ends at p, so begins at f' or later
    have hin : ∀ s, RunIn (pre ++ [p]) s m → f' ≤ s ∧ s + m ≤ p + 1 := by
      intro s hs
      have hend : s + m ≤ p + 1 := by
        have := hpb' _ (hs (m - 1) (by omega))
        omega
      refine ⟨Nat.le_of_not_lt fun h => ?_, hend⟩
      have hp : ∃ j, j < m ∧ s + j = p := by
        refine Classical.byContradiction fun hn => hno s fun j hj => ?_
        rcases List.mem_append.1 (hs j hj) with h1 | h1
        · exact h1
        · exact absurd ⟨j, hj, by simpa using h1⟩ hn
      obtain ⟨j, hj, hp⟩ := hp
      rcases hmax' with h0 | h0
      · omega
      · have := hs (f' - 1 - s) (by omega)
        rw [show s + (f' - 1 - s) = f' - 1 by omega] at this
        exact h0 this
    have hF : runF m (f, b) p = ((f', p + 1), decide ((m : Int) ≤ ((p + 1 : Nat) : Int) - (f' : Int))) := by rw [hf']; rfl
    rw [goesP, hF]
    by_cases hd : (m : Int) ≤ ((p + 1 : Nat) : Int) - (f' : Int)
    · have hm1 : f' + m = p + 1 := by
        rw [hf'] at hd ⊢
        split at hd <;> (split <;> omega)
      rw [decide_eq_true hd, if_pos rfl]
      show IsRunL _ m (if (m : Int) ≤ ((p + 1 : Nat) : Int) - (f' : Int) then (f' : Int) else -1)
      rw [if_pos hd, e1]
      refine .inr ⟨f', rfl, fun j hj => List.mem_append_left _ (hrun' _ (by omega) (by omega)), fun s' hs' hr => ?_⟩
      have : RunIn (pre ++ [p]) s' m := by
        intro j hj
        rcases List.mem_append.1 (hr j hj) with h1 | h1
        · exact h1
        · have := hsb' _ h1; omega
      have := hin s' this
      omega
    · rw [decide_eq_false hd, if_neg (by simp), e1]
      refine ih (pre ++ [p]) f' (p + 1) hup2 hpb' hsb' (by omega) hrun' hmax' (by omega) fun s hs => ?_
      have := hin s hs
      omega
theorem run_code (m : Nat) (hm : 1 ≤ m) (l : List Nat) (hl : l.Pairwise (· < ·)) : IsRunL l m (runE m (goesP (runF m) (0, 0) l)) :=
  goes_run m hm l [] 0 0 hl (fun x h => by cases h) (fun _ _ => Nat.zero_le _) (Nat.le_refl _) (fun x _ h => absurd h (Nat.not_lt_zero _)) (.inl rfl) (by omega) (fun s h => by have := h 0 (by omega); cases this)
theorem up_ge {l : List Nat} (hl : l.Pairwise (· < ·)) : ∀ (k i : Nat), i + k < l.length → l.getD i 0 + k ≤ l.getD (i + k) 0
  | 0, i, _ => by simp
  | k + 1, i, h => by
    have := up_ge hl k i (by omega)
    have h2 := List.pairwise_iff_getElem.1 hl (i + k) (i + (k + 1)) (by omega) h (by omega)
    have e1 : l.getD (i + k) 0 = l[i + k] := by simp [List.getD_eq_getElem?_getD, show i + k < l.length by omega]
    have e2 : l.getD (i + (k + 1)) 0 = l[i + (k + 1)] := by rw [List.getD_eq_getElem?_getD, List.getElem?_eq_getElem h]; rfl
    rw [e1] at this
    rw [e2]
    omega
theorem up_mem {l : List Nat} {i : Nat} (h : i < l.length) : l.getD i 0 ∈ l := by
  rw [List.getD_eq_getElem?_getD, List.getElem?_eq_getElem h]
  exact List.getElem_mem h
theorem up_at {l : List Nat} {x : Nat} (h : x ∈ l) : ∃ i, i < l.length ∧ l.getD i 0 = x := by
  obtain ⟨i, hi, rfl⟩ := List.mem_iff_getElem.1 h
  exact ⟨i, hi, by rw [List.getD_eq_getElem?_getD, List.getElem?_eq_getElem hi]; rfl⟩
theorem up_lt {l : List Nat} (hl : l.Pairwise (· < ·)) {i j : Nat} (hj : j < l.length) (h : i < j) : l.getD i 0 < l.getD j 0 := by
  have := up_ge hl (j - i) i (by omega)
  rw [show i + (j - i) = j by omega] at this
  omega
/-- A run begins at l[i] if and only if the (m - 1)th behind it is so much greater. -/
theorem run_iff {l : List Nat} (hl : l.Pairwise (· < ·)) {m i : Nat} (hm : 1 ≤ m) (hi : i < l.length) : RunIn l (l.getD i 0) m ↔ (i + m ≤ l.length ∧ l.getD (i + (m - 1)) 0 = l.getD i 0 + (m - 1)) := by
  constructor
  · intro h
    have key : ∀ j, j < m → i + j < l.length ∧ l.getD (i + j) 0 = l.getD i 0 + j := by
      intro j
      induction j with
      | zero => intro _; exact ⟨hi, rfl⟩
      | succ j ih =>
        intro hj
        obtain ⟨h1, h2⟩ := ih (by omega)
        obtain ⟨q, hq, hx⟩ := up_at (h (j + 1) hj)
        have hq1 : i + j < q := by
          rcases Nat.lt_or_ge (i + j) q with h' | h'
          · exact h'
          · rcases Nat.eq_or_lt_of_le h' with h' | h'
            · rw [h'] at hx; omega
            · have := up_lt hl h1 h'; omega
        have hlen : i + (j + 1) < l.length := by omega
        have h3 : l.getD (i + (j + 1)) 0 ≤ l.getD q 0 := by
          rcases Nat.eq_or_lt_of_le (show i + (j + 1) ≤ q by omega) with h' | h'
          · rw [h']; exact Nat.le_refl _
          · exact Nat.le_of_lt (up_lt hl hq h')
        have h4 := up_lt hl hlen (show i + j < i + (j + 1) by omega)
        exact ⟨hlen, by omega⟩
    obtain ⟨h1, h2⟩ := key (m - 1) (by omega)
    exact ⟨by omega, h2⟩
  · rintro ⟨h1, h2⟩ j hj
    have a1 := up_ge hl j i (by omega)
    have a2 := up_ge hl (m - 1 - j) (i + j) (by omega)
    rw [show i + j + (m - 1 - j) = i + (m - 1) by omega] at a2
    rw [show l.getD i 0 + j = l.getD (i + j) 0 by omega]
    exact up_mem (by omega)
theorem run_doc_yes {l : List Nat} (hl : l.Pairwise (· < ·)) {m i : Nat} (hm : 1 ≤ m) (h1 : i + m ≤ l.length) (h2 : l.getD (i + (m - 1)) 0 = l.getD i 0 + (m - 1)) (hno : ∀ k, k < i → ¬ l.getD (k + (m - 1)) 0 = l.getD k 0 + (m - 1)) : IsRunL l m ((l.getD i 0 : Nat) : Int) := by
  refine .inr ⟨_, rfl, (run_iff hl hm (by omega)).2 ⟨h1, h2⟩, fun s' hs hr => ?_⟩
  obtain ⟨k, hk, rfl⟩ := up_at (hr 0 (by omega))
  have hki : k < i := by
    rcases Nat.lt_or_ge k i with h | h
    · exact h
    · rcases Nat.eq_or_lt_of_le h with h | h
      · subst h; omega
      · have := up_lt hl hk h; omega
  exact hno k hki ((run_iff hl hm hk).1 hr).2
theorem run_doc_no {l : List Nat} (hl : l.Pairwise (· < ·)) {m : Nat} (hm : 1 ≤ m) (hno : ∀ k, k + m ≤ l.length → ¬ l.getD (k + (m - 1)) 0 = l.getD k 0 + (m - 1)) : IsRunL l m (-1) := by
  refine .inl ⟨rfl, fun s hr => ?_⟩
  obtain ⟨k, hk, e⟩ := up_at (hr 0 (by omega))
  have e : l.getD k 0 = s := e
  subst e
  have := (run_iff hl hm hk).1 hr
  exact hno k this.1 this.2

/-! Bits of words of 64. -/
def bitW (ws : List Nat) (i : Nat) : Bool := (ws.getD (i / 64) 0).testBit (i % 64)
def pickW (t : Bool) (x : Nat) : Nat := if t then x else 18446744073709551615 - x
theorem pickW_bit {x : Nat} (hx : x < 18446744073709551616) (t : Bool) {j : Nat} (hj : j < 64) : (pickW t x).testBit j = (x.testBit j == t) := by
  cases t
  · have := Nat.testBit_two_pow_sub_succ (n := 64) (x := x) (by omega) j
    rw [show (2 : Nat) ^ 64 - (x + 1) = 18446744073709551615 - x by omega] at this
    rw [pickW, if_neg (by simp), this]
    cases x.testBit j <;> simp [hj]
  · simp [pickW]
theorem pickW_lt {x : Nat} (hx : x < 18446744073709551616) (t : Bool) : pickW t x < 18446744073709551616 := by
  cases t <;> simp [pickW] <;> omega
theorem word_no {x s : Nat} (hx : x < 18446744073709551616) (t : Bool) (h0 : pickW t x / 2 ^ s = 0) : ∀ j, s ≤ j → j < 64 → x.testBit j = !t := by
  intro j h1 h2
  have h := pickW_bit hx t h2
  have e : (pickW t x).testBit j = (pickW t x / 2 ^ s).testBit (j - s) := by rw [Nat.testBit_div_two_pow]; congr 1; omega
  rw [e, h0, Nat.zero_testBit] at h
  revert h
  cases t <;> cases x.testBit j <;> simp
theorem ctz_bits {y : Nat} (h0 : y ≠ 0) (hy : y < 18446744073709551616) : y.testBit (Lib.ctz 64 y) = true ∧ (∀ j, j < Lib.ctz 64 y → y.testBit j = false) ∧ Lib.ctz 64 y < 64 := by
  obtain ⟨m, e, hk⟩ := Lib.ctzFrom_spec 64 y (by omega) (by omega)
  have e2 : Lib.ctz 64 y = Lib.ctzFrom 64 y := by rw [Lib.ctz, if_neg h0]
  rw [e2]
  obtain ⟨k, hk'⟩ : ∃ k, k = Lib.ctzFrom 64 y := ⟨_, rfl⟩
  rw [← hk'] at e hk ⊢
  refine ⟨?_, fun j hj => ?_, hk⟩
  · rw [e, Nat.testBit_two_pow_mul, Nat.sub_self]
    simp
  · rw [e, Nat.testBit_two_pow_mul]
    simp
    omega
theorem word_yes {x s : Nat} (hx : x < 18446744073709551616) (t : Bool) {y : Nat} (hy : y = pickW t x / 2 ^ s) (h0 : y ≠ 0) :
    s + Lib.ctz 64 y < 64 ∧ x.testBit (s + Lib.ctz 64 y) = t ∧ ∀ j, s ≤ j → j < s + Lib.ctz 64 y → x.testBit j = !t := by
  have hy1 : y < 18446744073709551616 := by rw [hy]; exact Nat.lt_of_le_of_lt (Nat.div_le_self _ _) (pickW_lt hx t)
  obtain ⟨h1, h2, h3⟩ := ctz_bits h0 hy1
  obtain ⟨k, hk⟩ : ∃ k, k = Lib.ctz 64 y := ⟨_, rfl⟩
  rw [← hk] at h1 h2 h3 ⊢
  have sh : ∀ j, y.testBit j = (pickW t x).testBit (s + j) := by intro j; rw [hy, Nat.testBit_div_two_pow]; congr 1; omega
  rw [sh] at h1
  have hlt : s + k < 64 := by
    rcases Nat.lt_or_ge (s + k) 64 with h | h
    · exact h
    · rw [Nat.testBit_lt_two_pow (Nat.lt_of_lt_of_le (pickW_lt hx t) (Nat.le_trans (show 18446744073709551616 ≤ 2 ^ 64 by decide) (Nat.pow_le_pow_right (by omega) h)))] at h1
      cases h1
  refine ⟨hlt, ?_, fun j h4 h5 => ?_⟩
  · rw [pickW_bit hx t hlt] at h1
    simpa using h1
  · have := h2 (j - s) (by omega)
    rw [sh, show s + (j - s) = j by omega, pickW_bit hx t (by omega)] at this
    revert this
    cases t <;> cases x.testBit j <;> simp
/-- One place is turned. -/
theorem bitW_turn {ws : List Nat} {i x : Nat} (hi : i / 64 < ws.length) (hx : ws.getD (i / 64) 0 = x) (j : Nat) : bitW (ws.set (i / 64) (x ^^^ 2 ^ (i % 64))) j = if j = i then !bitW ws i else bitW ws j := by
  by_cases h : j / 64 = i / 64
  · have e : (ws.set (i / 64) (x ^^^ 2 ^ (i % 64))).getD (j / 64) 0 = x ^^^ 2 ^ (i % 64) := by rw [h]; simp [hi]
    rw [bitW, e, Nat.testBit_xor, Nat.testBit_two_pow]
    by_cases h2 : j = i
    · subst h2
      rw [if_pos rfl, bitW, hx]
      simp
    · rw [if_neg h2, bitW, h, hx]
      have : ¬ i % 64 = j % 64 := by omega
      simp [this]
  · have e : (ws.set (i / 64) (x ^^^ 2 ^ (i % 64))).getD (j / 64) 0 = ws.getD (j / 64) 0 := by
      simp only [List.getD_eq_getElem?_getD]
      rw [List.getElem?_set_ne (fun e => h e.symm)]
    rw [bitW, e, if_neg (by intro e2; exact h (by rw [e2])), bitW]
/-- A place is taken, or given back. -/
def putB (f : Nat → Bool) (i : Nat) (on : Bool) : Nat → Bool := fun j => if j = i then on else f j
end Go.Proofs.YthkflghekgbgcaaDoor
