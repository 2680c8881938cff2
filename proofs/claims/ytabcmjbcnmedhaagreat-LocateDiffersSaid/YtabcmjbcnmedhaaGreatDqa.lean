/-
  Layer 8's mathematics: rows that hold, and aren't the same, differ in more than m rows; which rows two lists differ in. No program.
-/
import Derived.Test.YtabcmjbcnmedhaaGreatHf
import Derived.Test.YtabcmjbcnmedhaaGreatHd
namespace Go.Proofs.YtabcmjbcnmedhaaGreat
open Go.RowKit Go.Proofs
set_option linter.unusedVariables false

/-- Are two lists unlike in row i? A row that only one of them has is unlike. -/
def unlB (rs bs : List (List UInt8)) (i : Nat) : Bool := !(decide (i < rs.length) && decide (i < bs.length) && decide (rs.getD i [] = bs.getD i []))
/-- The first n of the numbers of the rows in which two lists are unlike. -/
def difL (rs bs : List (List UInt8)) (n : Nat) : List Nat := (List.range n).filter (unlB rs bs)
theorem difL_next (rs bs : List (List UInt8)) (n : Nat) : difL rs bs (n + 1) = if unlB rs bs n = true then difL rs bs n ++ [n] else difL rs bs n := by
  rw [difL, difL, List.range_succ, List.filter_append]
  by_cases h : unlB rs bs n = true
  · rw [if_pos h, List.filter_cons_of_pos h]; rfl
  · rw [if_neg h, List.filter_cons_of_neg h]; simp
theorem difL_le (rs bs : List (List UInt8)) (n : Nat) : (difL rs bs n).length ≤ n := by
  have := List.length_filter_le (unlB rs bs) (List.range n)
  rwa [List.length_range] at this
theorem unlB_f {rs bs : List (List UInt8)} {i : Nat} (ha : i < rs.length) (hb : i < bs.length) (h : rs.getD i [] = bs.getD i []) : unlB rs bs i = false := by
  rw [unlB, decide_eq_true ha, decide_eq_true hb, decide_eq_true h]; rfl
theorem unlB_no {rs bs : List (List UInt8)} {i : Nat} (h : unlB rs bs i = false) : i < rs.length ∧ i < bs.length ∧ rs.getD i [] = bs.getD i [] := by
  rw [unlB, Bool.not_eq_false', Bool.and_eq_true, Bool.and_eq_true] at h
  exact ⟨of_decide_eq_true h.1.1, of_decide_eq_true h.1.2, of_decide_eq_true h.2⟩
theorem unlB_self {rs : List (List UInt8)} {i : Nat} (h : i < rs.length) : unlB rs rs i = false := unlB_f h h rfl
theorem unlB_comm (rs bs : List (List UInt8)) (i : Nat) : unlB rs bs i = unlB bs rs i := by
  rw [unlB, unlB, Bool.and_comm (decide (i < rs.length)), show decide (rs.getD i [] = bs.getD i []) = decide (bs.getD i [] = rs.getD i []) from by simp [eq_comm]]
theorem difL_comm (rs bs : List (List UInt8)) (n : Nat) : difL rs bs n = difL bs rs n := List.filter_congr fun i _ => unlB_comm rs bs i
theorem difL_self (rs : List (List UInt8)) : difL rs rs rs.length = [] := List.filter_eq_nil_iff.2 fun i hi => by
  rw [unlB_self (List.mem_range.1 hi)]
  exact Bool.false_ne_true
/-- How many rows are alike. -/
theorem dif_alike (rs bs : List (List UInt8)) (n : Nat) : ((List.range n).filter fun i => !unlB rs bs i).length + (difL rs bs n).length = n := by
  have h : ∀ l : List Nat, (l.filter fun i => !unlB rs bs i).length + (l.filter (unlB rs bs)).length = l.length := by
    intro l
    induction l with
    | nil => rfl
    | cons x l ih =>
      by_cases hx : unlB rs bs x = true
      · rw [List.filter_cons_of_pos hx, List.filter_cons_of_neg (by rw [hx]; decide), List.length_cons, List.length_cons]
        omega
      · rw [List.filter_cons_of_neg hx, List.filter_cons_of_pos (by simpa using hx), List.length_cons, List.length_cons]
        omega
  have := h (List.range n)
  rwa [List.length_range] at this
/-- The third side. -/
theorem dif_tri (rs bs cs : List (List UInt8)) (n : Nat) (hb : n ≤ bs.length) : (difL rs cs n).length ≤ (difL rs bs n).length + (difL bs cs n).length := by
  have h : ∀ l : List Nat, (∀ i ∈ l, i < n) → (l.filter (unlB rs cs)).length ≤ (l.filter (unlB rs bs)).length + (l.filter (unlB bs cs)).length := by
    intro l
    induction l with
    | nil => intro _; exact Nat.le_refl _
    | cons x l ih =>
      intro hl
      have ih := ih fun i hi => hl i (List.mem_cons_of_mem _ hi)
      by_cases h1 : unlB rs cs x = true
      · rw [List.filter_cons_of_pos h1, List.length_cons]
        by_cases h2 : unlB rs bs x = true
        · rw [List.filter_cons_of_pos h2, List.length_cons]
          have : (l.filter (unlB bs cs)).length ≤ ((x :: l).filter (unlB bs cs)).length := by
            rw [List.filter_cons]
            split
            · rw [List.length_cons]; omega
            · exact Nat.le_refl _
          omega
        · have h3 : unlB bs cs x = true := by
            by_cases h3 : unlB bs cs x = true
            · exact h3
            · have q1 := unlB_no (show unlB rs bs x = false by simpa using h2)
              have q2 := unlB_no (show unlB bs cs x = false by simpa using h3)
              rw [unlB_f q1.1 q2.2.1 (q1.2.2.trans q2.2.2)] at h1
              cases h1
          rw [List.filter_cons_of_neg h2, List.filter_cons_of_pos h3, List.length_cons]
          omega
      · rw [List.filter_cons_of_neg h1]
        have e1 : (l.filter (unlB rs bs)).length ≤ ((x :: l).filter (unlB rs bs)).length := by
          rw [List.filter_cons]
          split
          · rw [List.length_cons]; omega
          · exact Nat.le_refl _
        have e2 : (l.filter (unlB bs cs)).length ≤ ((x :: l).filter (unlB bs cs)).length := by
          rw [List.filter_cons]
          split
          · rw [List.length_cons]; omega
          · exact Nat.le_refl _
        omega
  exact h (List.range n) fun i hi => List.mem_range.1 hi

section
variable {k m V : Nat} {ds es : List (List UInt8)}
/-- k rows that are alike make all data alike. -/
theorem Lev.agree (h : Lev k V ds) (h' : Lev k V es) (l : Nat → Nat) (hk : k ≤ 256) (hl : ∀ a, a < k → l a < 256) (hd : ∀ i, i < k → ∀ j, j < i → l i ≠ l j) (hs : ∀ a, a < k → shard k ds (l a) = shard k es (l a)) : ds = es := by
  have hin := any_inj hk hl hd
  have hp : ∀ p, p < V → ∀ j, j < k → (ds.getD j []).getD p 0 = (es.getD j []).getD p 0 := by
    intro p hp j hj
    have h0 := h.wid 0 (by omega)
    have h0' := h'.wid 0 (by omega)
    have hz := hin (fun j => (ds.getD j []).getD p 0 ^^^ (es.getD j []).getD p 0) (fun a ha => by
      show xs k (fun j => gm (facB k (l a) j) ((ds.getD j []).getD p 0 ^^^ (es.getD j []).getD p 0)) = 0
      have e1 := shard_at k ds (l a) p (by omega)
      have e2 := shard_at k es (l a) p (by omega)
      rw [hs a ha, e2] at e1
      injection e1 with e1
      rw [xs_congr k (g := fun j => gm (facB k (l a) j) ((ds.getD j []).getD p 0) ^^^ gm (facB k (l a) j) ((es.getD j []).getD p 0)) (fun j _ => gm_xor _ _ _), xs_xor, e1, UInt8.xor_self]) j hj
    exact UInt8.xor_eq_zero_iff.1 hz
  apply List.ext_getElem
  · rw [h.len, h'.len]
  · intro j h1 h2
    have hj : j < k := by rw [← h.len]; exact h1
    have e1 : ds.getD j [] = ds[j] := by rw [List.getD_eq_getElem?_getD, List.getElem?_eq_getElem h1]; rfl
    have e2 : es.getD j [] = es[j] := by rw [List.getD_eq_getElem?_getD, List.getElem?_eq_getElem h2]; rfl
    have l1 := h.wid j hj
    have l2 := h'.wid j hj
    rw [← e1, ← e2]
    apply List.ext_getElem
    · omega
    · intro p p1 p2
      have := hp p (by omega) j hj
      rw [List.getD_eq_getElem?_getD (l := ds.getD j []), List.getD_eq_getElem?_getD (l := es.getD j []), List.getElem?_eq_getElem p1, List.getElem?_eq_getElem p2] at this
      exact this
theorem Lev.all_at (h : Lev k V ds) (i : Nat) (hi : i < k + m) : (ds ++ parL k ds m).getD i [] = shard k ds i := by
  rw [← allL_eq k m ds h.len h.level]
  simp [allL, hi]
theorem Lev.all_len (h : Lev k V ds) : (ds ++ parL k ds m).length = k + m := by rw [List.length_append, h.len, parL_length]
/-- Rows that hold, and aren't the same, differ in more than m rows. -/
theorem Lev.far (h : Lev k V ds) (h' : Lev k V es) (h3 : k + m ≤ 255) (hle : (difL (ds ++ parL k ds m) (es ++ parL k es m) (k + m)).length ≤ m) : ds = es := by
  have hc := dif_alike (ds ++ parL k ds m) (es ++ parL k es m) (k + m)
  obtain ⟨L, hL⟩ : ∃ L, L = (List.range (k + m)).filter fun i => !unlB (ds ++ parL k ds m) (es ++ parL k es m) i := ⟨_, rfl⟩
  rw [← hL] at hc
  have hmem : ∀ a, a < L.length → L.getD a 0 < k + m ∧ unlB (ds ++ parL k ds m) (es ++ parL k es m) (L.getD a 0) = false := fun a ha => by
    have : L.getD a 0 ∈ L := by rw [List.getD_eq_getElem?_getD, List.getElem?_eq_getElem ha]; exact List.getElem_mem ha
    have q : ∀ x ∈ L, x < k + m ∧ unlB (ds ++ parL k ds m) (es ++ parL k es m) x = false := fun x hx => by
      rw [hL, List.mem_filter, List.mem_range] at hx
      exact ⟨hx.1, by simpa using hx.2⟩
    exact q _ this
  have hpw : L.Pairwise (· < ·) := by rw [hL]; exact List.Pairwise.filter _ List.pairwise_lt_range
  refine h.agree h' (fun a => L.getD a 0) (by omega) (fun a ha => by have := (hmem a (by omega)).1; omega) (fun i hi j hj => ?_) fun a ha => ?_
  · have := List.pairwise_iff_getElem.1 hpw j i (by omega) (by omega) hj
    simp only [List.getD_eq_getElem?_getD, List.getElem?_eq_getElem (show i < L.length by omega), List.getElem?_eq_getElem (show j < L.length by omega), Option.getD_some]
    omega
  · obtain ⟨q1, q2⟩ := hmem a (by omega)
    have q3 := (unlB_no q2).2.2
    rwa [h.all_at _ q1, h'.all_at _ q1] at q3
/-- Never two answers: of what lies within half of m of some rows. -/
theorem Lev.once (h : Lev k V ds) (h' : Lev k V es) (h3 : k + m ≤ 255) {bad : List (List UInt8)} {t : Nat} (hb : bad.length = k + m) (ht : 2 * t ≤ m) (h1 : (difL (ds ++ parL k ds m) bad (k + m)).length ≤ t) (h2 : (difL (es ++ parL k es m) bad (k + m)).length ≤ t) : ds = es := by
  refine h.far h' h3 ?_
  have := dif_tri (ds ++ parL k ds m) bad (es ++ parL k es m) (k + m) (by omega)
  rw [difL_comm bad] at this
  omega
end
end Go.Proofs.YtabcmjbcnmedhaaGreat
